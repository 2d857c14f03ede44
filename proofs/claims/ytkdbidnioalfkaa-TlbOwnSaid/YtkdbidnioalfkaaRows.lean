/-
  No cell of these rows narrows 'for every input' (looked for: loops, veiled, ifaces, maps, wideKeys, modest, calm, conditions, laid).
  DERIVED. THE GIVEN ROWS OF THIS SEAT. 7 by the template 'for every input the law returns true; each argument reads behind the call as it read before'; 0 by the template 'total and deterministic' (their statements: YtkdbidnioalfkaaTotals.lean).
  GIVEN WITH THE SEED: the statements are not yours to turn. If you find one false, say at which input.
  Laid BY PROGRAM, IN A SANDBOX (cutbox-rows.mjs): the forced cells as the released guide's own fill.sh prints them over the translation a5f0d37f5dc1e515… (all of the seat's roots in one cut). By AI agents, Wed Nov 11 2026. No macro, syntax, notation, axiom, sorry.
-/
import Derived.Test.YtkdbidnioalfkaaChecked
import GoSem.Claim
import GoSem.ClaimJoined
import GoSem.ClaimMapViews
import Derived.JoinedTies
import Derived.KernelRfl
namespace Go.Proofs.Ytkdbidnioalfkaa
/- THE CELL 'sum', in the pinned program and in every row, IS THE sha256 OF THE DUMP (.gsa) THAT YtkdbidnioalfkaaProg.lean LOADS. Nothing in Lean hashes anything: it is a label: what it is worth is what the hold of that sum in a sandbox is worth. -/
noncomputable def Try.pinned : Pinned := { name := "ytkdbidnioalfkaa", sum := "a5f0d37f5dc1e515710e3a342bad97b3c19bdf177f94784e249fec24f205a678", checked := Try.checked }
namespace Rows
def none {H : Type} : Left H := { results := [], args := [] }

/-- 'granulelaw09.TlbFills': WHATEVER THE INPUT: true; the input reads as it did. -/
def tlbFillsSpec : ChangeSpec := { name := "tlbFills", fn := fun _ => fun
  | [d] => { results := [.lit (.bool true)], args := [d] }
  | _ => none }
def tlbFillsRow : OpenClaim := { program := "ytkdbidnioalfkaa", sum := "a5f0d37f5dc1e515710e3a342bad97b3c19bdf177f94784e249fec24f205a678", func := "granule/granulelaw09.TlbFills", spec := "tlbFills", apart := false }
def TlbFillsSaid : Prop := tlbFillsRow.holds Try.pinned (OpenSpec.ofChange tlbFillsSpec)

/-- ITS FALSE NEIGHBOUR: 'it returns false'. Refute it at one input. -/
def tlbFillsWrong : ChangeSpec := { name := "tlbFills", fn := fun _ => fun
  | [d] => { results := [.lit (.bool false)], args := [d] }
  | _ => none }
def TlbFillsWrongFalsely : Prop := tlbFillsRow.holds Try.pinned (OpenSpec.ofChange tlbFillsWrong)

/-- 'granulelaw09.TlbServes': WHATEVER THE INPUT: true; the input reads as it did. -/
def tlbServesSpec : ChangeSpec := { name := "tlbServes", fn := fun _ => fun
  | [d1, d2, d3] => { results := [.lit (.bool true)], args := [d1, d2, d3] }
  | _ => none }
def tlbServesRow : OpenClaim := { program := "ytkdbidnioalfkaa", sum := "a5f0d37f5dc1e515710e3a342bad97b3c19bdf177f94784e249fec24f205a678", func := "granule/granulelaw09.TlbServes", spec := "tlbServes", apart := false }
def TlbServesSaid : Prop := tlbServesRow.holds Try.pinned (OpenSpec.ofChange tlbServesSpec)

/-- ITS FALSE NEIGHBOUR: 'it returns false'. Refute it at one input. -/
def tlbServesWrong : ChangeSpec := { name := "tlbServes", fn := fun _ => fun
  | [d1, d2, d3] => { results := [.lit (.bool false)], args := [d1, d2, d3] }
  | _ => none }
def TlbServesWrongFalsely : Prop := tlbServesRow.holds Try.pinned (OpenSpec.ofChange tlbServesWrong)

/-- 'granulelaw09.TlbTakes': WHATEVER THE INPUT: true; the input reads as it did. -/
def tlbTakesSpec : ChangeSpec := { name := "tlbTakes", fn := fun _ => fun
  | [d1, d2, d3] => { results := [.lit (.bool true)], args := [d1, d2, d3] }
  | _ => none }
def tlbTakesRow : OpenClaim := { program := "ytkdbidnioalfkaa", sum := "a5f0d37f5dc1e515710e3a342bad97b3c19bdf177f94784e249fec24f205a678", func := "granule/granulelaw09.TlbTakes", spec := "tlbTakes", apart := false }
def TlbTakesSaid : Prop := tlbTakesRow.holds Try.pinned (OpenSpec.ofChange tlbTakesSpec)

/-- ITS FALSE NEIGHBOUR: 'it returns false'. Refute it at one input. -/
def tlbTakesWrong : ChangeSpec := { name := "tlbTakes", fn := fun _ => fun
  | [d1, d2, d3] => { results := [.lit (.bool false)], args := [d1, d2, d3] }
  | _ => none }
def TlbTakesWrongFalsely : Prop := tlbTakesRow.holds Try.pinned (OpenSpec.ofChange tlbTakesWrong)

/-- 'granulelaw09.TlbOwn': WHATEVER THE INPUT: true; the input reads as it did. -/
def tlbOwnSpec : ChangeSpec := { name := "tlbOwn", fn := fun _ => fun
  | [d1, d2] => { results := [.lit (.bool true)], args := [d1, d2] }
  | _ => none }
def tlbOwnRow : OpenClaim := { program := "ytkdbidnioalfkaa", sum := "a5f0d37f5dc1e515710e3a342bad97b3c19bdf177f94784e249fec24f205a678", func := "granule/granulelaw09.TlbOwn", spec := "tlbOwn", apart := false }
def TlbOwnSaid : Prop := tlbOwnRow.holds Try.pinned (OpenSpec.ofChange tlbOwnSpec)

/-- ITS FALSE NEIGHBOUR: 'it returns false'. Refute it at one input. -/
def tlbOwnWrong : ChangeSpec := { name := "tlbOwn", fn := fun _ => fun
  | [d1, d2] => { results := [.lit (.bool false)], args := [d1, d2] }
  | _ => none }
def TlbOwnWrongFalsely : Prop := tlbOwnRow.holds Try.pinned (OpenSpec.ofChange tlbOwnWrong)

/-- 'granulelaw08.WalkThrough': WHATEVER THE INPUT: true; the input reads as it did. -/
def walkThroughSpec : ChangeSpec := { name := "walkThrough", fn := fun _ => fun
  | [d1, d2, d3] => { results := [.lit (.bool true)], args := [d1, d2, d3] }
  | _ => none }
def walkThroughRow : OpenClaim := { program := "ytkdbidnioalfkaa", sum := "a5f0d37f5dc1e515710e3a342bad97b3c19bdf177f94784e249fec24f205a678", func := "granule/granulelaw08.WalkThrough", spec := "walkThrough", recurses := true, apart := false }
def WalkThroughSaid : Prop := walkThroughRow.holds Try.pinned (OpenSpec.ofChange walkThroughSpec)

/-- ITS FALSE NEIGHBOUR: 'it returns false'. Refute it at one input. -/
def walkThroughWrong : ChangeSpec := { name := "walkThrough", fn := fun _ => fun
  | [d1, d2, d3] => { results := [.lit (.bool false)], args := [d1, d2, d3] }
  | _ => none }
def WalkThroughWrongFalsely : Prop := walkThroughRow.holds Try.pinned (OpenSpec.ofChange walkThroughWrong)

/-- 'granulelaw08.WalkFirst': WHATEVER THE INPUT: true; the input reads as it did. -/
def walkFirstSpec : ChangeSpec := { name := "walkFirst", fn := fun _ => fun
  | [d1, d2] => { results := [.lit (.bool true)], args := [d1, d2] }
  | _ => none }
def walkFirstRow : OpenClaim := { program := "ytkdbidnioalfkaa", sum := "a5f0d37f5dc1e515710e3a342bad97b3c19bdf177f94784e249fec24f205a678", func := "granule/granulelaw08.WalkFirst", spec := "walkFirst", recurses := true, apart := false }
def WalkFirstSaid : Prop := walkFirstRow.holds Try.pinned (OpenSpec.ofChange walkFirstSpec)

/-- ITS FALSE NEIGHBOUR: 'it returns false'. Refute it at one input. -/
def walkFirstWrong : ChangeSpec := { name := "walkFirst", fn := fun _ => fun
  | [d1, d2] => { results := [.lit (.bool false)], args := [d1, d2] }
  | _ => none }
def WalkFirstWrongFalsely : Prop := walkFirstRow.holds Try.pinned (OpenSpec.ofChange walkFirstWrong)

/-- 'granulelaw08.WalkSyndromes': WHATEVER THE INPUT: true; the input reads as it did. -/
def walkSyndromesSpec : ChangeSpec := { name := "walkSyndromes", fn := fun _ => fun
  | [d] => { results := [.lit (.bool true)], args := [d] }
  | _ => none }
def walkSyndromesRow : OpenClaim := { program := "ytkdbidnioalfkaa", sum := "a5f0d37f5dc1e515710e3a342bad97b3c19bdf177f94784e249fec24f205a678", func := "granule/granulelaw08.WalkSyndromes", spec := "walkSyndromes", recurses := true, apart := false }
def WalkSyndromesSaid : Prop := walkSyndromesRow.holds Try.pinned (OpenSpec.ofChange walkSyndromesSpec)

/-- ITS FALSE NEIGHBOUR: 'it returns false'. Refute it at one input. -/
def walkSyndromesWrong : ChangeSpec := { name := "walkSyndromes", fn := fun _ => fun
  | [d] => { results := [.lit (.bool false)], args := [d] }
  | _ => none }
def WalkSyndromesWrongFalsely : Prop := walkSyndromesRow.holds Try.pinned (OpenSpec.ofChange walkSyndromesWrong)

/- THE SECOND FORM. 'bulk': how many values and letters a reading holds, each counted each time it is reached (what is shared counts as often as it is met; a slice's spare places count too). A statement '..UptoSaid' is the law's where the arguments, and the package variables that the reading takes, are together of bulk at most 1048576: NARROWER than '..Said'. Prove '..Said' where nothing that the law and all that it calls make is longer than what came in: it says more and counts as full. Else prove '..UptoSaid'. A law counts once. -/
mutual
def uptoBulk {H : Type} : DataW H → Nat
  | .lit (.string bytes) => bytes.length + 1
  | .lit _ => 1
  | .nil => 1
  | .ptr d => uptoBulk d + 1
  | .slice elems spare => uptoBulkAll elems + uptoBulkAll spare + 1
  | .agg parts => uptoBulkAll parts + 1
  | .iface _ d => uptoBulk d + 1
  | .map entries => uptoBulkEntries entries + 1
  | .held _ => 1
def uptoBulkAll {H : Type} : List (DataW H) → Nat
  | [] => 0
  | d :: r => uptoBulk d + uptoBulkAll r
def uptoBulkEntries {H : Type} : List (Lit × DataW H) → Nat
  | [] => 0
  | x :: r => uptoBulkEntry x + uptoBulkEntries r
def uptoBulkEntry {H : Type} : Lit × DataW H → Nat
  | (.string bytes, d) => bytes.length + uptoBulk d + 1
  | (_, d) => uptoBulk d + 1
 end
def uptoSmall : (H : Type) → List (DataW H) → Bool := fun _ ds => decide (uptoBulkAll ds ≤ 1048576)
def OpenSpec.upto (s : _root_.Go.ChangeSpec) : _root_.Go.OpenSpec := { _root_.Go.OpenSpec.ofChange s with cond := some uptoSmall }

/-- 'granulelaw09.TlbFills', WHERE WHAT IT READS IS OF BULK AT MOST 1048576: true; the input reads as it did. -/
def tlbFillsUptoRow : OpenClaim := { program := "ytkdbidnioalfkaa", sum := "a5f0d37f5dc1e515710e3a342bad97b3c19bdf177f94784e249fec24f205a678", func := "granule/granulelaw09.TlbFills", spec := "tlbFills", apart := false, narrowed := true }
def TlbFillsUptoSaid : Prop := tlbFillsUptoRow.holds Try.pinned (OpenSpec.upto tlbFillsSpec)

/-- 'granulelaw09.TlbServes', WHERE WHAT IT READS IS OF BULK AT MOST 1048576: true; the input reads as it did. -/
def tlbServesUptoRow : OpenClaim := { program := "ytkdbidnioalfkaa", sum := "a5f0d37f5dc1e515710e3a342bad97b3c19bdf177f94784e249fec24f205a678", func := "granule/granulelaw09.TlbServes", spec := "tlbServes", apart := false, narrowed := true }
def TlbServesUptoSaid : Prop := tlbServesUptoRow.holds Try.pinned (OpenSpec.upto tlbServesSpec)

/-- 'granulelaw09.TlbTakes', WHERE WHAT IT READS IS OF BULK AT MOST 1048576: true; the input reads as it did. -/
def tlbTakesUptoRow : OpenClaim := { program := "ytkdbidnioalfkaa", sum := "a5f0d37f5dc1e515710e3a342bad97b3c19bdf177f94784e249fec24f205a678", func := "granule/granulelaw09.TlbTakes", spec := "tlbTakes", apart := false, narrowed := true }
def TlbTakesUptoSaid : Prop := tlbTakesUptoRow.holds Try.pinned (OpenSpec.upto tlbTakesSpec)

/-- 'granulelaw09.TlbOwn', WHERE WHAT IT READS IS OF BULK AT MOST 1048576: true; the input reads as it did. -/
def tlbOwnUptoRow : OpenClaim := { program := "ytkdbidnioalfkaa", sum := "a5f0d37f5dc1e515710e3a342bad97b3c19bdf177f94784e249fec24f205a678", func := "granule/granulelaw09.TlbOwn", spec := "tlbOwn", apart := false, narrowed := true }
def TlbOwnUptoSaid : Prop := tlbOwnUptoRow.holds Try.pinned (OpenSpec.upto tlbOwnSpec)

/-- 'granulelaw08.WalkThrough', WHERE WHAT IT READS IS OF BULK AT MOST 1048576: true; the input reads as it did. -/
def walkThroughUptoRow : OpenClaim := { program := "ytkdbidnioalfkaa", sum := "a5f0d37f5dc1e515710e3a342bad97b3c19bdf177f94784e249fec24f205a678", func := "granule/granulelaw08.WalkThrough", spec := "walkThrough", recurses := true, apart := false, narrowed := true }
def WalkThroughUptoSaid : Prop := walkThroughUptoRow.holds Try.pinned (OpenSpec.upto walkThroughSpec)

/-- 'granulelaw08.WalkFirst', WHERE WHAT IT READS IS OF BULK AT MOST 1048576: true; the input reads as it did. -/
def walkFirstUptoRow : OpenClaim := { program := "ytkdbidnioalfkaa", sum := "a5f0d37f5dc1e515710e3a342bad97b3c19bdf177f94784e249fec24f205a678", func := "granule/granulelaw08.WalkFirst", spec := "walkFirst", recurses := true, apart := false, narrowed := true }
def WalkFirstUptoSaid : Prop := walkFirstUptoRow.holds Try.pinned (OpenSpec.upto walkFirstSpec)

/-- 'granulelaw08.WalkSyndromes', WHERE WHAT IT READS IS OF BULK AT MOST 1048576: true; the input reads as it did. -/
def walkSyndromesUptoRow : OpenClaim := { program := "ytkdbidnioalfkaa", sum := "a5f0d37f5dc1e515710e3a342bad97b3c19bdf177f94784e249fec24f205a678", func := "granule/granulelaw08.WalkSyndromes", spec := "walkSyndromes", recurses := true, apart := false, narrowed := true }
def WalkSyndromesUptoSaid : Prop := walkSyndromesUptoRow.holds Try.pinned (OpenSpec.upto walkSyndromesSpec)

end Rows
end Go.Proofs.Ytkdbidnioalfkaa
