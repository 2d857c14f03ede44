/-
  No cell of these rows narrows 'for every input' (looked for: loops, veiled, ifaces, maps, wideKeys, modest, calm, conditions, laid).
  DERIVED. THE GIVEN ROWS OF THIS SEAT. 5 by the template 'for every input the law returns true; each argument reads behind the call as it read before'; 0 by the template 'total and deterministic' (their statements: YteiokenijmaloaaTotals.lean).
  GIVEN WITH THE SEED: the statements are not yours to turn. If you find one false, say at which input.
  Laid BY PROGRAM, IN A SANDBOX (cutbox-rows.mjs): the forced cells as the released guide's own fill.sh prints them over the translation 71bd420d08032a29… (all of the seat's roots in one cut). By AI agents, Wed Nov 11 2026. No macro, syntax, notation, axiom, sorry.
-/
import Derived.Test.YteiokenijmaloaaChecked
import GoSem.Claim
import GoSem.ClaimJoined
import GoSem.ClaimMapViews
import Derived.JoinedTies
import Derived.KernelRfl
namespace Go.Proofs.Yteiokenijmaloaa
/- THE CELL 'sum', in the pinned program and in every row, IS THE sha256 OF THE DUMP (.gsa) THAT YteiokenijmaloaaProg.lean LOADS. Nothing in Lean hashes anything: it is a label: what it is worth is what the hold of that sum in a sandbox is worth. -/
noncomputable def Try.pinned : Pinned := { name := "yteiokenijmaloaa", sum := "71bd420d08032a291d1ba62677fea12eb88c6e21e5dfed9d2ead5fa33782a7b9", checked := Try.checked }
namespace Rows
def none {H : Type} : Left H := { results := [], args := [] }

/-- 'granulelaw09.TlbPlays': WHATEVER THE INPUT: true; the input reads as it did. -/
def tlbPlaysSpec : ChangeSpec := { name := "tlbPlays", fn := fun _ => fun
  | [d1, d2] => { results := [.lit (.bool true)], args := [d1, d2] }
  | _ => none }
def tlbPlaysRow : OpenClaim := { program := "yteiokenijmaloaa", sum := "71bd420d08032a291d1ba62677fea12eb88c6e21e5dfed9d2ead5fa33782a7b9", func := "granule/granulelaw09.TlbPlays", spec := "tlbPlays", unfollowed := true, recurses := true, apart := false }
def TlbPlaysSaid : Prop := tlbPlaysRow.holds Try.pinned (OpenSpec.ofChange tlbPlaysSpec)

/-- ITS FALSE NEIGHBOUR: 'it returns false'. Refute it at one input. -/
def tlbPlaysWrong : ChangeSpec := { name := "tlbPlays", fn := fun _ => fun
  | [d1, d2] => { results := [.lit (.bool false)], args := [d1, d2] }
  | _ => none }
def TlbPlaysWrongFalsely : Prop := tlbPlaysRow.holds Try.pinned (OpenSpec.ofChange tlbPlaysWrong)

/-- 'granulelaw09.TlbKeeps': WHATEVER THE INPUT: true; the input reads as it did. -/
def tlbKeepsSpec : ChangeSpec := { name := "tlbKeeps", fn := fun _ => fun
  | [d1, d2] => { results := [.lit (.bool true)], args := [d1, d2] }
  | _ => none }
def tlbKeepsRow : OpenClaim := { program := "yteiokenijmaloaa", sum := "71bd420d08032a291d1ba62677fea12eb88c6e21e5dfed9d2ead5fa33782a7b9", func := "granule/granulelaw09.TlbKeeps", spec := "tlbKeeps", unfollowed := true, recurses := true, apart := false }
def TlbKeepsSaid : Prop := tlbKeepsRow.holds Try.pinned (OpenSpec.ofChange tlbKeepsSpec)

/-- ITS FALSE NEIGHBOUR: 'it returns false'. Refute it at one input. -/
def tlbKeepsWrong : ChangeSpec := { name := "tlbKeeps", fn := fun _ => fun
  | [d1, d2] => { results := [.lit (.bool false)], args := [d1, d2] }
  | _ => none }
def TlbKeepsWrongFalsely : Prop := tlbKeepsRow.holds Try.pinned (OpenSpec.ofChange tlbKeepsWrong)

/-- 'granulelaw09.TlbDrops': WHATEVER THE INPUT: true; the input reads as it did. -/
def tlbDropsSpec : ChangeSpec := { name := "tlbDrops", fn := fun _ => fun
  | [d1, d2] => { results := [.lit (.bool true)], args := [d1, d2] }
  | _ => none }
def tlbDropsRow : OpenClaim := { program := "yteiokenijmaloaa", sum := "71bd420d08032a291d1ba62677fea12eb88c6e21e5dfed9d2ead5fa33782a7b9", func := "granule/granulelaw09.TlbDrops", spec := "tlbDrops", unfollowed := true, recurses := true, apart := false }
def TlbDropsSaid : Prop := tlbDropsRow.holds Try.pinned (OpenSpec.ofChange tlbDropsSpec)

/-- ITS FALSE NEIGHBOUR: 'it returns false'. Refute it at one input. -/
def tlbDropsWrong : ChangeSpec := { name := "tlbDrops", fn := fun _ => fun
  | [d1, d2] => { results := [.lit (.bool false)], args := [d1, d2] }
  | _ => none }
def TlbDropsWrongFalsely : Prop := tlbDropsRow.holds Try.pinned (OpenSpec.ofChange tlbDropsWrong)

/-- 'granulelaw09.TlbServing': WHATEVER THE INPUT: true; the input reads as it did. -/
def tlbServingSpec : ChangeSpec := { name := "tlbServing", fn := fun _ => fun
  | [d1, d2, d3] => { results := [.lit (.bool true)], args := [d1, d2, d3] }
  | _ => none }
def tlbServingRow : OpenClaim := { program := "yteiokenijmaloaa", sum := "71bd420d08032a291d1ba62677fea12eb88c6e21e5dfed9d2ead5fa33782a7b9", func := "granule/granulelaw09.TlbServing", spec := "tlbServing", unfollowed := true, recurses := true, apart := false }
def TlbServingSaid : Prop := tlbServingRow.holds Try.pinned (OpenSpec.ofChange tlbServingSpec)

/-- ITS FALSE NEIGHBOUR: 'it returns false'. Refute it at one input. -/
def tlbServingWrong : ChangeSpec := { name := "tlbServing", fn := fun _ => fun
  | [d1, d2, d3] => { results := [.lit (.bool false)], args := [d1, d2, d3] }
  | _ => none }
def TlbServingWrongFalsely : Prop := tlbServingRow.holds Try.pinned (OpenSpec.ofChange tlbServingWrong)

/-- 'granulelaw09.TlbSingle': WHATEVER THE INPUT: true; the input reads as it did. -/
def tlbSingleSpec : ChangeSpec := { name := "tlbSingle", fn := fun _ => fun
  | [d] => { results := [.lit (.bool true)], args := [d] }
  | _ => none }
def tlbSingleRow : OpenClaim := { program := "yteiokenijmaloaa", sum := "71bd420d08032a291d1ba62677fea12eb88c6e21e5dfed9d2ead5fa33782a7b9", func := "granule/granulelaw09.TlbSingle", spec := "tlbSingle", unfollowed := true, recurses := true, apart := false }
def TlbSingleSaid : Prop := tlbSingleRow.holds Try.pinned (OpenSpec.ofChange tlbSingleSpec)

/-- ITS FALSE NEIGHBOUR: 'it returns false'. Refute it at one input. -/
def tlbSingleWrong : ChangeSpec := { name := "tlbSingle", fn := fun _ => fun
  | [d] => { results := [.lit (.bool false)], args := [d] }
  | _ => none }
def TlbSingleWrongFalsely : Prop := tlbSingleRow.holds Try.pinned (OpenSpec.ofChange tlbSingleWrong)

/- THE SECOND FORM. 'bulk': how many values and letters a reading holds, each counted each time it is reached (what is shared counts as often as it is met; a slice's spare places count too). A statement '..UptoSaid' is the law's where the arguments, and the package variables that the reading takes, are together of bulk at most 1048576: NARROWER than '..Said'. Prove '..Said' where nothing that the law and all that it calls make is longer than what came in: it says more and counts as full. Else prove '..UptoSaid'. A law counts once. -/
mutual
def uptoBulk {H : Type} : DataW H → Nat
  | .lit (.string bytes) => bytes.length + 1
  | .lit _ => 1
  | .nil => 1
  | .ptr d => uptoBulk d + 1
  | .slice elems spare => uptoBulkAll elems + uptoBulkAll spare + 1
  | .agg parts => uptoBulkAll parts + 1
  | .iface _ d => uptoBulk d + 1
  | .map entries => uptoBulkEntries entries + 1
  | .held _ => 1
def uptoBulkAll {H : Type} : List (DataW H) → Nat
  | [] => 0
  | d :: r => uptoBulk d + uptoBulkAll r
def uptoBulkEntries {H : Type} : List (Lit × DataW H) → Nat
  | [] => 0
  | x :: r => uptoBulkEntry x + uptoBulkEntries r
def uptoBulkEntry {H : Type} : Lit × DataW H → Nat
  | (.string bytes, d) => bytes.length + uptoBulk d + 1
  | (_, d) => uptoBulk d + 1
 end
def uptoSmall : (H : Type) → List (DataW H) → Bool := fun _ ds => decide (uptoBulkAll ds ≤ 1048576)
def OpenSpec.upto (s : _root_.Go.ChangeSpec) : _root_.Go.OpenSpec := { _root_.Go.OpenSpec.ofChange s with cond := some uptoSmall }

/-- 'granulelaw09.TlbPlays', WHERE WHAT IT READS IS OF BULK AT MOST 1048576: true; the input reads as it did. -/
def tlbPlaysUptoRow : OpenClaim := { program := "yteiokenijmaloaa", sum := "71bd420d08032a291d1ba62677fea12eb88c6e21e5dfed9d2ead5fa33782a7b9", func := "granule/granulelaw09.TlbPlays", spec := "tlbPlays", unfollowed := true, recurses := true, apart := false, narrowed := true }
def TlbPlaysUptoSaid : Prop := tlbPlaysUptoRow.holds Try.pinned (OpenSpec.upto tlbPlaysSpec)

/-- 'granulelaw09.TlbKeeps', WHERE WHAT IT READS IS OF BULK AT MOST 1048576: true; the input reads as it did. -/
def tlbKeepsUptoRow : OpenClaim := { program := "yteiokenijmaloaa", sum := "71bd420d08032a291d1ba62677fea12eb88c6e21e5dfed9d2ead5fa33782a7b9", func := "granule/granulelaw09.TlbKeeps", spec := "tlbKeeps", unfollowed := true, recurses := true, apart := false, narrowed := true }
def TlbKeepsUptoSaid : Prop := tlbKeepsUptoRow.holds Try.pinned (OpenSpec.upto tlbKeepsSpec)

/-- 'granulelaw09.TlbDrops', WHERE WHAT IT READS IS OF BULK AT MOST 1048576: true; the input reads as it did. -/
def tlbDropsUptoRow : OpenClaim := { program := "yteiokenijmaloaa", sum := "71bd420d08032a291d1ba62677fea12eb88c6e21e5dfed9d2ead5fa33782a7b9", func := "granule/granulelaw09.TlbDrops", spec := "tlbDrops", unfollowed := true, recurses := true, apart := false, narrowed := true }
def TlbDropsUptoSaid : Prop := tlbDropsUptoRow.holds Try.pinned (OpenSpec.upto tlbDropsSpec)

/-- 'granulelaw09.TlbServing', WHERE WHAT IT READS IS OF BULK AT MOST 1048576: true; the input reads as it did. -/
def tlbServingUptoRow : OpenClaim := { program := "yteiokenijmaloaa", sum := "71bd420d08032a291d1ba62677fea12eb88c6e21e5dfed9d2ead5fa33782a7b9", func := "granule/granulelaw09.TlbServing", spec := "tlbServing", unfollowed := true, recurses := true, apart := false, narrowed := true }
def TlbServingUptoSaid : Prop := tlbServingUptoRow.holds Try.pinned (OpenSpec.upto tlbServingSpec)

/-- 'granulelaw09.TlbSingle', WHERE WHAT IT READS IS OF BULK AT MOST 1048576: true; the input reads as it did. -/
def tlbSingleUptoRow : OpenClaim := { program := "yteiokenijmaloaa", sum := "71bd420d08032a291d1ba62677fea12eb88c6e21e5dfed9d2ead5fa33782a7b9", func := "granule/granulelaw09.TlbSingle", spec := "tlbSingle", unfollowed := true, recurses := true, apart := false, narrowed := true }
def TlbSingleUptoSaid : Prop := tlbSingleUptoRow.holds Try.pinned (OpenSpec.upto tlbSingleSpec)

end Rows
end Go.Proofs.Yteiokenijmaloaa
