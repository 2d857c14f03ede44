/-
  No cell of these rows narrows 'for every input' (looked for: loops, veiled, ifaces, maps, wideKeys, modest, calm, conditions, laid).
  DERIVED. THE GIVEN ROWS OF THIS SEAT. 7 by the template 'for every input the law returns true; each argument reads behind the call as it read before'; 0 by the template 'total and deterministic' (their statements: YtoeihlfngplbdaaTotals.lean).
  GIVEN WITH THE SEED: the statements are not yours to turn. If you find one false, say at which input.
  Laid BY PROGRAM, IN A SANDBOX (cutbox-rows.mjs): the forced cells as the released guide's own fill.sh prints them over the translation 04111982707f54df… (all of the seat's roots in one cut). By AI agents, Wed Nov 11 2026. No macro, syntax, notation, axiom, sorry.
-/
import Derived.Test.YtoeihlfngplbdaaChecked
import GoSem.Claim
import GoSem.ClaimJoined
import GoSem.ClaimMapViews
import Derived.JoinedTies
import Derived.KernelRfl
namespace Go.Proofs.Ytoeihlfngplbdaa
/- THE CELL 'sum', in the pinned program and in every row, IS THE sha256 OF THE DUMP (.gsa) THAT YtoeihlfngplbdaaProg.lean LOADS. Nothing in Lean hashes anything: it is a label: what it is worth is what the hold of that sum in a sandbox is worth. -/
noncomputable def Try.pinned : Pinned := { name := "ytoeihlfngplbdaa", sum := "04111982707f54dfd5a37c8492a393e565f19de8b964ec196ee79a0f1aa4a9d0", checked := Try.checked }
namespace Rows
def none {H : Type} : Left H := { results := [], args := [] }

/-- 'granulelaw02.FieldGets': WHATEVER THE INPUT: true; the input reads as it did. -/
def fieldGetsSpec : ChangeSpec := { name := "fieldGets", fn := fun _ => fun
  | [d1, d2, d3] => { results := [.lit (.bool true)], args := [d1, d2, d3] }
  | _ => none }
def fieldGetsRow : OpenClaim := { program := "ytoeihlfngplbdaa", sum := "04111982707f54dfd5a37c8492a393e565f19de8b964ec196ee79a0f1aa4a9d0", func := "granule/granulelaw02.FieldGets", spec := "fieldGets", inPlace := ["math/bits.Add64"], apart := false }
def FieldGetsSaid : Prop := fieldGetsRow.holds Try.pinned (OpenSpec.ofChange fieldGetsSpec)

/-- ITS FALSE NEIGHBOUR: 'it returns false'. Refute it at one input. -/
def fieldGetsWrong : ChangeSpec := { name := "fieldGets", fn := fun _ => fun
  | [d1, d2, d3] => { results := [.lit (.bool false)], args := [d1, d2, d3] }
  | _ => none }
def FieldGetsWrongFalsely : Prop := fieldGetsRow.holds Try.pinned (OpenSpec.ofChange fieldGetsWrong)

/-- 'granulelaw02.FieldPuts': WHATEVER THE INPUT: true; the input reads as it did. -/
def fieldPutsSpec : ChangeSpec := { name := "fieldPuts", fn := fun _ => fun
  | [d1, d2, d3] => { results := [.lit (.bool true)], args := [d1, d2, d3] }
  | _ => none }
def fieldPutsRow : OpenClaim := { program := "ytoeihlfngplbdaa", sum := "04111982707f54dfd5a37c8492a393e565f19de8b964ec196ee79a0f1aa4a9d0", func := "granule/granulelaw02.FieldPuts", spec := "fieldPuts", inPlace := ["math/bits.Add64"], apart := false }
def FieldPutsSaid : Prop := fieldPutsRow.holds Try.pinned (OpenSpec.ofChange fieldPutsSpec)

/-- ITS FALSE NEIGHBOUR: 'it returns false'. Refute it at one input. -/
def fieldPutsWrong : ChangeSpec := { name := "fieldPuts", fn := fun _ => fun
  | [d1, d2, d3] => { results := [.lit (.bool false)], args := [d1, d2, d3] }
  | _ => none }
def FieldPutsWrongFalsely : Prop := fieldPutsRow.holds Try.pinned (OpenSpec.ofChange fieldPutsWrong)

/-- 'granulelaw02.FieldSigns': WHATEVER THE INPUT: true; the input reads as it did. -/
def fieldSignsSpec : ChangeSpec := { name := "fieldSigns", fn := fun _ => fun
  | [d1, d2, d3] => { results := [.lit (.bool true)], args := [d1, d2, d3] }
  | _ => none }
def fieldSignsRow : OpenClaim := { program := "ytoeihlfngplbdaa", sum := "04111982707f54dfd5a37c8492a393e565f19de8b964ec196ee79a0f1aa4a9d0", func := "granule/granulelaw02.FieldSigns", spec := "fieldSigns", inPlace := ["math/bits.Add64"], apart := false }
def FieldSignsSaid : Prop := fieldSignsRow.holds Try.pinned (OpenSpec.ofChange fieldSignsSpec)

/-- ITS FALSE NEIGHBOUR: 'it returns false'. Refute it at one input. -/
def fieldSignsWrong : ChangeSpec := { name := "fieldSigns", fn := fun _ => fun
  | [d1, d2, d3] => { results := [.lit (.bool false)], args := [d1, d2, d3] }
  | _ => none }
def FieldSignsWrongFalsely : Prop := fieldSignsRow.holds Try.pinned (OpenSpec.ofChange fieldSignsWrong)

/-- 'granulelaw02.FieldAligns': WHATEVER THE INPUT: true; the input reads as it did. -/
def fieldAlignsSpec : ChangeSpec := { name := "fieldAligns", fn := fun _ => fun
  | [d1, d2] => { results := [.lit (.bool true)], args := [d1, d2] }
  | _ => none }
def fieldAlignsRow : OpenClaim := { program := "ytoeihlfngplbdaa", sum := "04111982707f54dfd5a37c8492a393e565f19de8b964ec196ee79a0f1aa4a9d0", func := "granule/granulelaw02.FieldAligns", spec := "fieldAligns", inPlace := ["math/bits.Add64"], apart := false }
def FieldAlignsSaid : Prop := fieldAlignsRow.holds Try.pinned (OpenSpec.ofChange fieldAlignsSpec)

/-- ITS FALSE NEIGHBOUR: 'it returns false'. Refute it at one input. -/
def fieldAlignsWrong : ChangeSpec := { name := "fieldAligns", fn := fun _ => fun
  | [d1, d2] => { results := [.lit (.bool false)], args := [d1, d2] }
  | _ => none }
def FieldAlignsWrongFalsely : Prop := fieldAlignsRow.holds Try.pinned (OpenSpec.ofChange fieldAlignsWrong)

/-- 'granulelaw02.FieldParses': WHATEVER THE INPUT: true; the input reads as it did. -/
def fieldParsesSpec : ChangeSpec := { name := "fieldParses", fn := fun _ => fun
  | [d] => { results := [.lit (.bool true)], args := [d] }
  | _ => none }
def fieldParsesRow : OpenClaim := { program := "ytoeihlfngplbdaa", sum := "04111982707f54dfd5a37c8492a393e565f19de8b964ec196ee79a0f1aa4a9d0", func := "granule/granulelaw02.FieldParses", spec := "fieldParses", inPlace := ["math/bits.Add64"], apart := false }
def FieldParsesSaid : Prop := fieldParsesRow.holds Try.pinned (OpenSpec.ofChange fieldParsesSpec)

/-- ITS FALSE NEIGHBOUR: 'it returns false'. Refute it at one input. -/
def fieldParsesWrong : ChangeSpec := { name := "fieldParses", fn := fun _ => fun
  | [d] => { results := [.lit (.bool false)], args := [d] }
  | _ => none }
def FieldParsesWrongFalsely : Prop := fieldParsesRow.holds Try.pinned (OpenSpec.ofChange fieldParsesWrong)

/-- 'granulelaw02.FieldSlots': WHATEVER THE INPUT: true; the input reads as it did. -/
def fieldSlotsSpec : ChangeSpec := { name := "fieldSlots", fn := fun _ => fun
  | [d1, d2] => { results := [.lit (.bool true)], args := [d1, d2] }
  | _ => none }
def fieldSlotsRow : OpenClaim := { program := "ytoeihlfngplbdaa", sum := "04111982707f54dfd5a37c8492a393e565f19de8b964ec196ee79a0f1aa4a9d0", func := "granule/granulelaw02.FieldSlots", spec := "fieldSlots", inPlace := ["math/bits.Add64"], apart := false }
def FieldSlotsSaid : Prop := fieldSlotsRow.holds Try.pinned (OpenSpec.ofChange fieldSlotsSpec)

/-- ITS FALSE NEIGHBOUR: 'it returns false'. Refute it at one input. -/
def fieldSlotsWrong : ChangeSpec := { name := "fieldSlots", fn := fun _ => fun
  | [d1, d2] => { results := [.lit (.bool false)], args := [d1, d2] }
  | _ => none }
def FieldSlotsWrongFalsely : Prop := fieldSlotsRow.holds Try.pinned (OpenSpec.ofChange fieldSlotsWrong)

/-- 'granulelaw02.FieldBeside': WHATEVER THE INPUT: true; the input reads as it did. -/
def fieldBesideSpec : ChangeSpec := { name := "fieldBeside", fn := fun _ => fun
  | [d1, d2, d3] => { results := [.lit (.bool true)], args := [d1, d2, d3] }
  | _ => none }
def fieldBesideRow : OpenClaim := { program := "ytoeihlfngplbdaa", sum := "04111982707f54dfd5a37c8492a393e565f19de8b964ec196ee79a0f1aa4a9d0", func := "granule/granulelaw02.FieldBeside", spec := "fieldBeside", inPlace := ["math/bits.Add64"], apart := false }
def FieldBesideSaid : Prop := fieldBesideRow.holds Try.pinned (OpenSpec.ofChange fieldBesideSpec)

/-- ITS FALSE NEIGHBOUR: 'it returns false'. Refute it at one input. -/
def fieldBesideWrong : ChangeSpec := { name := "fieldBeside", fn := fun _ => fun
  | [d1, d2, d3] => { results := [.lit (.bool false)], args := [d1, d2, d3] }
  | _ => none }
def FieldBesideWrongFalsely : Prop := fieldBesideRow.holds Try.pinned (OpenSpec.ofChange fieldBesideWrong)

/- THE SECOND FORM. 'bulk': how many values and letters a reading holds, each counted each time it is reached (what is shared counts as often as it is met; a slice's spare places count too). A statement '..UptoSaid' is the law's where the arguments, and the package variables that the reading takes, are together of bulk at most 1048576: NARROWER than '..Said'. Prove '..Said' where nothing that the law and all that it calls make is longer than what came in: it says more and counts as full. Else prove '..UptoSaid'. A law counts once. -/
mutual
def uptoBulk {H : Type} : DataW H → Nat
  | .lit (.string bytes) => bytes.length + 1
  | .lit _ => 1
  | .nil => 1
  | .ptr d => uptoBulk d + 1
  | .slice elems spare => uptoBulkAll elems + uptoBulkAll spare + 1
  | .agg parts => uptoBulkAll parts + 1
  | .iface _ d => uptoBulk d + 1
  | .map entries => uptoBulkEntries entries + 1
  | .held _ => 1
def uptoBulkAll {H : Type} : List (DataW H) → Nat
  | [] => 0
  | d :: r => uptoBulk d + uptoBulkAll r
def uptoBulkEntries {H : Type} : List (Lit × DataW H) → Nat
  | [] => 0
  | x :: r => uptoBulkEntry x + uptoBulkEntries r
def uptoBulkEntry {H : Type} : Lit × DataW H → Nat
  | (.string bytes, d) => bytes.length + uptoBulk d + 1
  | (_, d) => uptoBulk d + 1
 end
def uptoSmall : (H : Type) → List (DataW H) → Bool := fun _ ds => decide (uptoBulkAll ds ≤ 1048576)
def OpenSpec.upto (s : _root_.Go.ChangeSpec) : _root_.Go.OpenSpec := { _root_.Go.OpenSpec.ofChange s with cond := some uptoSmall }

/-- 'granulelaw02.FieldGets', WHERE WHAT IT READS IS OF BULK AT MOST 1048576: true; the input reads as it did. -/
def fieldGetsUptoRow : OpenClaim := { program := "ytoeihlfngplbdaa", sum := "04111982707f54dfd5a37c8492a393e565f19de8b964ec196ee79a0f1aa4a9d0", func := "granule/granulelaw02.FieldGets", spec := "fieldGets", inPlace := ["math/bits.Add64"], apart := false, narrowed := true }
def FieldGetsUptoSaid : Prop := fieldGetsUptoRow.holds Try.pinned (OpenSpec.upto fieldGetsSpec)

/-- 'granulelaw02.FieldPuts', WHERE WHAT IT READS IS OF BULK AT MOST 1048576: true; the input reads as it did. -/
def fieldPutsUptoRow : OpenClaim := { program := "ytoeihlfngplbdaa", sum := "04111982707f54dfd5a37c8492a393e565f19de8b964ec196ee79a0f1aa4a9d0", func := "granule/granulelaw02.FieldPuts", spec := "fieldPuts", inPlace := ["math/bits.Add64"], apart := false, narrowed := true }
def FieldPutsUptoSaid : Prop := fieldPutsUptoRow.holds Try.pinned (OpenSpec.upto fieldPutsSpec)

/-- 'granulelaw02.FieldSigns', WHERE WHAT IT READS IS OF BULK AT MOST 1048576: true; the input reads as it did. -/
def fieldSignsUptoRow : OpenClaim := { program := "ytoeihlfngplbdaa", sum := "04111982707f54dfd5a37c8492a393e565f19de8b964ec196ee79a0f1aa4a9d0", func := "granule/granulelaw02.FieldSigns", spec := "fieldSigns", inPlace := ["math/bits.Add64"], apart := false, narrowed := true }
def FieldSignsUptoSaid : Prop := fieldSignsUptoRow.holds Try.pinned (OpenSpec.upto fieldSignsSpec)

/-- 'granulelaw02.FieldAligns', WHERE WHAT IT READS IS OF BULK AT MOST 1048576: true; the input reads as it did. -/
def fieldAlignsUptoRow : OpenClaim := { program := "ytoeihlfngplbdaa", sum := "04111982707f54dfd5a37c8492a393e565f19de8b964ec196ee79a0f1aa4a9d0", func := "granule/granulelaw02.FieldAligns", spec := "fieldAligns", inPlace := ["math/bits.Add64"], apart := false, narrowed := true }
def FieldAlignsUptoSaid : Prop := fieldAlignsUptoRow.holds Try.pinned (OpenSpec.upto fieldAlignsSpec)

/-- 'granulelaw02.FieldParses', WHERE WHAT IT READS IS OF BULK AT MOST 1048576: true; the input reads as it did. -/
def fieldParsesUptoRow : OpenClaim := { program := "ytoeihlfngplbdaa", sum := "04111982707f54dfd5a37c8492a393e565f19de8b964ec196ee79a0f1aa4a9d0", func := "granule/granulelaw02.FieldParses", spec := "fieldParses", inPlace := ["math/bits.Add64"], apart := false, narrowed := true }
def FieldParsesUptoSaid : Prop := fieldParsesUptoRow.holds Try.pinned (OpenSpec.upto fieldParsesSpec)

/-- 'granulelaw02.FieldSlots', WHERE WHAT IT READS IS OF BULK AT MOST 1048576: true; the input reads as it did. -/
def fieldSlotsUptoRow : OpenClaim := { program := "ytoeihlfngplbdaa", sum := "04111982707f54dfd5a37c8492a393e565f19de8b964ec196ee79a0f1aa4a9d0", func := "granule/granulelaw02.FieldSlots", spec := "fieldSlots", inPlace := ["math/bits.Add64"], apart := false, narrowed := true }
def FieldSlotsUptoSaid : Prop := fieldSlotsUptoRow.holds Try.pinned (OpenSpec.upto fieldSlotsSpec)

/-- 'granulelaw02.FieldBeside', WHERE WHAT IT READS IS OF BULK AT MOST 1048576: true; the input reads as it did. -/
def fieldBesideUptoRow : OpenClaim := { program := "ytoeihlfngplbdaa", sum := "04111982707f54dfd5a37c8492a393e565f19de8b964ec196ee79a0f1aa4a9d0", func := "granule/granulelaw02.FieldBeside", spec := "fieldBeside", inPlace := ["math/bits.Add64"], apart := false, narrowed := true }
def FieldBesideUptoSaid : Prop := fieldBesideUptoRow.holds Try.pinned (OpenSpec.upto fieldBesideSpec)

end Rows
end Go.Proofs.Ytoeihlfngplbdaa
