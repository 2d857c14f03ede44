/-
  No cell of these rows narrows 'for every input' (looked for: loops, veiled, ifaces, maps, wideKeys, modest, calm, conditions, laid).
  DERIVED. THE GIVEN ROWS OF THIS SEAT. 10 by the template 'for every input the law returns true; each argument reads behind the call as it read before'; 0 by the template 'total and deterministic' (their statements: YtjgfnemdklljmaaTotals.lean).
  GIVEN WITH THE SEED: the statements are not yours to turn. If you find one false, say at which input.
  Laid BY PROGRAM, IN A SANDBOX (cutbox-rows.mjs): the forced cells as the released guide's own fill.sh prints them over the translation 5dbdbfb4b82a87cf… (all of the seat's roots in one cut). By AI agents, Wed Nov 11 2026. No macro, syntax, notation, axiom, sorry.
-/
import Derived.Test.YtjgfnemdklljmaaChecked
import GoSem.Claim
import GoSem.ClaimJoined
import GoSem.ClaimMapViews
import Derived.JoinedTies
import Derived.KernelRfl
namespace Go.Proofs.Ytjgfnemdklljmaa
/- THE CELL 'sum', in the pinned program and in every row, IS THE sha256 OF THE DUMP (.gsa) THAT YtjgfnemdklljmaaProg.lean LOADS. Nothing in Lean hashes anything: it is a label: what it is worth is what the hold of that sum in a sandbox is worth. -/
noncomputable def Try.pinned : Pinned := { name := "ytjgfnemdklljmaa", sum := "5dbdbfb4b82a87cf34053e26af2b7538158764c6b6dcff19ebef184659f01d9c", checked := Try.checked }
namespace Rows
def none {H : Type} : Left H := { results := [], args := [] }

/-- 'granulelaw01.RelMakes': WHATEVER THE INPUT: true; the input reads as it did. -/
def relMakesSpec : ChangeSpec := { name := "relMakes", fn := fun _ => fun
  | [d1, d2] => { results := [.lit (.bool true)], args := [d1, d2] }
  | _ => none }
def relMakesRow : OpenClaim := { program := "ytjgfnemdklljmaa", sum := "5dbdbfb4b82a87cf34053e26af2b7538158764c6b6dcff19ebef184659f01d9c", func := "granule/granulelaw01.RelMakes", spec := "relMakes", unfollowed := true, recurses := true, apart := false }
def RelMakesSaid : Prop := relMakesRow.holds Try.pinned (OpenSpec.ofChange relMakesSpec)

/-- ITS FALSE NEIGHBOUR: 'it returns false'. Refute it at one input. -/
def relMakesWrong : ChangeSpec := { name := "relMakes", fn := fun _ => fun
  | [d1, d2] => { results := [.lit (.bool false)], args := [d1, d2] }
  | _ => none }
def RelMakesWrongFalsely : Prop := relMakesRow.holds Try.pinned (OpenSpec.ofChange relMakesWrong)

/-- 'granulelaw01.RelHas': WHATEVER THE INPUT: true; the input reads as it did. -/
def relHasSpec : ChangeSpec := { name := "relHas", fn := fun _ => fun
  | [d1, d2, d3] => { results := [.lit (.bool true)], args := [d1, d2, d3] }
  | _ => none }
def relHasRow : OpenClaim := { program := "ytjgfnemdklljmaa", sum := "5dbdbfb4b82a87cf34053e26af2b7538158764c6b6dcff19ebef184659f01d9c", func := "granule/granulelaw01.RelHas", spec := "relHas", unfollowed := true, recurses := true, apart := false }
def RelHasSaid : Prop := relHasRow.holds Try.pinned (OpenSpec.ofChange relHasSpec)

/-- ITS FALSE NEIGHBOUR: 'it returns false'. Refute it at one input. -/
def relHasWrong : ChangeSpec := { name := "relHas", fn := fun _ => fun
  | [d1, d2, d3] => { results := [.lit (.bool false)], args := [d1, d2, d3] }
  | _ => none }
def RelHasWrongFalsely : Prop := relHasRow.holds Try.pinned (OpenSpec.ofChange relHasWrong)

/-- 'granulelaw01.RelMerges': WHATEVER THE INPUT: true; the input reads as it did. -/
def relMergesSpec : ChangeSpec := { name := "relMerges", fn := fun _ => fun
  | [d1, d2, d3] => { results := [.lit (.bool true)], args := [d1, d2, d3] }
  | _ => none }
def relMergesRow : OpenClaim := { program := "ytjgfnemdklljmaa", sum := "5dbdbfb4b82a87cf34053e26af2b7538158764c6b6dcff19ebef184659f01d9c", func := "granule/granulelaw01.RelMerges", spec := "relMerges", unfollowed := true, recurses := true, apart := false }
def RelMergesSaid : Prop := relMergesRow.holds Try.pinned (OpenSpec.ofChange relMergesSpec)

/-- ITS FALSE NEIGHBOUR: 'it returns false'. Refute it at one input. -/
def relMergesWrong : ChangeSpec := { name := "relMerges", fn := fun _ => fun
  | [d1, d2, d3] => { results := [.lit (.bool false)], args := [d1, d2, d3] }
  | _ => none }
def RelMergesWrongFalsely : Prop := relMergesRow.holds Try.pinned (OpenSpec.ofChange relMergesWrong)

/-- 'granulelaw01.RelThen': WHATEVER THE INPUT: true; the input reads as it did. -/
def relThenSpec : ChangeSpec := { name := "relThen", fn := fun _ => fun
  | [d1, d2, d3] => { results := [.lit (.bool true)], args := [d1, d2, d3] }
  | _ => none }
def relThenRow : OpenClaim := { program := "ytjgfnemdklljmaa", sum := "5dbdbfb4b82a87cf34053e26af2b7538158764c6b6dcff19ebef184659f01d9c", func := "granule/granulelaw01.RelThen", spec := "relThen", unfollowed := true, recurses := true, apart := false }
def RelThenSaid : Prop := relThenRow.holds Try.pinned (OpenSpec.ofChange relThenSpec)

/-- ITS FALSE NEIGHBOUR: 'it returns false'. Refute it at one input. -/
def relThenWrong : ChangeSpec := { name := "relThen", fn := fun _ => fun
  | [d1, d2, d3] => { results := [.lit (.bool false)], args := [d1, d2, d3] }
  | _ => none }
def RelThenWrongFalsely : Prop := relThenRow.holds Try.pinned (OpenSpec.ofChange relThenWrong)

/-- 'granulelaw01.RelClosure': WHATEVER THE INPUT: true; the input reads as it did. -/
def relClosureSpec : ChangeSpec := { name := "relClosure", fn := fun _ => fun
  | [d1, d2] => { results := [.lit (.bool true)], args := [d1, d2] }
  | _ => none }
def relClosureRow : OpenClaim := { program := "ytjgfnemdklljmaa", sum := "5dbdbfb4b82a87cf34053e26af2b7538158764c6b6dcff19ebef184659f01d9c", func := "granule/granulelaw01.RelClosure", spec := "relClosure", unfollowed := true, recurses := true, apart := false }
def RelClosureSaid : Prop := relClosureRow.holds Try.pinned (OpenSpec.ofChange relClosureSpec)

/-- ITS FALSE NEIGHBOUR: 'it returns false'. Refute it at one input. -/
def relClosureWrong : ChangeSpec := { name := "relClosure", fn := fun _ => fun
  | [d1, d2] => { results := [.lit (.bool false)], args := [d1, d2] }
  | _ => none }
def RelClosureWrongFalsely : Prop := relClosureRow.holds Try.pinned (OpenSpec.ofChange relClosureWrong)

/-- 'granulelaw01.RelOrder': WHATEVER THE INPUT: true; the input reads as it did. -/
def relOrderSpec : ChangeSpec := { name := "relOrder", fn := fun _ => fun
  | [d1, d2] => { results := [.lit (.bool true)], args := [d1, d2] }
  | _ => none }
def relOrderRow : OpenClaim := { program := "ytjgfnemdklljmaa", sum := "5dbdbfb4b82a87cf34053e26af2b7538158764c6b6dcff19ebef184659f01d9c", func := "granule/granulelaw01.RelOrder", spec := "relOrder", unfollowed := true, recurses := true, apart := false }
def RelOrderSaid : Prop := relOrderRow.holds Try.pinned (OpenSpec.ofChange relOrderSpec)

/-- ITS FALSE NEIGHBOUR: 'it returns false'. Refute it at one input. -/
def relOrderWrong : ChangeSpec := { name := "relOrder", fn := fun _ => fun
  | [d1, d2] => { results := [.lit (.bool false)], args := [d1, d2] }
  | _ => none }
def RelOrderWrongFalsely : Prop := relOrderRow.holds Try.pinned (OpenSpec.ofChange relOrderWrong)

/-- 'granulelaw01.RelCycle': WHATEVER THE INPUT: true; the input reads as it did. -/
def relCycleSpec : ChangeSpec := { name := "relCycle", fn := fun _ => fun
  | [d1, d2] => { results := [.lit (.bool true)], args := [d1, d2] }
  | _ => none }
def relCycleRow : OpenClaim := { program := "ytjgfnemdklljmaa", sum := "5dbdbfb4b82a87cf34053e26af2b7538158764c6b6dcff19ebef184659f01d9c", func := "granule/granulelaw01.RelCycle", spec := "relCycle", unfollowed := true, recurses := true, apart := false }
def RelCycleSaid : Prop := relCycleRow.holds Try.pinned (OpenSpec.ofChange relCycleSpec)

/-- ITS FALSE NEIGHBOUR: 'it returns false'. Refute it at one input. -/
def relCycleWrong : ChangeSpec := { name := "relCycle", fn := fun _ => fun
  | [d1, d2] => { results := [.lit (.bool false)], args := [d1, d2] }
  | _ => none }
def RelCycleWrongFalsely : Prop := relCycleRow.holds Try.pinned (OpenSpec.ofChange relCycleWrong)

/-- 'granulelaw01.RelWithin': WHATEVER THE INPUT: true; the input reads as it did. -/
def relWithinSpec : ChangeSpec := { name := "relWithin", fn := fun _ => fun
  | [d1, d2, d3] => { results := [.lit (.bool true)], args := [d1, d2, d3] }
  | _ => none }
def relWithinRow : OpenClaim := { program := "ytjgfnemdklljmaa", sum := "5dbdbfb4b82a87cf34053e26af2b7538158764c6b6dcff19ebef184659f01d9c", func := "granule/granulelaw01.RelWithin", spec := "relWithin", unfollowed := true, recurses := true, apart := false }
def RelWithinSaid : Prop := relWithinRow.holds Try.pinned (OpenSpec.ofChange relWithinSpec)

/-- ITS FALSE NEIGHBOUR: 'it returns false'. Refute it at one input. -/
def relWithinWrong : ChangeSpec := { name := "relWithin", fn := fun _ => fun
  | [d1, d2, d3] => { results := [.lit (.bool false)], args := [d1, d2, d3] }
  | _ => none }
def RelWithinWrongFalsely : Prop := relWithinRow.holds Try.pinned (OpenSpec.ofChange relWithinWrong)

/-- 'granulelaw01.RelTotal': WHATEVER THE INPUT: true; the input reads as it did. -/
def relTotalSpec : ChangeSpec := { name := "relTotal", fn := fun _ => fun
  | [d1, d2, d3] => { results := [.lit (.bool true)], args := [d1, d2, d3] }
  | _ => none }
def relTotalRow : OpenClaim := { program := "ytjgfnemdklljmaa", sum := "5dbdbfb4b82a87cf34053e26af2b7538158764c6b6dcff19ebef184659f01d9c", func := "granule/granulelaw01.RelTotal", spec := "relTotal", unfollowed := true, recurses := true, apart := false }
def RelTotalSaid : Prop := relTotalRow.holds Try.pinned (OpenSpec.ofChange relTotalSpec)

/-- ITS FALSE NEIGHBOUR: 'it returns false'. Refute it at one input. -/
def relTotalWrong : ChangeSpec := { name := "relTotal", fn := fun _ => fun
  | [d1, d2, d3] => { results := [.lit (.bool false)], args := [d1, d2, d3] }
  | _ => none }
def RelTotalWrongFalsely : Prop := relTotalRow.holds Try.pinned (OpenSpec.ofChange relTotalWrong)

/-- 'granulelaw01.RelSpreads': WHATEVER THE INPUT: true; the input reads as it did. -/
def relSpreadsSpec : ChangeSpec := { name := "relSpreads", fn := fun _ => fun
  | [d1, d2, d3] => { results := [.lit (.bool true)], args := [d1, d2, d3] }
  | _ => none }
def relSpreadsRow : OpenClaim := { program := "ytjgfnemdklljmaa", sum := "5dbdbfb4b82a87cf34053e26af2b7538158764c6b6dcff19ebef184659f01d9c", func := "granule/granulelaw01.RelSpreads", spec := "relSpreads", unfollowed := true, recurses := true, apart := false }
def RelSpreadsSaid : Prop := relSpreadsRow.holds Try.pinned (OpenSpec.ofChange relSpreadsSpec)

/-- ITS FALSE NEIGHBOUR: 'it returns false'. Refute it at one input. -/
def relSpreadsWrong : ChangeSpec := { name := "relSpreads", fn := fun _ => fun
  | [d1, d2, d3] => { results := [.lit (.bool false)], args := [d1, d2, d3] }
  | _ => none }
def RelSpreadsWrongFalsely : Prop := relSpreadsRow.holds Try.pinned (OpenSpec.ofChange relSpreadsWrong)

/- THE SECOND FORM. 'bulk': how many values and letters a reading holds, each counted each time it is reached (what is shared counts as often as it is met; a slice's spare places count too). A statement '..UptoSaid' is the law's where the arguments, and the package variables that the reading takes, are together of bulk at most 1048576: NARROWER than '..Said'. Prove '..Said' where nothing that the law and all that it calls make is longer than what came in: it says more and counts as full. Else prove '..UptoSaid'. A law counts once. -/
mutual
def uptoBulk {H : Type} : DataW H → Nat
  | .lit (.string bytes) => bytes.length + 1
  | .lit _ => 1
  | .nil => 1
  | .ptr d => uptoBulk d + 1
  | .slice elems spare => uptoBulkAll elems + uptoBulkAll spare + 1
  | .agg parts => uptoBulkAll parts + 1
  | .iface _ d => uptoBulk d + 1
  | .map entries => uptoBulkEntries entries + 1
  | .held _ => 1
def uptoBulkAll {H : Type} : List (DataW H) → Nat
  | [] => 0
  | d :: r => uptoBulk d + uptoBulkAll r
def uptoBulkEntries {H : Type} : List (Lit × DataW H) → Nat
  | [] => 0
  | x :: r => uptoBulkEntry x + uptoBulkEntries r
def uptoBulkEntry {H : Type} : Lit × DataW H → Nat
  | (.string bytes, d) => bytes.length + uptoBulk d + 1
  | (_, d) => uptoBulk d + 1
 end
def uptoSmall : (H : Type) → List (DataW H) → Bool := fun _ ds => decide (uptoBulkAll ds ≤ 1048576)
def OpenSpec.upto (s : _root_.Go.ChangeSpec) : _root_.Go.OpenSpec := { _root_.Go.OpenSpec.ofChange s with cond := some uptoSmall }

/-- 'granulelaw01.RelMakes', WHERE WHAT IT READS IS OF BULK AT MOST 1048576: true; the input reads as it did. -/
def relMakesUptoRow : OpenClaim := { program := "ytjgfnemdklljmaa", sum := "5dbdbfb4b82a87cf34053e26af2b7538158764c6b6dcff19ebef184659f01d9c", func := "granule/granulelaw01.RelMakes", spec := "relMakes", unfollowed := true, recurses := true, apart := false, narrowed := true }
def RelMakesUptoSaid : Prop := relMakesUptoRow.holds Try.pinned (OpenSpec.upto relMakesSpec)

/-- 'granulelaw01.RelHas', WHERE WHAT IT READS IS OF BULK AT MOST 1048576: true; the input reads as it did. -/
def relHasUptoRow : OpenClaim := { program := "ytjgfnemdklljmaa", sum := "5dbdbfb4b82a87cf34053e26af2b7538158764c6b6dcff19ebef184659f01d9c", func := "granule/granulelaw01.RelHas", spec := "relHas", unfollowed := true, recurses := true, apart := false, narrowed := true }
def RelHasUptoSaid : Prop := relHasUptoRow.holds Try.pinned (OpenSpec.upto relHasSpec)

/-- 'granulelaw01.RelMerges', WHERE WHAT IT READS IS OF BULK AT MOST 1048576: true; the input reads as it did. -/
def relMergesUptoRow : OpenClaim := { program := "ytjgfnemdklljmaa", sum := "5dbdbfb4b82a87cf34053e26af2b7538158764c6b6dcff19ebef184659f01d9c", func := "granule/granulelaw01.RelMerges", spec := "relMerges", unfollowed := true, recurses := true, apart := false, narrowed := true }
def RelMergesUptoSaid : Prop := relMergesUptoRow.holds Try.pinned (OpenSpec.upto relMergesSpec)

/-- 'granulelaw01.RelThen', WHERE WHAT IT READS IS OF BULK AT MOST 1048576: true; the input reads as it did. -/
def relThenUptoRow : OpenClaim := { program := "ytjgfnemdklljmaa", sum := "5dbdbfb4b82a87cf34053e26af2b7538158764c6b6dcff19ebef184659f01d9c", func := "granule/granulelaw01.RelThen", spec := "relThen", unfollowed := true, recurses := true, apart := false, narrowed := true }
def RelThenUptoSaid : Prop := relThenUptoRow.holds Try.pinned (OpenSpec.upto relThenSpec)

/-- 'granulelaw01.RelClosure', WHERE WHAT IT READS IS OF BULK AT MOST 1048576: true; the input reads as it did. -/
def relClosureUptoRow : OpenClaim := { program := "ytjgfnemdklljmaa", sum := "5dbdbfb4b82a87cf34053e26af2b7538158764c6b6dcff19ebef184659f01d9c", func := "granule/granulelaw01.RelClosure", spec := "relClosure", unfollowed := true, recurses := true, apart := false, narrowed := true }
def RelClosureUptoSaid : Prop := relClosureUptoRow.holds Try.pinned (OpenSpec.upto relClosureSpec)

/-- 'granulelaw01.RelOrder', WHERE WHAT IT READS IS OF BULK AT MOST 1048576: true; the input reads as it did. -/
def relOrderUptoRow : OpenClaim := { program := "ytjgfnemdklljmaa", sum := "5dbdbfb4b82a87cf34053e26af2b7538158764c6b6dcff19ebef184659f01d9c", func := "granule/granulelaw01.RelOrder", spec := "relOrder", unfollowed := true, recurses := true, apart := false, narrowed := true }
def RelOrderUptoSaid : Prop := relOrderUptoRow.holds Try.pinned (OpenSpec.upto relOrderSpec)

/-- 'granulelaw01.RelCycle', WHERE WHAT IT READS IS OF BULK AT MOST 1048576: true; the input reads as it did. -/
def relCycleUptoRow : OpenClaim := { program := "ytjgfnemdklljmaa", sum := "5dbdbfb4b82a87cf34053e26af2b7538158764c6b6dcff19ebef184659f01d9c", func := "granule/granulelaw01.RelCycle", spec := "relCycle", unfollowed := true, recurses := true, apart := false, narrowed := true }
def RelCycleUptoSaid : Prop := relCycleUptoRow.holds Try.pinned (OpenSpec.upto relCycleSpec)

/-- 'granulelaw01.RelWithin', WHERE WHAT IT READS IS OF BULK AT MOST 1048576: true; the input reads as it did. -/
def relWithinUptoRow : OpenClaim := { program := "ytjgfnemdklljmaa", sum := "5dbdbfb4b82a87cf34053e26af2b7538158764c6b6dcff19ebef184659f01d9c", func := "granule/granulelaw01.RelWithin", spec := "relWithin", unfollowed := true, recurses := true, apart := false, narrowed := true }
def RelWithinUptoSaid : Prop := relWithinUptoRow.holds Try.pinned (OpenSpec.upto relWithinSpec)

/-- 'granulelaw01.RelTotal', WHERE WHAT IT READS IS OF BULK AT MOST 1048576: true; the input reads as it did. -/
def relTotalUptoRow : OpenClaim := { program := "ytjgfnemdklljmaa", sum := "5dbdbfb4b82a87cf34053e26af2b7538158764c6b6dcff19ebef184659f01d9c", func := "granule/granulelaw01.RelTotal", spec := "relTotal", unfollowed := true, recurses := true, apart := false, narrowed := true }
def RelTotalUptoSaid : Prop := relTotalUptoRow.holds Try.pinned (OpenSpec.upto relTotalSpec)

/-- 'granulelaw01.RelSpreads', WHERE WHAT IT READS IS OF BULK AT MOST 1048576: true; the input reads as it did. -/
def relSpreadsUptoRow : OpenClaim := { program := "ytjgfnemdklljmaa", sum := "5dbdbfb4b82a87cf34053e26af2b7538158764c6b6dcff19ebef184659f01d9c", func := "granule/granulelaw01.RelSpreads", spec := "relSpreads", unfollowed := true, recurses := true, apart := false, narrowed := true }
def RelSpreadsUptoSaid : Prop := relSpreadsUptoRow.holds Try.pinned (OpenSpec.upto relSpreadsSpec)

end Rows
end Go.Proofs.Ytjgfnemdklljmaa
