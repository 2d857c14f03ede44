/-
  Layer 7, the walks: Check whole; marked, Encode, Address.
-/
import Derived.Test.YteiokenijmaloaaDc
import Derived.Test.YteiokenijmaloaaDe
import Derived.Test.YteiokenijmaloaaDo
import Derived.Test.YteiokenijmaloaaBq
set_option linter.unusedSimpArgs false
set_option linter.unusedVariables false
namespace Go.Proofs.Yteiokenijmaloaa
open Go.RowKit

/-- a descriptor's box, in whatever world comes behind it -/
theorem box7 (w : World) (v t : Bool) (o : Int) (u r s q : Bool) (W : World) (hW : W = w.alloc (.cells #[.bool v, .bool t, .int .u64 o, .bool u, .bool r, .bool s, .bool q] 66)) :
    (∀ x : Wb W, x.at.cell? ⟨w.heap.size, 0, none⟩ = some (.bool v)) ∧ (∀ x : Wb W, x.at.cell? ⟨w.heap.size, 1, none⟩ = some (.bool t)) ∧ (∀ x : Wb W, x.at.cell? ⟨w.heap.size, 2, none⟩ = some (.int .u64 o)) ∧ (∀ x : Wb W, x.at.cell? ⟨w.heap.size, 3, none⟩ = some (.bool u)) ∧
    (∀ x : Wb W, x.at.cell? ⟨w.heap.size, 4, none⟩ = some (.bool r)) ∧ (∀ x : Wb W, x.at.cell? ⟨w.heap.size, 5, none⟩ = some (.bool s)) ∧ (∀ x : Wb W, x.at.cell? ⟨w.heap.size, 6, none⟩ = some (.bool q)) ∧ (∀ x : Wb W, Below w.heap.size w x.at) := by
  subst hW
  refine ⟨fun x => ?_, fun x => ?_, fun x => ?_, fun x => ?_, fun x => ?_, fun x => ?_, fun x => ?_, fun x => ?_⟩
  case refine_8 => exact ((Below.refl _ _).alloc (Nat.le_refl _) _).trans (x.bel.mono (by simp))
  all_goals
    rw [x.cell _ (by simp)]
    simp [World.cell?_alloc_new]

/-- the code's 'marked' -/
def mk1 (x n : Int) (c : Bool) : Int := if c = true then GrF.put x n n 1 else x
theorem mk1_eq (x : Int) (n : Nat) (c : Bool) : mk1 x n c = GrD.marked x n c := rfl
theorem mk1_bd (x : Int) (n : Nat) (c : Bool) (h0 : 0 ≤ x) (h1 : x < 18446744073709551616) : 0 ≤ mk1 x n c ∧ mk1 x n c < 18446744073709551616 := GrD.marked_bd x n c h0 h1

end Go.Proofs.Yteiokenijmaloaa