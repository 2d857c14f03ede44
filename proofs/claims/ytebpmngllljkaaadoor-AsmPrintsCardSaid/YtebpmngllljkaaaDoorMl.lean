/-
  Layer 3 for layer 4's laws: what the page's Right says, whole.
-/
import Derived.Test.YtebpmngllljkaaaDoorRz
import Derived.Test.YtebpmngllljkaaaDoorMk
set_option linter.unusedSimpArgs false
set_option linter.unusedVariables false
namespace Go.Proofs.YtebpmngllljkaaaDoor
open Go.RowKit

theorem irright_below (x : GrI.I) (w : World) :
    Calls Tryd.prog 12 #[iv x] w fun e w' => e = .returned (.bool (decide (GrI.right x))) ∧ Below w.heap.size w w' :=
  (irright_any x w).mono fun _ _ h => ⟨h.1, h.2 ▸ (Below.refl _ _).alloc (Nat.le_refl _) _⟩
theorem pright_is (x : GrI.I) (w : World) (b : Bool) (h : encB x = b) : Calls Tryd.prog 12 #[iv x] w fun e w' => e = .returned (.bool b) ∧ Below w.heap.size w w' := by
  rw [← h]
  exact irright_below x w
end Go.Proofs.YtebpmngllljkaaaDoor
