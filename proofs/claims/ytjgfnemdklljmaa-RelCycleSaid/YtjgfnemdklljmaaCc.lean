/-
  Layer 1, the laws over rows: RelCycle.
-/
import Derived.Test.YtjgfnemdklljmaaCb
import Derived.Test.YtjgfnemdklljmaaAu
set_option linter.unusedSimpArgs false
set_option linter.unusedVariables false
namespace Go.Proofs.Ytjgfnemdklljmaa
open Go.RowKit GrR
theorem RelCycle_rows (n : Int) (v : Value) (k : Nat) (R : Nat → List Value) (w : World) (s : SlAt w v 2 k ((List.range k).flatMap R)) (g : ∀ i, i < k → ∃ p : Pr, R i = [.int .i64 p.1, .int .i64 p.2]) :
    Calls Try.prog 9 #[.int .i64 n, v] w fun e w' => e = .returned (.bool true) ∧ Below w.heap.size w w' := by
  obtain ⟨P, hP⟩ := SlP_rows s g
  exact RelCycle_walk n v P w hP
end Go.Proofs.Ytjgfnemdklljmaa
