/-
  Layer 1, the laws over rows: RelClosure, RelThen, RelMerges, RelSpreads, RelOrder.
-/
import Derived.Test.YtjgfnemdklljmaaAt
import Derived.Test.YtjgfnemdklljmaaAu
set_option linter.unusedSimpArgs false
set_option linter.unusedVariables false
namespace Go.Proofs.Ytjgfnemdklljmaa
open Go.RowKit GrR
theorem RelClosure_rows (n : Int) (v : Value) (k : Nat) (R : Nat → List Value) (w : World) (s : SlAt w v 2 k ((List.range k).flatMap R)) (g : ∀ i, i < k → ∃ p : Pr, R i = [.int .i64 p.1, .int .i64 p.2]) :
    Calls Try.prog 7 #[.int .i64 n, v] w fun e w' => e = .returned (.bool true) ∧ Below w.heap.size w w' := by
  obtain ⟨P, hP⟩ := SlP_rows s g
  exact RelClosure_walk n v P w hP

theorem RelOrder_rows (n : Int) (v : Value) (k : Nat) (R : Nat → List Value) (w : World) (s : SlAt w v 2 k ((List.range k).flatMap R)) (g : ∀ i, i < k → ∃ p : Pr, R i = [.int .i64 p.1, .int .i64 p.2]) :
    Calls Try.prog 8 #[.int .i64 n, v] w fun e w' => e = .returned (.bool true) ∧ Below w.heap.size w w' := by
  obtain ⟨P, hP⟩ := SlP_rows s g
  exact RelOrder_walk n v P w hP

theorem RelThen_rows (n : Int) (v v2 : Value) (k k2 : Nat) (R R2 : Nat → List Value) (w : World) (s : SlAt w v 2 k ((List.range k).flatMap R)) (g : ∀ i, i < k → ∃ p : Pr, R i = [.int .i64 p.1, .int .i64 p.2]) (s2 : SlAt w v2 2 k2 ((List.range k2).flatMap R2)) (g2 : ∀ i, i < k2 → ∃ p : Pr, R2 i = [.int .i64 p.1, .int .i64 p.2]) :
    Calls Try.prog 6 #[.int .i64 n, v, v2] w fun e w' => e = .returned (.bool true) ∧ Below w.heap.size w w' := by
  obtain ⟨P, hP⟩ := SlP_rows s g
  obtain ⟨Q, hQ⟩ := SlP_rows s2 g2
  exact RelThen_walk n v v2 P Q w hP hQ

theorem RelMerges_rows (n : Int) (v v2 : Value) (k k2 : Nat) (R R2 : Nat → List Value) (w : World) (s : SlAt w v 2 k ((List.range k).flatMap R)) (g : ∀ i, i < k → ∃ p : Pr, R i = [.int .i64 p.1, .int .i64 p.2]) (s2 : SlAt w v2 2 k2 ((List.range k2).flatMap R2)) (g2 : ∀ i, i < k2 → ∃ p : Pr, R2 i = [.int .i64 p.1, .int .i64 p.2]) :
    Calls Try.prog 5 #[.int .i64 n, v, v2] w fun e w' => e = .returned (.bool true) ∧ Below w.heap.size w w' := by
  obtain ⟨P, hP⟩ := SlP_rows s g
  obtain ⟨Q, hQ⟩ := SlP_rows s2 g2
  exact RelMerges_walk n v v2 P Q w hP hQ

theorem RelSpreads_rows (v v2 v3 : Value) (k k2 k3 : Nat) (R R2 R3 : Nat → List Value) (w : World) (s : SlAt w v 2 k ((List.range k).flatMap R)) (g : ∀ i, i < k → ∃ p : Pr, R i = [.int .i64 p.1, .int .i64 p.2]) (s2 : SlAt w v2 2 k2 ((List.range k2).flatMap R2)) (g2 : ∀ i, i < k2 → ∃ p : Pr, R2 i = [.int .i64 p.1, .int .i64 p.2]) (s3 : SlAt w v3 2 k3 ((List.range k3).flatMap R3)) (g3 : ∀ i, i < k3 → ∃ p : Pr, R3 i = [.int .i64 p.1, .int .i64 p.2]) :
    Calls Try.prog 12 #[v, v2, v3] w fun e w' => e = .returned (.bool true) ∧ Below w.heap.size w w' := by
  obtain ⟨P, hP⟩ := SlP_rows s g
  obtain ⟨Q, hQ⟩ := SlP_rows s2 g2
  obtain ⟨S, hS⟩ := SlP_rows s3 g3
  exact RelSpreads_walk v v2 v3 P Q S w hP hQ hS
end Go.Proofs.Ytjgfnemdklljmaa
