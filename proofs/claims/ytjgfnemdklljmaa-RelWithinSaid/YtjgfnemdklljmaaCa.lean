/-
  Layer 1, the laws over rows: RelTotal, RelMakes, RelHas, RelWithin.
-/
import Derived.Test.YtjgfnemdklljmaaAx
import Derived.Test.YtjgfnemdklljmaaAy
import Derived.Test.YtjgfnemdklljmaaAz
import Derived.Test.YtjgfnemdklljmaaAu
set_option linter.unusedSimpArgs false
set_option linter.unusedVariables false
namespace Go.Proofs.Ytjgfnemdklljmaa
open Go.ChangeShapes Go.WideShapes Go.ChangeAt Go.RowKit GrR
section
variable {H : Type} {enc : TypeId × Value → H} {w : World} {base : Nat} {spare : Nat → Bool} {held : Bool}
theorem open_markR {R : List Value} {m : Nat} {y : DataW H × List MemPlace} (hf : DataW.trod enc Try.prog w base spare held m 4 R = some y) : ∃ b : Bool, R = [.bool b] := by
  obtain ⟨a, u, _⟩ := DataW.trod_bool Try.underlying4 hf
  exact ⟨a, u⟩
end
theorem SlM_rows {v : Value} {n : Nat} {R : Nat → List Value} {w : World} (s : SlAt w v 1 n ((List.range n).flatMap R)) (g : ∀ i, i < n → ∃ b : Bool, R i = [.bool b]) : ∃ S, SlM w v S := by
  obtain ⟨KX, hKX⟩ := Go.Deep.choose_lt (α := Bool) g
  refine ⟨(List.range n).map KX, ?_⟩
  have e : bolC ((List.range n).map KX) = (List.range n).flatMap R := by
    unfold bolC
    rw [List.map_map, show (List.range n).map (Value.bool ∘ KX) = (List.range n).flatMap (fun i => [Value.bool (KX i)]) from by
      generalize List.range n = l
      induction l with
      | nil => rfl
      | cons x l ih => simp [ih]]
    exact Go.Deep.flatMap_congr_range fun i hi => (hKX i hi).symm
  unfold SlM
  rw [e, List.length_map, List.length_range]
  exact s
theorem RelMakes_rows (n : Int) (v : Value) (k : Nat) (R : Nat → List Value) (w : World) (s : SlAt w v 2 k ((List.range k).flatMap R)) (g : ∀ i, i < k → ∃ p : Pr, R i = [.int .i64 p.1, .int .i64 p.2]) :
    Calls Try.prog 3 #[.int .i64 n, v] w fun e w' => e = .returned (.bool true) ∧ Below w.heap.size w w' := by
  obtain ⟨P, hP⟩ := SlP_rows s g
  exact RelMakes_walk n v P w hP

theorem RelHas_rows (n : Int) (v : Value) (k : Nat) (R : Nat → List Value) (a b : Int) (w : World) (s : SlAt w v 2 k ((List.range k).flatMap R)) (g : ∀ i, i < k → ∃ p : Pr, R i = [.int .i64 p.1, .int .i64 p.2]) :
    Calls Try.prog 4 #[.int .i64 n, v, .agg #[.int .i64 a, .int .i64 b]] w fun e w' => e = .returned (.bool true) ∧ Below w.heap.size w w' := by
  obtain ⟨P, hP⟩ := SlP_rows s g
  exact RelHas_walk n v P a b w hP

theorem RelTotal_rows (n : Int) (v v2 : Value) (k k2 : Nat) (R R2 : Nat → List Value) (w : World) (s : SlAt w v 2 k ((List.range k).flatMap R)) (g : ∀ i, i < k → ∃ p : Pr, R i = [.int .i64 p.1, .int .i64 p.2]) (s2 : SlAt w v2 1 k2 ((List.range k2).flatMap R2)) (g2 : ∀ i, i < k2 → ∃ b : Bool, R2 i = [.bool b]) :
    Calls Try.prog 11 #[.int .i64 n, v, v2] w fun e w' => e = .returned (.bool true) ∧ Below w.heap.size w w' := by
  obtain ⟨P, hP⟩ := SlP_rows s g
  obtain ⟨S, hS⟩ := SlM_rows s2 g2
  exact RelTotal_walk n v v2 P S w hP hS

theorem RelWithin_rows (v v1 v2 : Value) (k k1 k2 : Nat) (R R1 R2 : Nat → List Value) (w : World) (s : SlAt w v 2 k ((List.range k).flatMap R)) (g : ∀ i, i < k → ∃ p : Pr, R i = [.int .i64 p.1, .int .i64 p.2]) (s1 : SlAt w v1 1 k1 ((List.range k1).flatMap R1)) (g1 : ∀ i, i < k1 → ∃ b : Bool, R1 i = [.bool b]) (s2 : SlAt w v2 1 k2 ((List.range k2).flatMap R2)) (g2 : ∀ i, i < k2 → ∃ b : Bool, R2 i = [.bool b]) :
    Calls Try.prog 10 #[v, v1, v2] w fun e w' => e = .returned (.bool true) ∧ Below w.heap.size w w' := by
  obtain ⟨P, hP⟩ := SlP_rows s g
  obtain ⟨F, hF⟩ := SlM_rows s1 g1
  obtain ⟨G, hG⟩ := SlM_rows s2 g2
  exact RelWithin_walk v v1 v2 P F G w hP hF hG
end Go.Proofs.Ytjgfnemdklljmaa
