/-
  Layer 19: the law of plays, over a slice as it comes in.
-/
import Derived.Test.YtjmkkidlaebpmabQj
import Derived.Test.YtjmkkidlaebpmabKs
set_option linter.unusedSimpArgs false
set_option linter.unusedVariables false
namespace Go.Proofs.Ytjmkkidlaebpmab
open Go.ChangeShapes Go.WideShapes Go.ChangeAt Go.RowKit

section
variable {H : Type} {enc : TypeId × Value → H} {w : World} {base : Nat} {spare : Nat → Bool} {held : Bool}
theorem open_op {R : List Value} {m : Nat} {y : DataW H × List MemPlace} (h : R.length = 2) (hf : DataW.trod enc Try.prog w base spare held m 32 R = some y) :
    ∃ K X : Int, R = [.int .i64 K, .int .i64 X] ∧ -9223372036854775808 ≤ X ∧ X ≤ 9223372036854775807 := by
  match R, h with
  | [c0, c1], _ =>
    have f := open_fields_cells Try.underlying32 (by kernel_rfl) rfl hf
    obtain ⟨_, y0, n0, e0, g0⟩ := f 0 _ rfl
    simp only [List.getElem?_cons_zero, List.getElem?_cons_succ, Option.some.injEq] at e0
    subst e0
    obtain ⟨a0, u0, _, w0⟩ := DataW.trod_int Try.underlying3 g0
    simp only [List.cons.injEq, and_true] at u0
    subst u0
    obtain ⟨_, y1, n1, e1, g1⟩ := f 1 _ rfl
    simp only [List.getElem?_cons_zero, List.getElem?_cons_succ, Option.some.injEq] at e1
    subst e1
    obtain ⟨a1, u1, _, w1⟩ := DataW.trod_int Try.underlying3 g1
    simp only [List.cons.injEq, and_true] at u1
    subst u1
    exact ⟨a0, a1, rfl, bd_i64 w1⟩
end

theorem QueuePlays_walk (room : Int) (v : Value) (n : Nat) (R : Nat → List Value) (w : World) (s : SlAt w v 2 n ((List.range n).flatMap R)) (g : ∀ i, i < n → ∃ K X : Int, R i = [.int .i64 K, .int .i64 X] ∧ -9223372036854775808 ≤ X ∧ X ≤ 9223372036854775807) :
    Calls Try.prog 3 #[.int .i64 room, v] w fun e w' => e = .returned (.bool true) ∧ Below w.heap.size w w' := by
  obtain ⟨_, ⟨rfl, _⟩ | ⟨a, cap, rfl, hc, hm, hx⟩⟩ := s
  · exact QueuePlays_nil room w
  · obtain ⟨KX, hKX⟩ := Go.Deep.choose_lt (α := Int × Int) (p := fun i p => R i = [.int .i64 p.1, .int .i64 p.2] ∧ -9223372036854775808 ≤ p.2 ∧ p.2 ≤ 9223372036854775807) (fun i hi => by
      obtain ⟨K, X, e, b⟩ := g i hi
      exact ⟨(K, X), e, b⟩)
    have len : ∀ i, i < n → (R i).length = 2 := fun i hi => by rw [(hKX i hi).1]; rfl
    refine QueuePlays_some a n cap KX room w (fun i hi => ⟨?_, ?_⟩) (by unfold maxLen at hm; omega) (fun i hi => (hKX i hi).2)
    · have := hx (i * 2 + 0) _ (by rw [flat_at R 2 n len i 0 hi (by omega), (hKX i hi).1]; rfl)
      exact this
    · exact hx (i * 2 + 1) _ (by rw [flat_at R 2 n len i 1 hi (by omega), (hKX i hi).1]; rfl)
end Go.Proofs.Ytjmkkidlaebpmab
