/-
  Layer 9, the laws over rows of cells: TlbSingle.
-/
import Derived.Test.YteiokenijmaloaaUt
import Derived.Test.YteiokenijmaloaaKit
import Derived.Test.YteiokenijmaloaaKs
set_option linter.unusedSimpArgs false
set_option linter.unusedVariables false
namespace Go.Proofs.Yteiokenijmaloaa
open Go.ChangeShapes Go.WideShapes Go.ChangeAt Go.RowKit GrT

instance : Inhabited E := ⟨⟨0, 0, 0, 0⟩⟩
section
variable {H : Type} {enc : TypeId × Value → H} {w : World} {base : Nat} {spare : Nat → Bool} {held : Bool}
theorem open_wayR {R : List Value} {m : Nat} {y : DataW H × List MemPlace} (h : R.length = 4) (hf : DataW.trod enc Try.prog w base spare held m 53 R = some y) :
    ∃ e : E, R = [.int .i64 e.space, .int .u64 e.page, .int .u64 e.first, .int .u64 e.last] ∧ EB e := by
  match R, h with
  | [c0, c1, c2, c3], _ =>
    have f := open_fields_cells Try.underlying53 (by kernel_rfl) rfl hf
    obtain ⟨_, y0, n0, e0, g0⟩ := f 0 _ rfl
    simp only [List.getElem?_cons_zero, List.getElem?_cons_succ, Option.some.injEq] at e0
    subst e0
    obtain ⟨a0, u0, _, w0⟩ := DataW.trod_int Try.underlying3 g0
    simp only [List.cons.injEq, and_true] at u0
    subst u0
    obtain ⟨_, y1, n1, e1, g1⟩ := f 1 _ rfl
    simp only [List.getElem?_cons_zero, List.getElem?_cons_succ, Option.some.injEq] at e1
    subst e1
    obtain ⟨a1, u1, _, w1⟩ := DataW.trod_int Try.underlying23 g1
    simp only [List.cons.injEq, and_true] at u1
    subst u1
    obtain ⟨_, y2, n2, e2, g2⟩ := f 2 _ rfl
    simp only [List.getElem?_cons_zero, List.getElem?_cons_succ, Option.some.injEq] at e2
    subst e2
    obtain ⟨a2, u2, _, w2⟩ := DataW.trod_int Try.underlying23 g2
    simp only [List.cons.injEq, and_true] at u2
    subst u2
    obtain ⟨_, y3, n3, e3, g3⟩ := f 3 _ rfl
    simp only [List.getElem?_cons_zero, List.getElem?_cons_succ, Option.some.injEq] at e3
    subst e3
    obtain ⟨a3, u3, _, w3⟩ := DataW.trod_int Try.underlying23 g3
    simp only [List.cons.injEq, and_true] at u3
    subst u3
    exact ⟨⟨a0, a1, a2, a3⟩, rfl, bd_u64 w1, bd_u64 w2, bd_u64 w3⟩
end
theorem SlE_rows {v : Value} {n : Nat} {R : Nat → List Value} {w : World} (s : SlAt w v 4 n ((List.range n).flatMap R)) (g : ∀ i, i < n → ∃ e : E, R i = [.int .i64 e.space, .int .u64 e.page, .int .u64 e.first, .int .u64 e.last] ∧ EB e) : ∃ S, SlE w v S ∧ LB S := by
  obtain ⟨KX, hKX⟩ := Go.Deep.choose_lt (α := E) g
  refine ⟨(List.range n).map KX, ?_, fun p hp => ?_⟩
  · have e : entsC ((List.range n).map KX) = (List.range n).flatMap R := by
      unfold entsC
      rw [List.flatMap_map]
      exact Go.Deep.flatMap_congr_range fun i hi => (hKX i hi).1.symm
    unfold SlE
    rw [e, List.length_map, List.length_range]
    exact s
  · obtain ⟨i, hi, rfl⟩ := List.mem_map.1 hp
    exact (hKX i (List.mem_range.1 hi)).2
theorem TlbSingle_rows (v : Value) (k : Nat) (R : Nat → List Value) (w : World) (s : SlAt w v 4 k ((List.range k).flatMap R)) (g : ∀ i, i < k → ∃ e : E, R i = [.int .i64 e.space, .int .u64 e.page, .int .u64 e.first, .int .u64 e.last] ∧ EB e) :
    Calls Try.prog 7 #[v] w fun e w' => e = .returned (.bool true) ∧ Below w.heap.size w w' := by
  obtain ⟨S, hS, hB⟩ := SlE_rows s g
  exact TlbSingle_walk v S w hS hB
end Go.Proofs.Yteiokenijmaloaa
