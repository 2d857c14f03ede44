/-
  WHAT LAWS OVER SLICES USE IN THEIR LIFTING: a slice that came in, opened to its cells.
-/
import Derived.Test.YtlpejfoeiaogcabGreatKit
import Derived.Test.YtlpejfoeiaogcabGreatSl
import Derived.ChangeSlices
import Derived.Deep.Slices
set_option linter.unusedSimpArgs false
set_option linter.unusedVariables false
namespace Go.Proofs.YtlpejfoeiaogcabGreat
open Go.ChangeShapes Go.WideShapes Go.ChangeAt Go.RowKit

section
variable {H : Type} {enc : TypeId × Value → H} {P : Program} {w : World} {base : Nat} {spare : Nat → Bool} {held : Bool}
/-- a slice of integers -/
theorem open_ints_arg {r : Reach} {b0 : Nat} {t e : TypeId} {k : IntKind} {v : Value} {d : DataW H} {p : List MemPlace} (ht : P.underlying t = some (.slice e)) (he : P.underlying e = some (.int k)) (hc : P.cellsOf e = 1)
    (hv : Value.okWide P w r b0 t v) (h : DataW.Trod enc P w base spare held t v d p) :
    ∃ n, ∃ zs : List Int, zs.length = n ∧ SlAt w v 1 n (zs.map (Value.int k)) ∧ ∀ z ∈ zs, (Lit.int k z).wf = true := by
  obtain ⟨a, len, cap, rfl⟩ := okWide_slice ht hv
  obtain ⟨fuel, hf⟩ := h
  rcases Go.ChangeShapes.open_ints ht he hc hf with ⟨e0, _⟩ | ⟨a', len', cap', zs, e0, _, hlc, hm, hzl, _, hx, hw⟩
  · simp only [Value.cells, List.cons.injEq, and_true] at e0
    injection e0 with e1 e2 e3
    subst e1 e2 e3
    exact ⟨0, [], rfl, SlAt.nil _ _, by simp⟩
  · simp only [Value.cells, List.cons.injEq, and_true] at e0
    injection e0 with e1 e2 e3
    subst e1 e2 e3
    have hl : len ≤ zs.length := by rw [hzl]; split <;> omega
    refine ⟨len, zs.take len, by simp; omega, ⟨by simp; omega, .inr ⟨a', cap, rfl, hlc, hm, fun j u hj => ?_⟩⟩, fun z hz => hw z (List.mem_of_mem_take hz)⟩
    rw [List.getElem?_map] at hj
    obtain ⟨z, hz, rfl⟩ := Option.map_eq_some_iff.1 hj
    have hjl : j < len := by
      have := (List.getElem?_eq_some_iff.1 hz).1
      simp at this
      omega
    rw [List.getElem?_take_of_lt hjl] at hz
    rw [hx j (by omega), List.getD_eq_getElem?_getD, hz]
    rfl
theorem flat_get {α : Type} (R : Nat → List α) (K : Nat) : ∀ (n : Nat), (∀ i, i < n → (R i).length = K) → ((List.range n).flatMap R).length = n * K ∧ ∀ j u, ((List.range n).flatMap R)[j]? = some u → ∃ i r, i < n ∧ j = i * K + r ∧ r < K ∧ (R i)[r]? = some u := by
  intro n
  induction n with
  | zero => intro _; exact ⟨by simp, fun j u h => by simp at h⟩
  | succ n ih =>
    intro hR
    obtain ⟨h1, h2⟩ := ih fun i hi => hR i (by omega)
    rw [List.range_succ, List.flatMap_append, List.flatMap_singleton]
    refine ⟨by rw [List.length_append, h1, hR n (by omega), Nat.succ_mul], fun j u hj => ?_⟩
    by_cases c : j < n * K
    · rw [List.getElem?_append_left (by omega)] at hj
      obtain ⟨i, r, hi, e, hr, hu⟩ := h2 j u hj
      exact ⟨i, r, by omega, e, hr, hu⟩
    · rw [List.getElem?_append_right (by omega), h1] at hj
      have hl := (List.getElem?_eq_some_iff.1 hj).1
      rw [hR n (by omega)] at hl
      exact ⟨n, j - n * K, by omega, by omega, hl, hj⟩
theorem flat_at {α : Type} (R : Nat → List α) (K n : Nat) (hR : ∀ i, i < n → (R i).length = K) (i r : Nat) (hi : i < n) (hr : r < K) : ((List.range n).flatMap R)[i * K + r]? = (R i)[r]? := by
  obtain ⟨h1, h2⟩ := flat_get R K n hR
  have hlt : i * K + r < n * K := by
    have : (i + 1) * K ≤ n * K := Nat.mul_le_mul_right K hi
    rw [Nat.succ_mul] at this
    omega
  obtain ⟨i', r', _, e, hr', hu⟩ := h2 (i * K + r) _ (List.getElem?_eq_getElem (by rw [h1]; exact hlt))
  have hK : 0 < K := by omega
  have e1 : i = i' := by
    have a : (i * K + r) / K = i := by rw [Nat.add_comm, Nat.add_mul_div_right _ _ hK, Nat.div_eq_of_lt hr, Nat.zero_add]
    have b : (i' * K + r') / K = i' := by rw [Nat.add_comm, Nat.add_mul_div_right _ _ hK, Nat.div_eq_of_lt hr', Nat.zero_add]
    rw [e] at a
    exact a.symm.trans b
  subst e1
  have e2 : r = r' := by omega
  subst e2
  rw [hu]
  exact List.getElem?_eq_getElem _
/-- a slice of elements of K cells -/
theorem open_rows_arg {r : Reach} {b0 : Nat} {t e : TypeId} {v : Value} {d : DataW H} {p : List MemPlace} (K : Nat) (ht : P.underlying t = some (.slice e)) (hc : P.cellsOf e = K)
    (hv : Value.okWide P w r b0 t v) (h : DataW.Trod enc P w base spare held t v d p) :
    ∃ n, ∃ R : Nat → List Value, SlAt w v K n ((List.range n).flatMap R) ∧ ∀ i, i < n → (R i).length = K ∧ ∃ m y, DataW.trod enc P w base spare held m e (R i) = some y := by
  obtain ⟨a, len, cap, rfl⟩ := okWide_slice ht hv
  obtain ⟨fuel, hf⟩ := h
  rcases Go.Deep.open_slice ht hf with ⟨e0, _⟩ | ⟨a', len', cap', m, n, D, Pl, e0, hb, hl, hm, hmm, _, hx⟩
  · simp only [Value.cells, List.cons.injEq, and_true] at e0
    injection e0 with e1 e2 e3
    subst e1 e2 e3
    exact ⟨0, fun _ => [], SlAt.nil _ _, fun i hi => absurd hi (by omega)⟩
  · simp only [Value.cells, List.cons.injEq, and_true] at e0
    injection e0 with e1 e2 e3
    subst e1 e2 e3
    have hlm : len ≤ m := by rw [hmm]; split <;> omega
    rw [hc] at hx
    obtain ⟨R, hR⟩ := Go.Deep.choose_lt (α := List Value) (p := fun i cs => w.cells? base (a'.add (i * K)) K = some cs ∧ DataW.trod enc P w base spare held n e cs = some (D i, Pl i)) (fun i (hi : i < len) => hx i (by omega))
    have len : ∀ i, i < len → (R i).length = K := fun i hi => (World.cells?_some (hR i hi).1).2.1
    have hg := flat_get R K _ len
    refine ⟨_, R, ⟨hg.1, .inr ⟨a', cap, rfl, hl, hm, fun j u hj => ?_⟩⟩, fun i hi => ⟨len i hi, n, _, (hR i hi).2⟩⟩
    obtain ⟨i, q, hi, rfl, hq, hu⟩ := hg.2 j u hj
    rw [← add_add, (World.cells?_some (hR i hi).1).2.2 q hq, hu]
/-- a struct of one-cell fields, laid in cells -/
theorem open_fields_cells {t : TypeId} {fs : Array Field} {cs : List Value} {fuel : Nat} {y : DataW H × List MemPlace} (hs : P.underlying t = some (.struct fs)) (hone : Go.Deep.oneCellFields P fs = true) (hl : cs.length = fs.size)
    (hf : DataW.trod enc P w base spare held fuel t cs = some y) :
    ∀ (j : Nat) (f : Field), fs[j]? = some f → ∃ (c : Value) (y : DataW H × List MemPlace) (n : Nat), cs[j]? = some c ∧ DataW.trod enc P w base spare held n f.type [c] = some y := by
  obtain ⟨xs, n, _, hx, _, hlen, hg⟩ := DataW.trod_struct hs hf
  intro j f hj
  obtain ⟨o, k⟩ := Go.Deep.hone_of hone j f hj
  have hjl : j < fs.size := (Array.getElem?_eq_some_iff.1 hj).1
  have h1 := hg j f hj
  rw [o, k] at h1
  have h2 : (cs.drop j).take 1 = [cs[j]'(by omega)] := by
    rw [List.drop_eq_getElem_cons (by omega)]
    rfl
  have h3 : xs[j]? = some (xs[j]'(by omega)) := List.getElem?_eq_getElem (by omega)
  rw [h2, h3] at h1
  exact ⟨_, _, n, List.getElem?_eq_getElem (by omega), h1⟩
end
end Go.Proofs.YtlpejfoeiaogcabGreat
