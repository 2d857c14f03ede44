/-
  ROWS, briefly: the cells of a block of six, none frozen, what is kept of a cell, as one fact each.
  Layer 4, the walks: guess.
-/
import Derived.Test.YtebpmngllljkaaaDoorBx
import Derived.Test.YtebpmngllljkaaaDoorVq
set_option linter.unusedSimpArgs false
set_option linter.unusedVariables false
namespace Go.Proofs.YtebpmngllljkaaaDoor
open Go.RowKit

theorem six {U : World} {B : Nat} {a b c d e f : Value} {T : TypeId} (h : ∀ z : Wb U, Row z.at B [a, b, c, d, e, f] T) :
    (∀ z : Wb U, z.at.cell? ⟨B, 0, none⟩ = some a) ∧ (∀ z : Wb U, z.at.cell? ⟨B, 1, none⟩ = some b) ∧ (∀ z : Wb U, z.at.cell? ⟨B, 2, none⟩ = some c) ∧ (∀ z : Wb U, z.at.cell? ⟨B, 3, none⟩ = some d) ∧ (∀ z : Wb U, z.at.cell? ⟨B, 4, none⟩ = some e) ∧ (∀ z : Wb U, z.at.cell? ⟨B, 5, none⟩ = some f) :=
  ⟨fun z => (h z).cell 0, fun z => (h z).cell 1, fun z => (h z).cell 2, fun z => (h z).cell 3, fun z => (h z).cell 4, fun z => (h z).cell 5⟩
theorem rfree {U : World} {B : Nat} {L : List Value} {T : TypeId} (h : ∀ z : Wb U, Row z.at B L T) : ∀ (z : Wb U) (i : Nat), z.at.frozen? ⟨B, i, none⟩ = false := fun z i => (h z).free i
theorem keepc {w U : World} {a : Addr} {v : Value} (K : Hid (∀ z : Wb U, Below w.heap.size w z.at)) (h : Hid (w.cell? a = some v)) : ∀ z : Wb U, z.at.cell? a = some v := fun z => by
  rw [(K.out z).cell (World.block_lt_of_cell? w _ h.out)]
  exact h.out
end Go.Proofs.YtebpmngllljkaaaDoor

namespace Go.Proofs.YtebpmngllljkaaaDoor
open Go.RowKit GrP GrA

theorem slT_at {W : World} {L : List Tx} {a : Addr} {n cap : Nat} (h : SlT W (.slice (some a) n cap) L) (i : Nat) (hi : i < L.length) : W.cell? (a.add i) = some (.string (strL (L.getD i []))) := by
  obtain ⟨a2, cap2, e, _, hc⟩ := h
  injection e with e1 e2 e3
  injection e1 with e1
  subst e1
  rw [List.getD_eq_getElem?_getD, List.getElem?_eq_getElem hi]
  exact hc i hi
theorem short_at {L : List Tx} (h : Short L) (i : Nat) (hi : i < L.length) : (L.getD i []).length ≤ 4194304 := by
  rw [List.getD_eq_getElem?_getD, List.getElem?_eq_getElem hi]
  exact h _ (List.getElem_mem _)
theorem str_lit_ne {t k : Tx} (h : ¬ t = k) : ((strL t).toList == k) = false := by rw [strL_toList, beq_eq_false_iff_ne]; exact h
theorem str_lit_eq {t k : Tx} (h : t = k) : ((strL t).toList == k) = true := by rw [strL_toList, beq_iff_eq]; exact h
theorem last_is {L : List Tx} {k : Nat} (h : L.length = k + 1) : lastW L = L.getD k [] := by rw [lastW, h]; rfl
end Go.Proofs.YtebpmngllljkaaaDoor
