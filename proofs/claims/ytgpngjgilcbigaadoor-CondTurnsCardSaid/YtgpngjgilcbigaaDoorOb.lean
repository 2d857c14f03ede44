/-
  Layer 11: a condition in memory.
-/
import Derived.Test.YtgpngjgilcbigaaDoorOa
import Derived.Test.YtgpngjgilcbigaaDoorSl
set_option linter.unusedSimpArgs false
set_option linter.unusedVariables false
namespace Go.Proofs.YtgpngjgilcbigaaDoor
open Go.RowKit GrC

mutual
/-- cs are the cells of the condition -/
def CAt (W : World) : Cnd → List Value → Prop
  | .node k co r ad va ts, cs => ∃ p n c, cs = [.int .i64 k, .int .i64 co, .int .i64 r, .int .u64 ad, .int .u64 va, .slice p n c] ∧ n = ts.length ∧ LAt W ts p 0
/-- the conditions lie one behind the other from p on, from the i-th place on -/
def LAt (W : World) : List Cnd → Option Addr → Nat → Prop
  | [], _, _ => True
  | t :: us, p, i => (∃ a cs, p = some a ∧ (∀ r u, cs[r]? = some u → W.cell? (a.add (i * 6 + r)) = some u) ∧ CAt W t cs) ∧ LAt W us p (i + 1)
end
mutual
theorem CAt.keep {W U : World} (k : ∀ (a : Addr) u, W.cell? a = some u → U.cell? a = some u) : ∀ (c : Cnd) (cs : List Value), CAt W c cs → CAt U c cs
  | .node k0 co r ad va ts, cs, h => by
    rw [CAt] at h ⊢
    obtain ⟨p, n, c, e, hn, hl⟩ := h
    exact ⟨p, n, c, e, hn, LAt.keep k ts p 0 hl⟩
theorem LAt.keep {W U : World} (k : ∀ (a : Addr) u, W.cell? a = some u → U.cell? a = some u) : ∀ (ts : List Cnd) (p : Option Addr) (i : Nat), LAt W ts p i → LAt U ts p i
  | [], p, i, h => by rw [LAt]; trivial
  | t :: us, p, i, h => by
    rw [LAt] at h ⊢
    obtain ⟨⟨a, cs, e, hc, ht⟩, hr⟩ := h
    exact ⟨⟨a, cs, e, fun r u hu => k _ _ (hc r u hu), CAt.keep k t cs ht⟩, LAt.keep k us p (i + 1) hr⟩
end
theorem keep_below {W U : World} (k : Below W.heap.size W U) : ∀ (a : Addr) u, W.cell? a = some u → U.cell? a = some u := fun a u h => (k.cell (p := a) (World.block_lt_of_cell? W _ h)).trans h
theorem CAt.below {W U : World} {c : Cnd} {cs : List Value} (h : CAt W c cs) (k : Below W.heap.size W U) : CAt U c cs := CAt.keep (keep_below k) c cs h
theorem LAt.below {W U : World} {ts : List Cnd} {p : Option Addr} {i : Nat} (h : LAt W ts p i) (k : Below W.heap.size W U) : LAt U ts p i := LAt.keep (keep_below k) ts p i h
theorem LAt.at {W : World} {p : Option Addr} : ∀ (ts : List Cnd) (i : Nat), LAt W ts p i → ∀ j (h : j < ts.length), ∃ a cs, p = some a ∧ (∀ r u, cs[r]? = some u → W.cell? (a.add ((i + j) * 6 + r)) = some u) ∧ CAt W ts[j] cs
  | [], i, h, j, hj => by simp at hj
  | t :: us, i, h, 0, hj => by
    rw [LAt] at h
    obtain ⟨⟨a, cs, e, hc, ht⟩, hr⟩ := h
    exact ⟨a, cs, e, by simpa using hc, ht⟩
  | t :: us, i, h, j + 1, hj => by
    rw [LAt] at h
    obtain ⟨a, cs, e, hc, ht⟩ := LAt.at us (i + 1) h.2 j (by simpa using hj)
    refine ⟨a, cs, e, fun r u hu => ?_, ht⟩
    have := hc r u hu
    rwa [show i + 1 + j = i + (j + 1) by omega] at this
theorem LAt.mk {W : World} {a : Addr} : ∀ (ts : List Cnd) (i : Nat), (∀ j (h : j < ts.length), ∃ cs, (∀ r u, cs[r]? = some u → W.cell? (a.add ((i + j) * 6 + r)) = some u) ∧ CAt W ts[j] cs) → LAt W ts (some a) i
  | [], i, _ => by rw [LAt]; trivial
  | t :: us, i, h => by
    rw [LAt]
    obtain ⟨cs, hc, ht⟩ := h 0 (by simp)
    refine ⟨⟨a, cs, rfl, by simpa using hc, ht⟩, LAt.mk us (i + 1) fun j hj => ?_⟩
    obtain ⟨cs, hc, ht⟩ := h (j + 1) (by simpa using hj)
    refine ⟨cs, fun r u hu => ?_, ht⟩
    have := hc r u hu
    rwa [show i + 1 + j = i + (j + 1) by omega]
/-- the j-th of the conditions: its cells, and itself by value -/
theorem LAt.cells {W : World} {a : Addr} {ts : List Cnd} (h : LAt W ts (some a) 0) (j : Nat) (hj : j < ts.length) : ∃ p n c, n = ts[j].args.length ∧ LAt W ts[j].args p 0 ∧ W.cell? (a.add (j * 6)) = some (.int .i64 ts[j].k) ∧ W.cell? ⟨(a.add (j * 6)).block, (a.add (j * 6)).off + 1, none⟩ = some (.int .i64 ts[j].co) ∧ W.cell? ⟨(a.add (j * 6)).block, (a.add (j * 6)).off + 2, none⟩ = some (.int .i64 ts[j].r) ∧ W.cell? ⟨(a.add (j * 6)).block, (a.add (j * 6)).off + 3, none⟩ = some (.int .u64 ts[j].ad) ∧ W.cell? ⟨(a.add (j * 6)).block, (a.add (j * 6)).off + 4, none⟩ = some (.int .u64 ts[j].va) ∧ W.cell? ⟨(a.add (j * 6)).block, (a.add (j * 6)).off + 5, none⟩ = some (.slice p n c) := by
  obtain ⟨b, cs, e, hc, ht⟩ := LAt.at ts 0 h j hj
  cases e
  rw [Nat.zero_add] at hc
  obtain ⟨x, hx⟩ : ∃ x, x = ts[j] := ⟨_, rfl⟩
  rw [← hx] at ht ⊢
  obtain ⟨k0, co, r, ad, va, ts'⟩ := x
  rw [CAt] at ht
  obtain ⟨p, n, c, rfl, hn, hl⟩ := ht
  have hr : ∀ r, 0 < r → (⟨(a.add (j * 6)).block, (a.add (j * 6)).off + r, none⟩ : Addr) = a.add (j * 6 + r) := fun r h => by
    rw [← add_add]
    obtain ⟨y, hy⟩ : ∃ y, y = a.add (j * 6) := ⟨_, rfl⟩
    rw [← hy]
    unfold Addr.add
    rw [if_neg (by omega)]
  exact ⟨p, n, c, hn, hl, hc 0 _ rfl, by rw [hr 1 (by omega)]; exact hc 1 _ rfl, by rw [hr 2 (by omega)]; exact hc 2 _ rfl, by rw [hr 3 (by omega)]; exact hc 3 _ rfl, by rw [hr 4 (by omega)]; exact hc 4 _ rfl, by rw [hr 5 (by omega)]; exact hc 5 _ rfl⟩
end Go.Proofs.YtgpngjgilcbigaaDoor
