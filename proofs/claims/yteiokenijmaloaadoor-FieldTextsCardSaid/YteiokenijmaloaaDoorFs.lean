/-
  Layer 2, the walks of the page's own answers, further: May, Get, Put, Signed, Down.
-/
import Derived.Test.YteiokenijmaloaaDoorFr
set_option linter.unusedSimpArgs false
set_option linter.unusedVariables false
namespace Go.Proofs.YteiokenijmaloaaDoor
open Go.RowKit

/-- the bits of a part of block g, as Word wants them -/
theorem BitsAt.part {w : World} {g cap : Nat} {b : Nat → Bool} (h : BitsAt w g cap b) (lo n : Nat) (hn : lo + n ≤ 64) :
    ∀ j, j < n → w.cell? ⟨g, lo + j, none⟩ = some (.int .i64 ((GrF.bl (fun i => b (lo + i)) n).getD j 0)) := by
  intro j hj
  rw [GrF.bl_get _ _ _ hj]
  exact h.cell (lo + j) (by omega)

/-- a store of a bit -/
theorem BitsAt.set {w : World} {g cap : Nat} {b b' : Nat → Bool} {c : Bool} (h : BitsAt w g cap b) (i : Nat) (hi : i < 64) (hb : ∀ j, j < 64 → b' j = if j = i then c else b j) :
    BitsAt (w.setCell ⟨g, i, none⟩ (.int .i64 (GrF.bit c))) g cap b' := by
  obtain ⟨h1, h2, cur, h3, h4, h5⟩ := h
  refine ⟨h1, h2, cur.setIfInBounds i (.int .i64 (GrF.bit c)), ?_, by simp [h4], ?_⟩
  · simp only [World.setCell, Array.getElem?_modify, h3, if_pos]
    rfl
  · intro j hj
    rw [hb j hj, Array.getElem?_setIfInBounds]
    by_cases e : j = i
    · subst e
      rw [if_pos rfl, if_pos (by omega)]
      simp
    · rw [if_neg (by omega), if_neg e]
      exact h5 j hj
theorem BitsAt.other {w : World} {g cap : Nat} {b : Nat → Bool} (h : BitsAt w g cap b) {a : Addr} (ha : a.block ≠ g) (u : Value) : BitsAt (w.setCell a u) g cap b := by
  obtain ⟨h1, h2, cur, h3, h4⟩ := h
  exact ⟨h1, h2, cur, by rw [Below.heap_setCell _ _ _ _ (by omega)]; exact h3, h4⟩

theorem num_congr {b b' : Nat → Bool} {n : Nat} (h : ∀ i, i < n → b i = b' i) : GrF.num b n = GrF.num b' n := by
  apply Nat.eq_of_testBit_eq
  intro i
  rw [GrF.num_testBit, GrF.num_testBit]
  by_cases hi : i < n
  · rw [h i hi]
  · simp [hi]
theorem down_set (b : Nat → Bool) (k : Nat) : ∀ j, j < 64 → (b j && !(decide (j < k + 1))) = if j = k then false else (b j && !(decide (j < k))) := by
  intro j _
  by_cases e : j = k
  · simp [e]
  · have : (j < k + 1) ↔ (j < k) := by omega
    simp [e, this]
theorem down_end (x n : Int) (k : Nat) (h : k = min n.toNat 64) : ((GrF.num (fun i => x.toNat.testBit i && !(decide (i < k))) 64 : Nat) : Int) = GrF.down x n := by
  unfold GrF.down GrF.downN
  congr 1
  apply num_congr
  intro i hi
  have : (i < k) ↔ (i < n.toNat) := by omega
  simp [this]

theorem put_set (x y H L i : Nat) (h1 : L ≤ i) (h2 : i ≤ H) : ∀ j, j < 64 → (if L ≤ j ∧ j < i + 1 then y.testBit (j - L) else x.testBit j) = if j = i then y.testBit (i - L) else (if L ≤ j ∧ j < i then y.testBit (j - L) else x.testBit j) := by
  intro j _
  by_cases e : j = i
  · subst e
    rw [if_pos ⟨h1, by omega⟩, if_pos rfl]
  · rw [if_neg e]
    by_cases c : L ≤ j ∧ j < i
    · rw [if_pos c, if_pos ⟨c.1, by omega⟩]
    · rw [if_neg c, if_neg (by omega)]
theorem put_end (x y H L i : Nat) (h : i = H + 1) : GrF.num (fun j => if L ≤ j ∧ j < i then y.testBit (j - L) else x.testBit j) 64 = GrF.putN x H L y := by
  unfold GrF.putN
  apply num_congr
  intro j hj
  unfold GrF.putBit
  by_cases c : L ≤ j ∧ j ≤ H
  · rw [if_pos c, if_pos ⟨c.1, by omega⟩]
  · rw [if_neg c, if_neg (by omega)]

theorem rsigned_val (x n : Int) (h1 : 1 ≤ n) (h2 : n ≤ 63) : GrF.signed x n = if x.toNat.testBit (n.toNat - 1) then ((GrF.num (fun i => x.toNat.testBit i) (n.toNat - 1) : Nat) : Int) - GrF.pw (n - 1) else ((GrF.num (fun i => x.toNat.testBit i) (n.toNat - 1) : Nat) : Int) := by
  rw [GrF.signed, if_neg (by omega), GrF.signedN, ← GrF.pw_cast, show (n - 1).toNat = n.toNat - 1 by omega]
  by_cases hb : x.toNat.testBit (n.toNat - 1) = true
  · rw [if_pos hb, if_pos hb]; simp
  · rw [if_neg hb, if_neg hb]; omega

end Go.Proofs.YteiokenijmaloaaDoor
