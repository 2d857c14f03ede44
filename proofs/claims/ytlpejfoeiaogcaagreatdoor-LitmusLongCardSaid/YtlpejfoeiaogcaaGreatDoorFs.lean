/-
  Layer 2, the walks of the page's own answers (granuleref02): lists of bits in new memory.
  Layer 2, the walks of the page's own answers, further: May, Get, Put, Signed, Down.
-/
import Derived.Test.YtlpejfoeiaogcaaGreatDoorFx
set_option linter.unusedSimpArgs false
set_option linter.unusedVariables false
namespace Go.Proofs.YtlpejfoeiaogcaaGreatDoor
open Go.RowKit

theorem Tryz.infoInt : (Tryz.prog.info? 3).map (fun i => (i.zero, i.size, i.bytes)) = some (some (.int .i64 0), 1, 8) := by kernel_rfl

/-- block g holds (at least) the 64 bits b, as ints -/
def BitsAt (w : World) (g cap : Nat) (b : Nat → Bool) : Prop :=
  64 ≤ cap ∧ cap ≤ maxLen ∧ ∃ cur, w.heap[g]? = some (.cells cur 3 (0, 0)) ∧ cur.size = cap ∧ ∀ j, j < 64 → cur[j]? = some (.int .i64 (GrF.bit (b j)))

theorem BitsAt.cell {w : World} {g cap : Nat} {b : Nat → Bool} (h : BitsAt w g cap b) (j : Nat) (hj : j < 64) : w.cell? ⟨g, j, none⟩ = some (.int .i64 (GrF.bit (b j))) := by
  obtain ⟨_, _, cur, hg, _, hb⟩ := h
  rw [cell_of_row w g j cur _ (0, 0) hg]
  exact hb j hj
theorem BitsAt.free {w : World} {g cap : Nat} {b : Nat → Bool} (h : BitsAt w g cap b) (j : Nat) : w.frozen? ⟨g, j, none⟩ = false := by
  obtain ⟨_, _, cur, hg, _, hb⟩ := h
  simp [World.frozen?, hg]
theorem BitsAt.below {w w' : World} {g cap B : Nat} {b : Nat → Bool} (h : BitsAt w g cap b) (k : Below B w w') (hg : g < B) : BitsAt w' g cap b := by
  obtain ⟨h1, h2, cur, h3, h4⟩ := h
  exact ⟨h1, h2, cur, by rw [k.block g hg]; exact h3, h4⟩
theorem BitsAt.lt {w : World} {g cap : Nat} {b : Nat → Bool} (h : BitsAt w g cap b) : g < w.heap.size := by
  obtain ⟨_, _, cur, hg, _⟩ := h
  exact (Array.getElem?_eq_some_iff.1 hg).1

/-- .. out of a row that the call owns -/
theorem BitsAt.of {w : World} {B : Nat} {v : Value} {b : Nat → Bool} (h : w.ownsRow B 3 1 v 64 ((GrF.bl b 64).map (Value.int .i64))) :
    ∃ g cap, v = .slice (some ⟨g, 0, none⟩) 64 cap ∧ B ≤ g ∧ BitsAt w g cap b := by
  obtain ⟨_, h2⟩ := h
  rcases h2 with ⟨_, h3⟩ | ⟨g, cap, cur, hv, hB, hg, hn, hm, hs, ht⟩
  · omega
  · refine ⟨g, cap, hv, hB, hn, hm, cur, hg, by simpa using hs, fun j hj => ?_⟩
    have h4 := congrArg (fun l => l[j]?) ht
    simp only [Nat.mul_one, List.getElem?_map] at h4
    rw [List.getElem?_take_of_lt hj, GrF.bl_get? _ _ _ hj] at h4
    simpa using h4
theorem bits_end {x : Int} {w wr : World} {v : Value} (hown : wr.ownsRow w.heap.size 3 1 v 64 ((GrF.bl (fun i => x.toNat.testBit i) 64).map (Value.int .i64))) (hbel : Below w.heap.size w wr) :
    ∃ g cap, Ending.returned v = .returned (.slice (some ⟨g, 0, none⟩) 64 cap) ∧ w.heap.size ≤ g ∧ BitsAt wr g cap (fun i => x.toNat.testBit i) ∧ Below w.heap.size w wr := by
  obtain ⟨g, cap, rfl, h1, h2⟩ := BitsAt.of hown
  exact ⟨g, cap, rfl, h1, h2, hbel⟩

/-- one new cell, as append's laws ask for it -/
theorem one_new (w : World) (v : Value) (T : TypeId) : ∀ (j : Nat) (u : Value), [v][j]? = some u → (w.alloc (.cells #[v] T)).cell? (({ block := w.heap.size, off := 0 } : Addr).add j) = some u := by
  intro j u hj
  match j, hj with
  | 0, hj =>
    simp at hj
    subst hj
    simp [Addr.add]
theorem one_int (k : IntKind) (n : Int) : ∀ u ∈ [Value.int k n], u.oneCell' = true := by
  intro u hu
  simp at hu
  subst hu
  rfl
theorem bits_step {x : Int} {w wr w1 : World} {v v' : Value} {k m : Nat} {o : Obj} (hm : m = x.toNat / 2 ^ k)
    (hown : wr.ownsRow w.heap.size 3 1 v k ((GrF.bl (fun i => x.toNat.testBit i) k).map (Value.int .i64))) (hbel : Below w.heap.size w wr)
    (hown' : w1.ownsRow w.heap.size 3 1 v' (k + 1) ((GrF.bl (fun i => x.toNat.testBit i) k).map (Value.int .i64) ++ [.int .i64 ((m : Int) % 2)])) (hgrow : (wr.alloc o).grownBy w1 v.ownBlock) :
    w1.ownsRow w.heap.size 3 1 v' (k + 1) ((GrF.bl (fun i => x.toNat.testBit i) (k + 1)).map (Value.int .i64)) ∧ Below w.heap.size w w1 := by
  refine ⟨?_, ?_⟩
  · rw [GrF.bl_succ, List.map_append]
    have e : ((m : Int) % 2) = GrF.bit (x.toNat.testBit k) := by
      rw [Nat.testBit_eq_decide_div_mod_eq, ← hm]
      unfold GrF.bit
      by_cases h : m % 2 = 1
      · simp [h]; omega
      · simp [h]; omega
    rw [e] at hown'
    exact hown'
  · refine (hbel.alloc hbel.size o).grown hgrow ?_ ?_
    · have := hbel.size; simp; omega
    · intro j hj
      exact (hown.lt j hj).1
theorem half (a k : Nat) (h : a < 18446744073709551616) : Value.int .u64 (IntKind.u64.wrap (((a / 2 ^ k : Nat) : Int) / 2)) = Value.int .u64 ((a / 2 ^ (k + 1) : Nat) : Int) := by
  have h2 := GrF.div_lt h (2 ^ k)
  rw [Nat.pow_succ, ← Nat.div_div_eq_div_mul, IntKind.wrap_u64]
  generalize a / 2 ^ k = b at h2
  congr 1
  omega

/-- the post of Bits -/
def BitsPost (x : Int) (w : World) (e : Ending) (w' : World) : Prop :=
  ∃ g cap, e = .returned (.slice (some ⟨g, 0, none⟩) 64 cap) ∧ w.heap.size ≤ g ∧ BitsAt w' g cap (fun i => x.toNat.testBit i) ∧ Below w.heap.size w w'

end Go.Proofs.YtlpejfoeiaogcaaGreatDoor

namespace Go.Proofs.YtlpejfoeiaogcaaGreatDoor
open Go.RowKit

/-- the bits of a part of block g, as Word wants them -/
theorem BitsAt.part {w : World} {g cap : Nat} {b : Nat → Bool} (h : BitsAt w g cap b) (lo n : Nat) (hn : lo + n ≤ 64) :
    ∀ j, j < n → w.cell? ⟨g, lo + j, none⟩ = some (.int .i64 ((GrF.bl (fun i => b (lo + i)) n).getD j 0)) := by
  intro j hj
  rw [GrF.bl_get _ _ _ hj]
  exact h.cell (lo + j) (by omega)

/-- a store of a bit -/
theorem BitsAt.set {w : World} {g cap : Nat} {b b' : Nat → Bool} {c : Bool} (h : BitsAt w g cap b) (i : Nat) (hi : i < 64) (hb : ∀ j, j < 64 → b' j = if j = i then c else b j) :
    BitsAt (w.setCell ⟨g, i, none⟩ (.int .i64 (GrF.bit c))) g cap b' := by
  obtain ⟨h1, h2, cur, h3, h4, h5⟩ := h
  refine ⟨h1, h2, cur.setIfInBounds i (.int .i64 (GrF.bit c)), ?_, by simp [h4], ?_⟩
  · simp only [World.setCell, Array.getElem?_modify, h3, if_pos]
    rfl
  · intro j hj
    rw [hb j hj, Array.getElem?_setIfInBounds]
    by_cases e : j = i
    · subst e
      rw [if_pos rfl, if_pos (by omega)]
      simp
    · rw [if_neg (by omega), if_neg e]
      exact h5 j hj
theorem BitsAt.other {w : World} {g cap : Nat} {b : Nat → Bool} (h : BitsAt w g cap b) {a : Addr} (ha : a.block ≠ g) (u : Value) : BitsAt (w.setCell a u) g cap b := by
  obtain ⟨h1, h2, cur, h3, h4⟩ := h
  exact ⟨h1, h2, cur, by rw [Below.heap_setCell _ _ _ _ (by omega)]; exact h3, h4⟩

theorem num_congr {b b' : Nat → Bool} {n : Nat} (h : ∀ i, i < n → b i = b' i) : GrF.num b n = GrF.num b' n := by
  apply Nat.eq_of_testBit_eq
  intro i
  rw [GrF.num_testBit, GrF.num_testBit]
  by_cases hi : i < n
  · rw [h i hi]
  · simp [hi]
theorem down_set (b : Nat → Bool) (k : Nat) : ∀ j, j < 64 → (b j && !(decide (j < k + 1))) = if j = k then false else (b j && !(decide (j < k))) := by
  intro j _
  by_cases e : j = k
  · simp [e]
  · have : (j < k + 1) ↔ (j < k) := by omega
    simp [e, this]
theorem down_end (x n : Int) (k : Nat) (h : k = min n.toNat 64) : ((GrF.num (fun i => x.toNat.testBit i && !(decide (i < k))) 64 : Nat) : Int) = GrF.down x n := by
  unfold GrF.down GrF.downN
  congr 1
  apply num_congr
  intro i hi
  have : (i < k) ↔ (i < n.toNat) := by omega
  simp [this]

theorem put_set (x y H L i : Nat) (h1 : L ≤ i) (h2 : i ≤ H) : ∀ j, j < 64 → (if L ≤ j ∧ j < i + 1 then y.testBit (j - L) else x.testBit j) = if j = i then y.testBit (i - L) else (if L ≤ j ∧ j < i then y.testBit (j - L) else x.testBit j) := by
  intro j _
  by_cases e : j = i
  · subst e
    rw [if_pos ⟨h1, by omega⟩, if_pos rfl]
  · rw [if_neg e]
    by_cases c : L ≤ j ∧ j < i
    · rw [if_pos c, if_pos ⟨c.1, by omega⟩]
    · rw [if_neg c, if_neg (by omega)]
theorem put_end (x y H L i : Nat) (h : i = H + 1) : GrF.num (fun j => if L ≤ j ∧ j < i then y.testBit (j - L) else x.testBit j) 64 = GrF.putN x H L y := by
  unfold GrF.putN
  apply num_congr
  intro j hj
  unfold GrF.putBit
  by_cases c : L ≤ j ∧ j ≤ H
  · rw [if_pos c, if_pos ⟨c.1, by omega⟩]
  · rw [if_neg c, if_neg (by omega)]

theorem rsigned_val (x n : Int) (h1 : 1 ≤ n) (h2 : n ≤ 63) : GrF.signed x n = if x.toNat.testBit (n.toNat - 1) then ((GrF.num (fun i => x.toNat.testBit i) (n.toNat - 1) : Nat) : Int) - GrF.pw (n - 1) else ((GrF.num (fun i => x.toNat.testBit i) (n.toNat - 1) : Nat) : Int) := by
  rw [GrF.signed, if_neg (by omega), GrF.signedN, ← GrF.pw_cast, show (n - 1).toNat = n.toNat - 1 by omega]
  by_cases hb : x.toNat.testBit (n.toNat - 1) = true
  · rw [if_pos hb, if_pos hb]; simp
  · rw [if_neg hb, if_neg hb]; omega

end Go.Proofs.YtlpejfoeiaogcaaGreatDoor
