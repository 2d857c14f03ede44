/-
  Layer 2, the walks of the page's own answers, further: May, Get, Put, Signed, Down.
-/
import Derived.Test.YteiokenijmaloaaFr
set_option linter.unusedSimpArgs false
set_option linter.unusedVariables false
namespace Go.Proofs.Yteiokenijmaloaa
open Go.RowKit

set_option maxHeartbeats 400000 in
theorem may_any (hi lo : Int) (w : World) :
    Calls Try.prog 68 #[.int .i64 hi, .int .i64 lo] w fun e w' => e = .returned (.bool (GrF.spanB hi lo)) ∧ w = w' := by
  by_cases h1 : 0 ≤ lo <;> by_cases h2 : lo ≤ hi <;> by_cases h3 : hi ≤ 63
  all_goals
    go_enter Try.func68, Try.ntmps68
    go_wp2
    go_ret
    exact ⟨by simp [GrF.spanB, h1, h2, h3], rfl⟩

/-- the bits of a part of block g, as Word wants them -/
theorem BitsAt.part {w : World} {g cap : Nat} {b : Nat → Bool} (h : BitsAt w g cap b) (lo n : Nat) (hn : lo + n ≤ 64) :
    ∀ j, j < n → w.cell? ⟨g, lo + j, none⟩ = some (.int .i64 ((GrF.bl (fun i => b (lo + i)) n).getD j 0)) := by
  intro j hj
  rw [GrF.bl_get _ _ _ hj]
  exact h.cell (lo + j) (by omega)

set_option maxHeartbeats 400000 in
theorem rget_any (x hi lo : Int) (w : World) (h0 : 0 ≤ x) (h1 : x < 18446744073709551616) :
    Calls Try.prog 67 #[.int .u64 x, .int .i64 hi, .int .i64 lo] w fun e w' => e = .returned (.int .u64 (GrF.get x hi lo)) ∧ Below w.heap.size w w' := by
  have H1 := Lib.hid h1
  clear h1
  by_cases hs : GrF.spanB hi lo = true
  · obtain ⟨a, b, c⟩ := GrF.span_of hs
    have E := Lib.hid (show GrF.get x hi lo = ((GrF.getN x.toNat hi.toNat lo.toNat : Nat) : Int) by rw [GrF.get, if_pos hs])
    obtain ⟨L, rfl⟩ := Int.eq_ofNat_of_zero_le a
    obtain ⟨T, rfl⟩ := Int.eq_ofNat_of_zero_le (show 0 ≤ hi by omega)
    have b' : L ≤ T := by omega
    have c' : T ≤ 63 := by omega
    go_enter Try.func67, Try.ntmps67
    go_wp2_with (first
      | (go_at_call 68; refine (may_any _ _ _).mono ?_; rintro e w' ⟨rfl, rfl⟩)
      | fail)
    refine (bits_any x _ h0 H1.out).mono ?_
    rintro e w1 ⟨g, cap, rfl, hB, hAt, hbel⟩
    have hcap : T + 1 ≤ cap := by have := hAt.1; omega
    have hcap2 : cap ≤ 9223372036854775807 := by have := hAt.2.1; unfold maxLen at this; omega
    go_wp2_with fail
    refine (word_any g L _ (T + 1 - L) (GrF.bl (fun i => x.toNat.testBit (L + i)) (T + 1 - L)) w1 (GrF.bl_length _ _) (by omega) (GrF.bl_mem _ _) (hAt.part L _ (by omega))).mono ?_
    rintro e w2 ⟨rfl, rfl⟩
    go_wp2
    go_ret
    exact ⟨ret_u64 (by rw [GrF.wordOf_bl, E.out]; rfl), hbel⟩
  · have hs' : GrF.spanB hi lo = false := by simpa using hs
    go_enter Try.func67, Try.ntmps67
    go_wp2_with (go_at_call 68; refine (may_any _ _ _).mono ?_; rintro e w' ⟨rfl, rfl⟩)
    go_ret
    exact ⟨ret_u64 (by simp [GrF.get, hs']), Below.refl _ _⟩

/-- a store of a bit -/
theorem BitsAt.set {w : World} {g cap : Nat} {b b' : Nat → Bool} {c : Bool} (h : BitsAt w g cap b) (i : Nat) (hi : i < 64) (hb : ∀ j, j < 64 → b' j = if j = i then c else b j) :
    BitsAt (w.setCell ⟨g, i, none⟩ (.int .i64 (GrF.bit c))) g cap b' := by
  obtain ⟨h1, h2, cur, h3, h4, h5⟩ := h
  refine ⟨h1, h2, cur.setIfInBounds i (.int .i64 (GrF.bit c)), ?_, by simp [h4], ?_⟩
  · simp only [World.setCell, Array.getElem?_modify, h3, if_pos]
    rfl
  · intro j hj
    rw [hb j hj, Array.getElem?_setIfInBounds]
    by_cases e : j = i
    · subst e
      rw [if_pos rfl, if_pos (by omega)]
      simp
    · rw [if_neg (by omega), if_neg e]
      exact h5 j hj
theorem BitsAt.other {w : World} {g cap : Nat} {b : Nat → Bool} (h : BitsAt w g cap b) {a : Addr} (ha : a.block ≠ g) (u : Value) : BitsAt (w.setCell a u) g cap b := by
  obtain ⟨h1, h2, cur, h3, h4⟩ := h
  exact ⟨h1, h2, cur, by rw [Below.heap_setCell _ _ _ _ (by omega)]; exact h3, h4⟩

theorem num_congr {b b' : Nat → Bool} {n : Nat} (h : ∀ i, i < n → b i = b' i) : GrF.num b n = GrF.num b' n := by
  apply Nat.eq_of_testBit_eq
  intro i
  rw [GrF.num_testBit, GrF.num_testBit]
  by_cases hi : i < n
  · rw [h i hi]
  · simp [hi]
theorem down_set (b : Nat → Bool) (k : Nat) : ∀ j, j < 64 → (b j && !(decide (j < k + 1))) = if j = k then false else (b j && !(decide (j < k))) := by
  intro j _
  by_cases e : j = k
  · simp [e]
  · have : (j < k + 1) ↔ (j < k) := by omega
    simp [e, this]
theorem down_end (x n : Int) (k : Nat) (h : k = min n.toNat 64) : ((GrF.num (fun i => x.toNat.testBit i && !(decide (i < k))) 64 : Nat) : Int) = GrF.down x n := by
  unfold GrF.down GrF.downN
  congr 1
  apply num_congr
  intro i hi
  have : (i < k) ↔ (i < n.toNat) := by omega
  simp [this]

set_option maxHeartbeats 800000 in
theorem rdown_any (x n : Int) (w : World) (h0 : 0 ≤ x) (h1 : x < 18446744073709551616) (h2 : -9223372036854775808 ≤ n) (h3 : n ≤ 9223372036854775807) :
    Calls Try.prog 55 #[.int .u64 x, .int .i64 n] w fun e w' => e = .returned (.int .u64 (GrF.down x n)) ∧ Below w.heap.size w w' := by
  have H1 := Lib.hid h1
  clear h1
  go_enter Try.func55, Try.ntmps55
  go_wp2_with fail
  refine (bits_any x _ h0 H1.out).mono ?_
  rintro e w1 ⟨g, cap, rfl, hB, hAt, hbel⟩
  go_wp2_with fail
  go_loopw [6] (fun i wr => ∃ k : Nat, k ≤ 64 ∧ k ≤ n.toNat ∧ i = .int .i64 k ∧ BitsAt wr g cap (fun i => x.toNat.testBit i && !(decide (i < k))) ∧ Below w.heap.size w wr)
    (fun i _ => 64 - (intOf i).toNat)
  case atStart => exact ⟨0, by omega, by omega, rfl, by simpa using hAt, hbel⟩
  case round =>
    clear hAt hbel
    obtain ⟨k, hk, hk2, rfl, hAt, hbel⟩ := hrel
    by_cases c1 : k < 64
    · by_cases c2 : (k : Int) < n
      · have hf := hAt.free k
        have hc := hAt.cell k c1
        have R : BitsAt (wr.setCell ⟨g, k, none⟩ (.int .i64 0)) g cap (fun i => x.toNat.testBit i && !(decide (i < k + 1))) :=
          hAt.set (c := false) k c1 (down_set _ k)
        have R2 : Below w.heap.size w (wr.setCell ⟨g, k, none⟩ (.int .i64 0)) := hbel.setCell hB _
        have hcap : k < cap := by have := hAt.1; omega
        clear hAt hbel
        go_wp2
        go_roundw
        case rel => exact ⟨k + 1, by omega, by omega, by go_num, R, R2⟩
        case measure => simp [intOf]; omega
      · go_wp2_with fail
        refine (word_any g 0 _ 64 (GrF.bl (fun i => x.toNat.testBit i && !(decide (i < k))) 64) wr (GrF.bl_length _ _) (by omega) (GrF.bl_mem _ _) (by intro j hj; rw [GrF.bl_get _ _ _ hj, Nat.zero_add]; exact hAt.cell j hj)).mono ?_
        rintro e' w2 ⟨rfl, rfl⟩
        go_wp2
        go_ret
        exact ⟨ret_u64 (by rw [GrF.wordOf_bl]; exact down_end x n k (by omega)), hbel⟩
    · by_cases c2 : (k : Int) < n
      · go_wp2_with fail
        refine (word_any g 0 _ 64 (GrF.bl (fun i => x.toNat.testBit i && !(decide (i < k))) 64) wr (GrF.bl_length _ _) (by omega) (GrF.bl_mem _ _) (by intro j hj; rw [GrF.bl_get _ _ _ hj, Nat.zero_add]; exact hAt.cell j hj)).mono ?_
        rintro e' w2 ⟨rfl, rfl⟩
        go_wp2
        go_ret
        exact ⟨ret_u64 (by rw [GrF.wordOf_bl]; exact down_end x n k (by omega)), hbel⟩
      · go_wp2_with fail
        refine (word_any g 0 _ 64 (GrF.bl (fun i => x.toNat.testBit i && !(decide (i < k))) 64) wr (GrF.bl_length _ _) (by omega) (GrF.bl_mem _ _) (by intro j hj; rw [GrF.bl_get _ _ _ hj, Nat.zero_add]; exact hAt.cell j hj)).mono ?_
        rintro e' w2 ⟨rfl, rfl⟩
        go_wp2
        go_ret
        exact ⟨ret_u64 (by rw [GrF.wordOf_bl]; exact down_end x n k (by omega)), hbel⟩

theorem put_set (x y H L i : Nat) (h1 : L ≤ i) (h2 : i ≤ H) : ∀ j, j < 64 → (if L ≤ j ∧ j < i + 1 then y.testBit (j - L) else x.testBit j) = if j = i then y.testBit (i - L) else (if L ≤ j ∧ j < i then y.testBit (j - L) else x.testBit j) := by
  intro j _
  by_cases e : j = i
  · subst e
    rw [if_pos ⟨h1, by omega⟩, if_pos rfl]
  · rw [if_neg e]
    by_cases c : L ≤ j ∧ j < i
    · rw [if_pos c, if_pos ⟨c.1, by omega⟩]
    · rw [if_neg c, if_neg (by omega)]
theorem put_end (x y H L i : Nat) (h : i = H + 1) : GrF.num (fun j => if L ≤ j ∧ j < i then y.testBit (j - L) else x.testBit j) 64 = GrF.putN x H L y := by
  unfold GrF.putN
  apply num_congr
  intro j hj
  unfold GrF.putBit
  by_cases c : L ≤ j ∧ j ≤ H
  · rw [if_pos c, if_pos ⟨c.1, by omega⟩]
  · rw [if_neg c, if_neg (by omega)]

theorem rsigned_val (x n : Int) (h1 : 1 ≤ n) (h2 : n ≤ 63) : GrF.signed x n = if x.toNat.testBit (n.toNat - 1) then ((GrF.num (fun i => x.toNat.testBit i) (n.toNat - 1) : Nat) : Int) - GrF.pw (n - 1) else ((GrF.num (fun i => x.toNat.testBit i) (n.toNat - 1) : Nat) : Int) := by
  rw [GrF.signed, if_neg (by omega), GrF.signedN, ← GrF.pw_cast, show (n - 1).toNat = n.toNat - 1 by omega]
  by_cases hb : x.toNat.testBit (n.toNat - 1) = true
  · rw [if_pos hb, if_pos hb]; simp
  · rw [if_neg hb, if_neg hb]; omega

end Go.Proofs.Yteiokenijmaloaa
