/-
  Layer 2, the walks, further: Down, Aligned, Page, Signed, Fits, Slot, Within.
-/
import Derived.Test.YteiokenijmaloaaFw
set_option linter.unusedSimpArgs false
set_option linter.unusedVariables false
namespace Go.Proofs.Yteiokenijmaloaa
open Go.RowKit

theorem ret_i64 {a b : Int} (h : a = b) : Ending.returned (.int .i64 a) = .returned (.int .i64 b) := by rw [h]

theorem down_eq (x n : Int) (h0 : 0 ≤ x) (h1 : x < 18446744073709551616) : bits .andNot .u64 x (GrF.mask n) = GrF.down x n := by
  obtain ⟨y, rfl⟩ := Int.eq_ofNat_of_zero_le h0
  rw [GrF.mask, u64_andNot_nat _ _ (by omega) (GrF.maskN_lt _), GrF.down_nat _ _ (by omega), GrF.down, Int.toNat_natCast]
theorem and_eq (x n : Int) (h0 : 0 ≤ x) (h1 : x < 18446744073709551616) : bits .and .u64 x (GrF.mask n) = ((x.toNat &&& GrF.maskN n : Nat) : Int) := by
  obtain ⟨y, rfl⟩ := Int.eq_ofNat_of_zero_le h0
  rw [GrF.mask, bits_and_u64_nat _ _ (by omega) (GrF.maskN_lt _), Int.toNat_natCast]
theorem aligned_eq (x n : Int) (h0 : 0 ≤ x) (h1 : x < 18446744073709551616) : (bits .and .u64 x (GrF.mask n) == 0) = GrF.alignedB x n := by
  rw [and_eq x n h0 h1, GrF.alignedB, GrF.down, Bool.eq_iff_iff]
  have := GrF.aligned_nat x.toNat n (by omega)
  simp only [beq_iff_eq]
  omega

set_option maxHeartbeats 400000 in
theorem down_any (x n : Int) (w : World) (h0 : 0 ≤ x) (h1 : x < 18446744073709551616) (h2 : -9223372036854775808 ≤ n) (h3 : n ≤ 9223372036854775807) :
    Calls Try.prog 38 #[.int .u64 x, .int .i64 n] w fun e w' => e = .returned (.int .u64 (GrF.down x n)) ∧ w = w' := by
  have H1 := Lib.hid h1
  clear h1
  go_enter Try.func38, Try.ntmps38
  go_wp2_with (go_at_call 50; refine (mask_any _ _ (by omega) (by omega)).mono ?_; rintro e w' ⟨rfl, rfl⟩)
  go_ret
  exact ⟨ret_u64 (down_eq x n h0 H1.out), rfl⟩

set_option maxHeartbeats 400000 in
theorem page_any (x : Int) (w : World) (h0 : 0 ≤ x) (h1 : x < 18446744073709551616) :
    Calls Try.prog 39 #[.int .u64 x] w fun e w' => e = .returned (.int .u64 (GrF.down x 12)) ∧ w = w' := by
  have H1 := Lib.hid h1
  clear h1
  go_enter Try.func39, Try.ntmps39
  go_wp2_with (go_at_call 38; refine (down_any _ _ _ h0 H1.out (by omega) (by omega)).mono ?_; rintro e w' ⟨rfl, rfl⟩)
  go_ret
  exact ⟨rfl, rfl⟩

theorem fits_low (n : Int) (h : n ≤ 63) : wrap64 (-2 ^ (n.toNat - 1)) = -GrF.pw (n - 1) := by
  rw [GrF.pw_cast]
  have := GrF.pw_bd n h
  unfold wrap64; omega
theorem fits_top (n : Int) (h : n ≤ 63) : wrap64 (wrap64 (2 ^ (n.toNat - 1)) - 1) = GrF.pw (n - 1) - 1 := by
  rw [GrF.pw_cast]
  have := GrF.pw_bd n h
  unfold wrap64; omega

theorem signed_eq (x n : Int) (h1 : 1 ≤ n) (h2 : n ≤ 63) : GrF.signed x n = if x.toNat.testBit (n.toNat - 1) then ((GrF.num (fun i => x.toNat.testBit i) n.toNat : Nat) : Int) - GrF.pw (n - 1) - GrF.pw (n - 1) else ((GrF.num (fun i => x.toNat.testBit i) n.toNat : Nat) : Int) := by
  rw [GrF.signed, if_neg (by omega), GrF.signedN_code, ← GrF.pw_cast, show (n - 1).toNat = n.toNat - 1 by omega, show n.toNat - 1 + 1 = n.toNat by omega]
  simp
theorem bitB_eq (x n : Int) (h1 : 0 ≤ n) (h2 : n ≤ 63) : GrF.bitB x n = x.toNat.testBit n.toNat := by
  rw [GrF.bitB, GrF.get, if_pos (GrF.span_mk h1 (Int.le_refl _) h2), GrF.getN, show n.toNat + 1 - n.toNat = 1 by omega]
  simp only [GrF.num, Nat.add_zero, Nat.zero_add]
  cases x.toNat.testBit n.toNat <;> decide
theorem low_eq (x n : Int) (h0 : 0 ≤ x) (h1 : x < 18446744073709551616) (h2 : 1 ≤ n) (h3 : n ≤ 63) : bits .and .u64 x (GrF.mask n) = ((GrF.num (fun i => x.toNat.testBit i) n.toNat : Nat) : Int) := by
  rw [and_eq x n h0 h1, GrF.and_mask _ _ (by omega)]
theorem low_bd (x n : Int) (h3 : n ≤ 63) : ((GrF.num (fun i => x.toNat.testBit i) n.toNat : Nat) : Int) ≤ 9223372036854775807 := by
  have := GrF.num_lt (fun i => x.toNat.testBit i) n.toNat
  have h2 : 2 ^ n.toNat ≤ 2 ^ 63 := Nat.pow_le_pow_right (by decide) (by omega)
  omega
theorem num_top (b : Nat → Bool) (n : Int) (h1 : 1 ≤ n) (hb : b (n.toNat - 1) = true) : GrF.pw (n - 1) ≤ ((GrF.num b n.toNat : Nat) : Int) := by
  obtain ⟨k, hk⟩ : ∃ k, n.toNat = k + 1 := ⟨n.toNat - 1, by omega⟩
  rw [← GrF.pw_cast, hk]
  rw [hk] at hb
  simp only [Nat.add_sub_cancel] at hb ⊢
  simp only [GrF.num, hb, if_true]
  simp only [Int.natCast_add, Int.natCast_pow]
  have : (0 : Int) ≤ (GrF.num b k : Int) := by omega
  have e : ((2 : Nat) : Int) = 2 := rfl
  rw [e]; omega

end Go.Proofs.Yteiokenijmaloaa
