/-
  Layer 2, the walks, further: Down, Aligned, Page, Signed, Fits, Slot, Within.
-/
import Derived.Test.YteiokenijmaloaaDoorFw
set_option linter.unusedSimpArgs false
set_option linter.unusedVariables false
namespace Go.Proofs.YteiokenijmaloaaDoor
open Go.RowKit

theorem ret_i64 {a b : Int} (h : a = b) : Ending.returned (.int .i64 a) = .returned (.int .i64 b) := by rw [h]

theorem down_eq (x n : Int) (h0 : 0 ≤ x) (h1 : x < 18446744073709551616) : bits .andNot .u64 x (GrF.mask n) = GrF.down x n := by
  obtain ⟨y, rfl⟩ := Int.eq_ofNat_of_zero_le h0
  rw [GrF.mask, u64_andNot_nat _ _ (by omega) (GrF.maskN_lt _), GrF.down_nat _ _ (by omega), GrF.down, Int.toNat_natCast]
theorem and_eq (x n : Int) (h0 : 0 ≤ x) (h1 : x < 18446744073709551616) : bits .and .u64 x (GrF.mask n) = ((x.toNat &&& GrF.maskN n : Nat) : Int) := by
  obtain ⟨y, rfl⟩ := Int.eq_ofNat_of_zero_le h0
  rw [GrF.mask, bits_and_u64_nat _ _ (by omega) (GrF.maskN_lt _), Int.toNat_natCast]
theorem aligned_eq (x n : Int) (h0 : 0 ≤ x) (h1 : x < 18446744073709551616) : (bits .and .u64 x (GrF.mask n) == 0) = GrF.alignedB x n := by
  rw [and_eq x n h0 h1, GrF.alignedB, GrF.down, Bool.eq_iff_iff]
  have := GrF.aligned_nat x.toNat n (by omega)
  simp only [beq_iff_eq]
  omega

theorem fits_low (n : Int) (h : n ≤ 63) : wrap64 (-2 ^ (n.toNat - 1)) = -GrF.pw (n - 1) := by
  rw [GrF.pw_cast]
  have := GrF.pw_bd n h
  unfold wrap64; omega
theorem fits_top (n : Int) (h : n ≤ 63) : wrap64 (wrap64 (2 ^ (n.toNat - 1)) - 1) = GrF.pw (n - 1) - 1 := by
  rw [GrF.pw_cast]
  have := GrF.pw_bd n h
  unfold wrap64; omega

theorem signed_eq (x n : Int) (h1 : 1 ≤ n) (h2 : n ≤ 63) : GrF.signed x n = if x.toNat.testBit (n.toNat - 1) then ((GrF.num (fun i => x.toNat.testBit i) n.toNat : Nat) : Int) - GrF.pw (n - 1) - GrF.pw (n - 1) else ((GrF.num (fun i => x.toNat.testBit i) n.toNat : Nat) : Int) := by
  rw [GrF.signed, if_neg (by omega), GrF.signedN_code, ← GrF.pw_cast, show (n - 1).toNat = n.toNat - 1 by omega, show n.toNat - 1 + 1 = n.toNat by omega]
  simp
theorem bitB_eq (x n : Int) (h1 : 0 ≤ n) (h2 : n ≤ 63) : GrF.bitB x n = x.toNat.testBit n.toNat := by
  rw [GrF.bitB, GrF.get, if_pos (GrF.span_mk h1 (Int.le_refl _) h2), GrF.getN, show n.toNat + 1 - n.toNat = 1 by omega]
  simp only [GrF.num, Nat.add_zero, Nat.zero_add]
  cases x.toNat.testBit n.toNat <;> decide
theorem low_eq (x n : Int) (h0 : 0 ≤ x) (h1 : x < 18446744073709551616) (h2 : 1 ≤ n) (h3 : n ≤ 63) : bits .and .u64 x (GrF.mask n) = ((GrF.num (fun i => x.toNat.testBit i) n.toNat : Nat) : Int) := by
  rw [and_eq x n h0 h1, GrF.and_mask _ _ (by omega)]
theorem low_bd (x n : Int) (h3 : n ≤ 63) : ((GrF.num (fun i => x.toNat.testBit i) n.toNat : Nat) : Int) ≤ 9223372036854775807 := by
  have := GrF.num_lt (fun i => x.toNat.testBit i) n.toNat
  have h2 : 2 ^ n.toNat ≤ 2 ^ 63 := Nat.pow_le_pow_right (by decide) (by omega)
  omega
theorem num_top (b : Nat → Bool) (n : Int) (h1 : 1 ≤ n) (hb : b (n.toNat - 1) = true) : GrF.pw (n - 1) ≤ ((GrF.num b n.toNat : Nat) : Int) := by
  obtain ⟨k, hk⟩ : ∃ k, n.toNat = k + 1 := ⟨n.toNat - 1, by omega⟩
  rw [← GrF.pw_cast, hk]
  rw [hk] at hb
  simp only [Nat.add_sub_cancel] at hb ⊢
  simp only [GrF.num, hb, if_true]
  simp only [Int.natCast_add, Int.natCast_pow]
  have : (0 : Int) ≤ (GrF.num b k : Int) := by omega
  have e : ((2 : Nat) : Int) = 2 := rfl
  rw [e]; omega

set_option maxHeartbeats 400000 in
theorem signed_any (x n : Int) (w : World) (h0 : 0 ≤ x) (h1 : x < 18446744073709551616) (h2 : -9223372036854775808 ≤ n) (h3 : n ≤ 9223372036854775807) :
    Calls Tryd.prog 13 #[.int .u64 x, .int .i64 n] w fun e w' => e = .returned (.int .i64 (GrF.signed x n)) ∧ Drew w w' := by
  have H1 := Lib.hid h1
  clear h1
  by_cases c1 : 1 ≤ n
  · by_cases c2 : n ≤ 63
    · have e2 := low_eq x n h0 H1.out c1 c2
      have b2 := low_bd x n c2
      have H3 := Lib.hid (signed_eq x n c1 c2)
      have H4 := Lib.hid (bitB_eq x (n - 1) (by omega) (by omega))
      have H5 := Lib.hid (num_top (fun i => x.toNat.testBit i) n c1)
      generalize hz : ((GrF.num (fun i => x.toNat.testBit i) n.toNat : Nat) : Int) = z at e2 b2 H3 H5
      have b1 : 0 ≤ z := by omega
      clear hz
      have c3 : 0 ≤ n - 1 := by omega
      by_cases hb : GrF.bitB x (n - 1) = true
      · go_enter Tryd.func13, Tryd.ntmps13
        go_wp2_with (first
          | (go_at_call 21; refine (mask_any _ _ (by omega) (by omega)).mono ?_; rintro e w' ⟨rfl, rfl⟩)
          | (go_at_call 22; refine (bit_any _ _ _ h0 H1.out).mono ?_; rintro e w' ⟨rfl, hd⟩))
        go_quiet (fail)
        go_wp2
        go_ret
        refine ⟨ret_i64 ?_, ?_⟩
        · have ht : x.toNat.testBit (n.toNat - 1) = true := by rw [show n.toNat - 1 = (n - 1).toNat by omega, ← H4.out, hb]
          have h6 := H5.out ht
          have h7 := GrF.pw_bd n c2
          rw [H3.out, if_pos ht, GrF.pw_cast]
          clear ht H3 H4 H5 e2
          unfold wrap64
          omega
        · exact hd.drewN _
      · have hb' : GrF.bitB x (n - 1) = false := by simpa using hb
        clear hb
        go_enter Tryd.func13, Tryd.ntmps13
        go_wp2_with (first
          | (go_at_call 21; refine (mask_any _ _ (by omega) (by omega)).mono ?_; rintro e w' ⟨rfl, rfl⟩)
          | (go_at_call 22; refine (bit_any _ _ _ h0 H1.out).mono ?_; rintro e w' ⟨rfl, hd⟩))
        go_ret
        exact ⟨ret_i64 (by rw [H3.out, if_neg]; rw [show n.toNat - 1 = (n - 1).toNat by omega, ← H4.out, hb']; simp), hd⟩
    · go_enter Tryd.func13, Tryd.ntmps13
      go_wp2
      go_ret
      exact ⟨ret_i64 (by rw [GrF.signed, if_pos (by omega)]), Drew.refl _⟩
  · go_enter Tryd.func13, Tryd.ntmps13
    go_wp2
    go_ret
    exact ⟨ret_i64 (by rw [GrF.signed, if_pos (by omega)]), Drew.refl _⟩

end Go.Proofs.YteiokenijmaloaaDoor
