/-
  Layer 2, the walks: what each call of package field, and of the page's own answers, comes to.
  Layer 2, the walks, further: Down, Aligned, Page, Signed, Fits, Slot, Within.
-/
import Derived.Test.YtlpejfoeiaogcabGreatProg
import Derived.Test.YtlpejfoeiaogcabGreatFm
import Derived.WalkKit
import Derived.WalkSpells
import Derived.WalkLawsBesides
import Derived.BigQuiet
import Derived.Handy
import Derived.Lib.Hide
import Derived.Below
import Derived.Deep.DeepCutAuto
set_option linter.unusedSimpArgs false
set_option linter.unusedVariables false
namespace Go.Proofs.YtlpejfoeiaogcabGreat
open Go.RowKit

theorem Calls.q_of {P : Program} {f : FuncId} {args : Array Value} {w : World} {n : Nat} {v : Value}
    (h : Calls P f args (w.drewN n) fun e w' => e = .returned v ∧ w.drewN n = w') : Calls P f args (w.drewN n) fun e w'' => e = .returned v ∧ ∃ m, w'' = w.drewN m :=
  h.mono fun _ _ ⟨he, hm⟩ => ⟨he, n, hm.symm⟩

/-! the walk's worlds: draws outermost -/
@[go_sem] theorem gr_alloc_drewN (w : World) (n : Nat) (o : Obj) : (w.drewN n).alloc o = (w.alloc o).drewN n := rfl
@[go_sem] theorem gr_setCell_drewN (w : World) (n : Nat) (a : Addr) (v : Value) : (w.drewN n).setCell a v = (w.setCell a v).drewN n := rfl

/-- behind a call that only read: draws at most -/
def Drew (w w' : World) : Prop := ∃ n, w' = w.drewN n
theorem Drew.refl (w : World) : Drew w w := ⟨0, rfl⟩
theorem Drew.drewN {w w' : World} (h : Drew w w') (n : Nat) : Drew w (w'.drewN n) := by
  obtain ⟨m, rfl⟩ := h
  exact ⟨m + n, by rw [World.drewN_drewN]⟩
theorem Drew.trans {w w' w2 : World} (h : Drew w w') (k : Drew w' w2) : Drew w w2 := by
  obtain ⟨m, rfl⟩ := k
  exact h.drewN m
theorem Drew.below {w w' : World} (h : Drew w w') (B : Nat) : Below B w w' := by
  obtain ⟨m, rfl⟩ := h
  exact ⟨rfl, rfl, rfl, Nat.le_refl _, fun _ _ => rfl⟩
theorem Calls.q_drew {P : Program} {f : FuncId} {args : Array Value} {w : World} {n : Nat} {v : Value}
    (h : Calls P f args (w.drewN n) fun e w' => e = .returned v ∧ Drew (w.drewN n) w') : Calls P f args (w.drewN n) fun e w'' => e = .returned v ∧ ∃ m, w'' = w.drewN m :=
  Calls.quiet_of h
theorem ret_u64 {a b : Int} (h : a = b) : Ending.returned (.int .u64 a) = .returned (.int .u64 b) := by rw [h]
theorem ret_bool {a b : Bool} (h : a = b) : Ending.returned (.bool a) = .returned (.bool b) := by rw [h]

theorem mask_wrap (n : Int) (h : 1 ≤ n) : IntKind.u64.wrap (IntKind.u64.wrap (2 ^ min n.toNat 64) - 1) = GrF.mask n := by
  unfold GrF.mask GrF.maskN
  rw [IntKind.wrap_u64, IntKind.wrap_u64]
  have h0 : 0 < 2 ^ (min n.toNat 64) := Nat.two_pow_pos _
  have h1 : 2 ^ (min n.toNat 64) ≤ 2 ^ 64 := Nat.pow_le_pow_right (by decide) (by omega)
  have e : ((2 : Int) ^ min n.toNat 64) = ((2 ^ min n.toNat 64 : Nat) : Int) := by simp
  rw [e]
  generalize 2 ^ min n.toNat 64 = k at h0 h1
  omega

set_option maxHeartbeats 400000 in
theorem span_any (hi lo : Int) (w : World) :
    Calls Tryz.prog 28 #[.int .i64 hi, .int .i64 lo] w fun e w' => e = .returned (.bool (GrF.spanB hi lo)) ∧ w = w' := by
  by_cases h1 : 0 ≤ lo <;> by_cases h2 : lo ≤ hi <;> by_cases h3 : hi ≤ 63
  all_goals
    go_enter Tryz.func28, Tryz.ntmps28
    go_wp2
    go_ret
    exact ⟨by simp [GrF.spanB, h1, h2, h3], rfl⟩

set_option maxHeartbeats 400000 in
theorem mask_any (n : Int) (w : World) (h0 : -9223372036854775808 ≤ n) (h1 : n ≤ 9223372036854775807) :
    Calls Tryz.prog 29 #[.int .i64 n] w fun e w' => e = .returned (.int .u64 (GrF.mask n)) ∧ w = w' := by
  by_cases hn : n < 1
  · go_enter Tryz.func29, Tryz.ntmps29
    go_wp2
    go_ret
    exact ⟨ret_u64 (by rw [GrF.mask, GrF.maskN, show min n.toNat 64 = 0 by omega]; rfl), rfl⟩
  · have hp : 0 ≤ n := by omega
    go_enter Tryz.func29, Tryz.ntmps29
    go_wp2
    go_ret
    exact ⟨ret_u64 (mask_wrap n (by omega)), rfl⟩

theorem shr_nat (w lo : Int) (hw : 0 ≤ w) (h0 : 0 ≤ lo) (h1 : lo ≤ 63) : w / 2 ^ lo.toNat = ((w.toNat / 2 ^ lo.toNat : Nat) : Int) := by
  obtain ⟨x, rfl⟩ := Int.eq_ofNat_of_zero_le hw
  simp

theorem get_eq (w hi lo : Int) (h0 : 0 ≤ w) (h1 : w < 18446744073709551616) (h2 : 0 ≤ lo) (h3 : lo ≤ hi) (h4 : hi ≤ 63) :
    bits .and .u64 (w / 2 ^ lo.toNat) (GrF.mask (hi - lo + 1)) = GrF.get w hi lo := by
  rw [shr_nat w lo h0 h2 (by omega), GrF.mask, bits_and_u64_nat _ _ (GrF.div_lt (by omega) _) (GrF.maskN_lt _), GrF.get, if_pos (GrF.span_mk h2 h3 h4)]
  rw [show (hi - lo + 1 : Int) = ((hi.toNat : Int) - (lo.toNat : Int) + 1) by omega, GrF.get_nat _ _ _ (by omega) (by omega)]

set_option maxHeartbeats 400000 in
theorem get_any (x hi lo : Int) (w : World) (h0 : 0 ≤ x) (h1 : x < 18446744073709551616) :
    Calls Tryz.prog 18 #[.int .u64 x, .int .i64 hi, .int .i64 lo] w fun e w' => e = .returned (.int .u64 (GrF.get x hi lo)) ∧ Drew w w' := by
  have H1 := Lib.hid h1
  clear h1
  by_cases hs : GrF.spanB hi lo = true
  · obtain ⟨a, b, c⟩ := GrF.span_of hs
    go_enter Tryz.func18, Tryz.ntmps18
    go_wp2_with (go_at_call 28; refine (span_any _ _ _).mono ?_; rintro e w' ⟨rfl, rfl⟩)
    go_quiet ((go_at_call 29; exact Calls.q_of (mask_any _ _ (by omega) (by omega))))
    go_wp2
    go_ret
    exact ⟨ret_u64 (get_eq x hi lo h0 H1.out a b c), ⟨_, rfl⟩⟩
  · have hs' : GrF.spanB hi lo = false := by simpa using hs
    go_enter Tryz.func18, Tryz.ntmps18
    go_wp2_with (go_at_call 28; refine (span_any _ _ _).mono ?_; rintro e w' ⟨rfl, rfl⟩)
    go_ret
    exact ⟨ret_u64 (by simp [GrF.get, hs']), Drew.refl _⟩

set_option maxHeartbeats 400000 in
theorem bit_any (x n : Int) (w : World) (h0 : 0 ≤ x) (h1 : x < 18446744073709551616) :
    Calls Tryz.prog 12 #[.int .u64 x, .int .i64 n] w fun e w' => e = .returned (.bool (GrF.bitB x n)) ∧ Drew w w' := by
  have H1 := Lib.hid h1
  clear h1
  go_enter Tryz.func12, Tryz.ntmps12
  go_wp2_with (go_at_call 18; refine (get_any _ _ _ _ h0 H1.out).mono ?_; rintro e w' ⟨rfl, hd⟩)
  go_ret
  exact ⟨ret_bool (by rfl), hd⟩

theorem put_eq (w hi lo v m : Int) (h0 : 0 ≤ w) (h1 : w < 18446744073709551616) (h2 : 0 ≤ lo) (h3 : lo ≤ hi) (h4 : hi ≤ 63) (h5 : 0 ≤ v) (hm : m = IntKind.u64.wrap (GrF.mask (hi - lo + 1) * 2 ^ lo.toNat)) :
    bits .or .u64 (bits .andNot .u64 w m) (bits .and .u64 (IntKind.u64.wrap (v * 2 ^ lo.toNat)) m) = GrF.put w hi lo v := by
  obtain ⟨x, rfl⟩ := Int.eq_ofNat_of_zero_le h0
  obtain ⟨y, rfl⟩ := Int.eq_ofNat_of_zero_le h5
  have e1 : m = ((GrF.maskN ((hi.toNat : Int) - (lo.toNat : Int) + 1) * 2 ^ lo.toNat % 18446744073709551616 : Nat) : Int) := by
    rw [hm, IntKind.wrap_u64, GrF.mask, show (hi - lo + 1 : Int) = ((hi.toNat : Int) - (lo.toNat : Int) + 1) by omega]
    simp
  have e2 : IntKind.u64.wrap ((y : Int) * 2 ^ lo.toNat) = ((y * 2 ^ lo.toNat % 18446744073709551616 : Nat) : Int) := by
    rw [IntKind.wrap_u64]; simp
  have b1 := Nat.mod_lt (GrF.maskN ((hi.toNat : Int) - (lo.toNat : Int) + 1) * 2 ^ lo.toNat) (show 18446744073709551616 > 0 by decide)
  have b2 := Nat.mod_lt (y * 2 ^ lo.toNat) (show 18446744073709551616 > 0 by decide)
  have hx : x < 18446744073709551616 := by omega
  have key := GrF.put_nat x hi.toNat lo.toNat y hx (by omega) (by omega)
  rw [e1, e2, GrF.put, if_pos (GrF.span_mk h2 h3 h4), Int.toNat_natCast, Int.toNat_natCast, ← key]
  generalize GrF.maskN ((hi.toNat : Int) - (lo.toNat : Int) + 1) * 2 ^ lo.toNat % 18446744073709551616 = p at b1 ⊢
  generalize y * 2 ^ lo.toNat % 18446744073709551616 = q at b2 ⊢
  rw [u64_andNot_nat _ _ hx b1, bits_and_u64_nat _ _ b2 b1, bits_or_u64_nat]
  · exact Nat.lt_of_le_of_lt Nat.and_le_left hx
  · exact Nat.lt_of_le_of_lt Nat.and_le_left b2

set_option maxHeartbeats 400000 in
theorem put_any (x hi lo v : Int) (w : World) (h0 : 0 ≤ x) (h1 : x < 18446744073709551616) (h5 : 0 ≤ v) :
    Calls Tryz.prog 212 #[.int .u64 x, .int .i64 hi, .int .i64 lo, .int .u64 v] w fun e w' => e = .returned (.int .u64 (GrF.put x hi lo v)) ∧ Drew w w' := by
  have H1 := Lib.hid h1
  clear h1
  by_cases hs : GrF.spanB hi lo = true
  · obtain ⟨a, b, c⟩ := GrF.span_of hs
    go_enter Tryz.func212, Tryz.ntmps212
    go_wp2_with (first | (go_at_call 28; refine (span_any _ _ _).mono ?_; rintro e w' ⟨rfl, rfl⟩) | (go_at_call 29; refine (mask_any _ _ (by omega) (by omega)).mono ?_; rintro e w' ⟨rfl, rfl⟩))
    go_ret
    exact ⟨ret_u64 (put_eq x hi lo v _ h0 H1.out a b c h5 rfl), Drew.refl _⟩
  · have hs' : GrF.spanB hi lo = false := by simpa using hs
    go_enter Tryz.func212, Tryz.ntmps212
    go_wp2_with (go_at_call 28; refine (span_any _ _ _).mono ?_; rintro e w' ⟨rfl, rfl⟩)
    go_ret
    exact ⟨ret_u64 (by simp [GrF.put, hs']), Drew.refl _⟩

end Go.Proofs.YtlpejfoeiaogcabGreat

namespace Go.Proofs.YtlpejfoeiaogcabGreat
open Go.RowKit

theorem ret_i64 {a b : Int} (h : a = b) : Ending.returned (.int .i64 a) = .returned (.int .i64 b) := by rw [h]

theorem down_eq (x n : Int) (h0 : 0 ≤ x) (h1 : x < 18446744073709551616) : bits .andNot .u64 x (GrF.mask n) = GrF.down x n := by
  obtain ⟨y, rfl⟩ := Int.eq_ofNat_of_zero_le h0
  rw [GrF.mask, u64_andNot_nat _ _ (by omega) (GrF.maskN_lt _), GrF.down_nat _ _ (by omega), GrF.down, Int.toNat_natCast]
theorem and_eq (x n : Int) (h0 : 0 ≤ x) (h1 : x < 18446744073709551616) : bits .and .u64 x (GrF.mask n) = ((x.toNat &&& GrF.maskN n : Nat) : Int) := by
  obtain ⟨y, rfl⟩ := Int.eq_ofNat_of_zero_le h0
  rw [GrF.mask, bits_and_u64_nat _ _ (by omega) (GrF.maskN_lt _), Int.toNat_natCast]
theorem aligned_eq (x n : Int) (h0 : 0 ≤ x) (h1 : x < 18446744073709551616) : (bits .and .u64 x (GrF.mask n) == 0) = GrF.alignedB x n := by
  rw [and_eq x n h0 h1, GrF.alignedB, GrF.down, Bool.eq_iff_iff]
  have := GrF.aligned_nat x.toNat n (by omega)
  simp only [beq_iff_eq]
  omega

set_option maxHeartbeats 400000 in
theorem down_any (x n : Int) (w : World) (h0 : 0 ≤ x) (h1 : x < 18446744073709551616) (h2 : -9223372036854775808 ≤ n) (h3 : n ≤ 9223372036854775807) :
    Calls Tryz.prog 19 #[.int .u64 x, .int .i64 n] w fun e w' => e = .returned (.int .u64 (GrF.down x n)) ∧ w = w' := by
  have H1 := Lib.hid h1
  clear h1
  go_enter Tryz.func19, Tryz.ntmps19
  go_wp2_with (go_at_call 29; refine (mask_any _ _ (by omega) (by omega)).mono ?_; rintro e w' ⟨rfl, rfl⟩)
  go_ret
  exact ⟨ret_u64 (down_eq x n h0 H1.out), rfl⟩

set_option maxHeartbeats 400000 in
theorem aligned_any (x n : Int) (w : World) (h0 : 0 ≤ x) (h1 : x < 18446744073709551616) (h2 : -9223372036854775808 ≤ n) (h3 : n ≤ 9223372036854775807) :
    Calls Tryz.prog 144 #[.int .u64 x, .int .i64 n] w fun e w' => e = .returned (.bool (GrF.alignedB x n)) ∧ w = w' := by
  have H1 := Lib.hid h1
  clear h1
  go_enter Tryz.func144, Tryz.ntmps144
  go_wp2_with (go_at_call 29; refine (mask_any _ _ (by omega) (by omega)).mono ?_; rintro e w' ⟨rfl, rfl⟩)
  go_ret
  exact ⟨ret_bool (aligned_eq x n h0 H1.out), rfl⟩

set_option maxHeartbeats 400000 in
theorem page_any (x : Int) (w : World) (h0 : 0 ≤ x) (h1 : x < 18446744073709551616) :
    Calls Tryz.prog 13 #[.int .u64 x] w fun e w' => e = .returned (.int .u64 (GrF.down x 12)) ∧ w = w' := by
  have H1 := Lib.hid h1
  clear h1
  go_enter Tryz.func13, Tryz.ntmps13
  go_wp2_with (go_at_call 19; refine (down_any _ _ _ h0 H1.out (by omega) (by omega)).mono ?_; rintro e w' ⟨rfl, rfl⟩)
  go_ret
  exact ⟨rfl, rfl⟩

set_option maxHeartbeats 400000 in
theorem within_any (x : Int) (w : World) :
    Calls Tryz.prog 211 #[.int .u64 x] w fun e w' => e = .returned (.bool (decide (x < 1073741824))) ∧ w = w' := by
  go_enter Tryz.func211, Tryz.ntmps211
  go_wp2
  go_ret
  exact ⟨rfl, rfl⟩

set_option maxHeartbeats 400000 in
theorem slot_any (x l : Int) (w : World) (h0 : 0 ≤ x) (h1 : x < 18446744073709551616) :
    Calls Tryz.prog 148 #[.int .u64 x, .int .i64 l] w fun e w' => e = .returned (.int .i64 (GrF.slot x l)) ∧ Drew w w' := by
  have H1 := Lib.hid h1
  clear h1
  by_cases c1 : l = 1
  · subst c1
    have b := GrF.get_29 x h0
    have b1 : GrF.get x 29 21 ≤ 511 := by omega
    have b2 : 0 ≤ GrF.get x 29 21 := by omega
    clear b
    go_enter Tryz.func148, Tryz.ntmps148
    go_wp2_with (go_at_call 18; refine (get_any _ _ _ _ h0 H1.out).mono ?_; rintro e w' ⟨rfl, hd⟩)
    go_ret
    exact ⟨rfl, hd⟩
  · by_cases c2 : l = 2
    · subst c2
      have b := GrF.get_20 x h0
      have b1 : GrF.get x 20 12 ≤ 511 := by omega
      have b2 : 0 ≤ GrF.get x 20 12 := by omega
      clear b
      go_enter Tryz.func148, Tryz.ntmps148
      go_wp2_with (go_at_call 18; refine (get_any _ _ _ _ h0 H1.out).mono ?_; rintro e w' ⟨rfl, hd⟩)
      go_ret
      exact ⟨rfl, hd⟩
    · have d1 : (l == 1) = false := by simpa using c1
      have d2 : (l == 2) = false := by simpa using c2
      go_enter Tryz.func148, Tryz.ntmps148
      go_wp2
      go_ret
      exact ⟨ret_i64 (by simp [GrF.slot, c1, c2]), Drew.refl _⟩

theorem fits_low (n : Int) (h : n ≤ 63) : wrap64 (-2 ^ (n.toNat - 1)) = -GrF.pw (n - 1) := by
  rw [GrF.pw_cast]
  have := GrF.pw_bd n h
  unfold wrap64; omega
theorem fits_top (n : Int) (h : n ≤ 63) : wrap64 (wrap64 (2 ^ (n.toNat - 1)) - 1) = GrF.pw (n - 1) - 1 := by
  rw [GrF.pw_cast]
  have := GrF.pw_bd n h
  unfold wrap64; omega

theorem signed_eq (x n : Int) (h1 : 1 ≤ n) (h2 : n ≤ 63) : GrF.signed x n = if x.toNat.testBit (n.toNat - 1) then ((GrF.num (fun i => x.toNat.testBit i) n.toNat : Nat) : Int) - GrF.pw (n - 1) - GrF.pw (n - 1) else ((GrF.num (fun i => x.toNat.testBit i) n.toNat : Nat) : Int) := by
  rw [GrF.signed, if_neg (by omega), GrF.signedN_code, ← GrF.pw_cast, show (n - 1).toNat = n.toNat - 1 by omega, show n.toNat - 1 + 1 = n.toNat by omega]
  simp
theorem bitB_eq (x n : Int) (h1 : 0 ≤ n) (h2 : n ≤ 63) : GrF.bitB x n = x.toNat.testBit n.toNat := by
  rw [GrF.bitB, GrF.get, if_pos (GrF.span_mk h1 (Int.le_refl _) h2), GrF.getN, show n.toNat + 1 - n.toNat = 1 by omega]
  simp only [GrF.num, Nat.add_zero, Nat.zero_add]
  cases x.toNat.testBit n.toNat <;> decide
theorem low_eq (x n : Int) (h0 : 0 ≤ x) (h1 : x < 18446744073709551616) (h2 : 1 ≤ n) (h3 : n ≤ 63) : bits .and .u64 x (GrF.mask n) = ((GrF.num (fun i => x.toNat.testBit i) n.toNat : Nat) : Int) := by
  rw [and_eq x n h0 h1, GrF.and_mask _ _ (by omega)]
theorem low_bd (x n : Int) (h3 : n ≤ 63) : ((GrF.num (fun i => x.toNat.testBit i) n.toNat : Nat) : Int) ≤ 9223372036854775807 := by
  have := GrF.num_lt (fun i => x.toNat.testBit i) n.toNat
  have h2 : 2 ^ n.toNat ≤ 2 ^ 63 := Nat.pow_le_pow_right (by decide) (by omega)
  omega
theorem num_top (b : Nat → Bool) (n : Int) (h1 : 1 ≤ n) (hb : b (n.toNat - 1) = true) : GrF.pw (n - 1) ≤ ((GrF.num b n.toNat : Nat) : Int) := by
  obtain ⟨k, hk⟩ : ∃ k, n.toNat = k + 1 := ⟨n.toNat - 1, by omega⟩
  rw [← GrF.pw_cast, hk]
  rw [hk] at hb
  simp only [Nat.add_sub_cancel] at hb ⊢
  simp only [GrF.num, hb, if_true]
  simp only [Int.natCast_add, Int.natCast_pow]
  have : (0 : Int) ≤ (GrF.num b k : Int) := by omega
  have e : ((2 : Nat) : Int) = 2 := rfl
  rw [e]; omega

end Go.Proofs.YtlpejfoeiaogcabGreat
