/-
  Layer 2, the walks: the page's texts of words and numbers.
-/
import Derived.Test.YteiokenijmaloaaDoorHa
import Derived.Test.YteiokenijmaloaaDoorBx
import Derived.Laws.Strings
set_option linter.unusedSimpArgs false
set_option linter.unusedVariables false
namespace Go.Proofs.YteiokenijmaloaaDoor
open Go.RowKit GrP

theorem sixteen : ∀ r : Fin 16, ((⟨#[48, 49, 50, 51, 52, 53, 54, 55, 56, 57, 97, 98, 99, 100, 101, 102]⟩ : ByteArray).extract r.val (r.val + 1)) = strL [dgc r.val] := by decide +kernel
theorem strL_app (l m : List UInt8) : strL l ++ strL m = strL (l ++ m) := by
  unfold strL
  apply ByteArray.ext
  simp [ByteArray.append_eq]
theorem xor_all (m : Nat) (h : m < 18446744073709551616) : 18446744073709551615 ^^^ m = 18446744073709551615 - m := by
  apply Nat.eq_of_testBit_eq
  intro i
  rw [Nat.testBit_xor, show (18446744073709551615 : Nat) = 2 ^ 64 - 1 by decide, Nat.testBit_two_pow_sub_one, show 2 ^ 64 - 1 - m = 2 ^ 64 - (m + 1) by omega, Nat.testBit_two_pow_sub_succ (by simpa using h)]
  by_cases c : i < 64
  · simp [c]
  · have : m.testBit i = false := Nat.testBit_lt_two_pow (Nat.lt_of_lt_of_le h (show 18446744073709551616 ≤ 2 ^ i from Nat.pow_le_pow_right (by decide : 2 > 0) (show 64 ≤ i by omega)))
    simp [c, this]
set_option maxRecDepth 100000 in
set_option maxHeartbeats 3200000 in
theorem rtext_any (b : Nat) (h2 : 2 ≤ b) (h16 : b ≤ 16) (u : Nat) : ∀ (w : World), u < 18446744073709551616 →
    Calls Tryd.prog 18 #[.int .u64 (u : Int), .int .u64 (b : Int)] w fun e w' => e = .returned (.string (strL (digs b u))) ∧ Below w.heap.size w w' := by
  induction u using Nat.strongRecOn with
  | _ u ih =>
    intro w hu
    have hr : u % b < b := Nat.mod_lt _ (by omega)
    obtain ⟨r, hre⟩ : ∃ r, r = u % b := ⟨_, rfl⟩
    rw [← hre] at hr
    have hsl : ∀ w, (Instr.slice 9 (.string ⟨#[48, 49, 50, 51, 52, 53, 54, 55, 56, 57, 97, 98, 99, 100, 101, 102]⟩) (some (.int .u64 (r : Int))) (some (.int .u64 ((r : Int) + 1))) none).run Tryd.prog w = .ok (.string (strL [dgc r])) w := fun w => by
      rw [run_slice_string w 9 _ .u64 .u64 _ _ Tryd.underlying9 (by omega) (by omega) (by show ((r : Int) + 1) ≤ 16; omega), show ((r : Int)).toNat = r by omega, show ((r : Int) + 1).toNat = r + 1 by omega]
      rw [sixteen ⟨r, by omega⟩]
    have tm : (u : Int).tmod (b : Int) = (r : Int) := by rw [Int.tmod_eq_emod_of_nonneg (by omega), hre]; simp
    have td : (u : Int).tdiv (b : Int) = ((u / b : Nat) : Int) := by rw [Int.tdiv_eq_ediv_of_nonneg (by omega)]; simp
    have r0 : (0 : Int) ≤ (r : Int) := by omega
    have r1 : (r : Int) < 16 := by omega
    have b0 : ¬ (b : Int) = 0 := by omega
    have b1 : ((b : Int) == 0) = false := by simp; omega
    have w1 : IntKind.u64.wrap ((r : Int) + 1) = (r : Int) + 1 := by rw [IntKind.wrap_u64]; omega
    have w2 : IntKind.u64.wrap (r : Int) = (r : Int) := by rw [IntKind.wrap_u64]; omega
    by_cases c : u < b
    · have D := Lib.hid (show digs b u = [dgc r] by rw [digs_small c, hre, Nat.mod_eq_of_lt c])
      have cb : (u : Int) < (b : Int) := by omega
      clear hre ih
      go_enter Tryd.func18, Tryd.ntmps18
      go_wp2_with fail
      refine wp_region_wb (by kernel_rfl) (by kernel_rfl) ?_
      repeat (go_big_quiet_step (fail))
      refine wpQuiet_nil ?_
      rintro _ ⟨z, rfl⟩
      have KK := Lib.hid z.bel
      clear hsl tm td w1 w2 b0 b1
      go_wp2
      go_ret
      exact ⟨(by rw [D.out]; rfl), KK.out⟩
    · have D := Lib.hid (show digs b u = digs b (u / b) ++ [dgc r] by rw [digs_big c h2, hre])
      have cb : ¬ (u : Int) < (b : Int) := by omega
      have IH := Lib.hid (fun w => ih (u / b) (Nat.div_lt_self (by omega) (by omega)) w (Nat.lt_of_le_of_lt (Nat.div_le_self _ _) hu))
      obtain ⟨q, hq⟩ : ∃ q, q = u / b := ⟨_, rfl⟩
      rw [← hq] at IH D td
      have q0 : (0 : Int) ≤ (q : Int) := by omega
      have q1 : (q : Int) < 18446744073709551616 := by
        have := Nat.div_le_self u b
        rw [← hq] at this
        omega
      have w3 : IntKind.u64.wrap (q : Int) = (q : Int) := by rw [IntKind.wrap_u64]; omega
      clear hre ih hq
      go_enter Tryd.func18, Tryd.ntmps18
      go_wp2_with fail
      refine wp_region_wb (by kernel_rfl) (by kernel_rfl) ?_
      repeat (go_big_quiet_step (fail))
      refine wpQuiet_nil ?_
      rintro _ ⟨z, rfl⟩
      have KK := Lib.hid z.bel
      clear hsl tm w1 w2
      go_wp2_with fail
      refine (IH.out _).mono ?_
      rintro e w2 ⟨rfl, hb⟩
      have K2 := Lib.hid (KK.out.trans (hb.mono KK.out.size))
      clear hb td w3 b0 b1
      have SA := Lib.hid (strL_app (digs b q) [dgc r])
      have NS : ¬ 9223372036854775807 < (strL (digs b q)).size + (strL [dgc r]).size := by
        have := digs_len64 h2 q (by omega)
        have e : (strL [dgc r]).size = 1 := by rw [strL_size]; rfl
        omega
      go_wp2
      go_ret
      first
        | exact ⟨(by rw [D.out, ← SA.out]; rfl), K2.out⟩
        | exact ⟨(by rw [D.out]; rfl), K2.out⟩

set_option maxRecDepth 100000 in
set_option maxHeartbeats 1600000 in
theorem rhex_any (u : Nat) (w : World) (hu : u < 18446744073709551616) :
    Calls Tryd.prog 8 #[.int .u64 (u : Int)] w fun e w' => e = .returned (.string (hexS u)) ∧ Below w.heap.size w w' := by
  have RT := Lib.hid (rtext_any 16 (by omega) (by omega) u w hu)
  have SA := Lib.hid (show strL [48, 120] ++ strL (digs 16 u) = hexS u from strL_app _ _)
  have NS : ¬ 9223372036854775807 < 2 + (strL (digs 16 u)).size := by have := digs_len64 (by omega : 2 ≤ 16) u hu; omega
  clear hu
  go_enter Tryd.func8, Tryd.ntmps8
  go_wp2_with fail
  refine RT.out.mono ?_
  rintro e w2 ⟨rfl, hb⟩
  have K2 := Lib.hid hb
  clear hb
  go_wp2
  go_ret
  first
    | exact ⟨(by rw [← SA.out]; rfl), K2.out⟩
    | exact ⟨rfl, K2.out⟩
set_option maxRecDepth 100000 in
set_option maxHeartbeats 1600000 in
theorem rdec_any (u : Nat) (w : World) (hu : u < 18446744073709551616) :
    Calls Tryd.prog 9 #[.int .u64 (u : Int)] w fun e w' => e = .returned (.string (decS u)) ∧ Below w.heap.size w w' := by
  have RT := Lib.hid (rtext_any 10 (by omega) (by omega) u w hu)
  clear hu
  go_enter Tryd.func9, Tryd.ntmps9
  go_wp2_with fail
  refine RT.out.mono ?_
  rintro e w2 ⟨rfl, hb⟩
  have K2 := Lib.hid hb
  clear hb
  go_wp2
  go_ret
  exact ⟨rfl, K2.out⟩
theorem neg_eq (n : Int) (u : Nat) (h0 : -9223372036854775808 ≤ n) (c : n < 0) (hu : u = n.natAbs) : IntKind.u64.wrap (bits .xor .u64 IntKind.u64.max (IntKind.u64.wrap n) + 1) = (u : Int) := by
  obtain ⟨m, hm⟩ : ∃ m : Nat, (m : Int) = n + 18446744073709551616 := ⟨(n + 18446744073709551616).toNat, by omega⟩
  have h1 : IntKind.u64.wrap n = (m : Int) := by rw [IntKind.wrap_u64]; omega
  have h2 : m < 18446744073709551616 := by omega
  have e : bits .xor .u64 ((18446744073709551615 : Nat) : Int) (m : Int) = ((18446744073709551615 - m : Nat) : Int) := by
    rw [u64_xor_nat 18446744073709551615 m (by decide) h2, xor_all m h2]
  have mx : IntKind.u64.max = ((18446744073709551615 : Nat) : Int) := by decide
  rw [h1, mx, e, IntKind.wrap_u64]
  omega
def intS (n : Int) : ByteArray := strL (Lib.itoa n)
set_option maxRecDepth 100000 in
set_option maxHeartbeats 1600000 in
theorem rint_any (n : Int) (w : World) (h0 : -9223372036854775808 ≤ n) (h1 : n ≤ 9223372036854775807) :
    Calls Tryd.prog 11 #[.int .i64 n] w fun e w' => e = .returned (.string (intS n)) ∧ Below w.heap.size w w' := by
  by_cases c : n < 0
  · obtain ⟨u, hu⟩ : ∃ u, u = n.natAbs := ⟨_, rfl⟩
    have RT := Lib.hid (fun w => rtext_any 10 (by omega) (by omega) u w (by omega))
    have SA := Lib.hid (show strL [45] ++ strL (digs 10 u) = intS n by
      rw [strL_app, intS, Lib.itoa, if_pos c, digs_dec, hu]; rfl)
    have XE := Lib.hid (neg_eq n u h0 c hu)
    have cb : decide (n < 0) = true := by simpa using c
    have NS : ¬ 9223372036854775807 < 1 + (strL (digs 10 u)).size := by have := digs_len64 (by omega : 2 ≤ 10) u (by omega); omega
    clear hu h0 h1
    go_enter Tryd.func11, Tryd.ntmps11
    go_wp2_with fail
    rw [XE.out]
    refine (RT.out _).mono ?_
    rintro e w2 ⟨rfl, hb⟩
    have K2 := Lib.hid hb
    clear hb XE
    go_wp2
    go_ret
    first
      | exact ⟨(by rw [← SA.out]; rfl), K2.out⟩
      | exact ⟨rfl, K2.out⟩
  · obtain ⟨u, rfl⟩ := Int.eq_ofNat_of_zero_le (show 0 ≤ n by omega)
    have RT := Lib.hid (rtext_any 10 (by omega) (by omega) u w (by omega))
    have SA := Lib.hid (show strL (digs 10 u) = intS (u : Int) by
      rw [intS, Lib.itoa, if_neg c, digs_dec]; rfl)
    go_enter Tryd.func11, Tryd.ntmps11
    go_wp2_with fail
    refine RT.out.mono ?_
    rintro e w2 ⟨rfl, hb⟩
    have K2 := Lib.hid hb
    clear hb
    go_wp2
    go_ret
    exact ⟨(by rw [← SA.out]; rfl), K2.out⟩
end Go.Proofs.YteiokenijmaloaaDoor
