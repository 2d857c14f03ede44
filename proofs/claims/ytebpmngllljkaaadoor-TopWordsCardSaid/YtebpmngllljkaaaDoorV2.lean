/-
  Layer 4, the walks: Print.
-/
import Derived.Test.YtebpmngllljkaaaDoorV1
import Derived.Test.YtebpmngllljkaaaDoorMk
import Derived.Test.YtebpmngllljkaaaDoorVg
set_option linter.unusedSimpArgs false
set_option linter.unusedVariables false
namespace Go.Proofs.YtebpmngllljkaaaDoor
open Go.RowKit GrP GrA

theorem num_any (n : Int) (w : World) (h0 : -9223372036854775808 ≤ n) (h1 : n ≤ 9223372036854775807) (ht : TB w) : Calls Tryd.prog 24 #[.int .i64 n] w fun e w' => e = .returned (.string (strL (num n))) ∧ Below w.heap.size w w' := int_any n w h0 h1 ht
theorem toT_len {n : Int} (h0 : -9223372036854775808 ≤ n) (h1 : n ≤ 9223372036854775807) : (toT n).length ≤ 67 := by
  have := itoa_len64 h0 h1
  unfold toT num
  split <;> simp <;> omega
theorem cellT_len {r n : Int} (h0 : -9223372036854775808 ≤ n) (h1 : n ≤ 9223372036854775807) : (cellT r n).length ≤ 140 := by
  have := itoa_len64 h0 h1
  have := reg_len r
  unfold cellT num
  split <;> simp <;> omega
theorem reg_bd {x : GrI.I} (h : GrI.right x) : 0 ≤ x.d ∧ x.d ≤ 31 ∧ 0 ≤ x.n ∧ x.n ≤ 31 ∧ 0 ≤ x.m ∧ x.m ≤ 31 :=
  ⟨h.2.2.1, h.2.2.2.1, h.2.2.2.2.1, h.2.2.2.2.2.1, h.2.2.2.2.2.2.1, h.2.2.2.2.2.2.2.1⟩

set_option maxRecDepth 100000 in
set_option maxHeartbeats 3200000 in
theorem amove_some (d n m imm kind : Int) (w : World) (ht : Tab w) (hr : GrI.right ⟨6, d, n, m, imm, kind⟩) (hk : 0 < kind) : Calls Tryd.prog 23 #[.agg #[.int .i64 6, .int .i64 d, .int .i64 n, .int .i64 m, .int .i64 imm, .int .i64 kind]] w fun e w' => e = .returned (.string (strL (printR ⟨6, d, n, m, imm, kind⟩))) ∧ Below w.heap.size w w' := by
  obtain ⟨b1, b2⟩ := GrI.imm_bd hr
  obtain ⟨dn0, dn1, dn2, dn3, dn4, dn5⟩ := reg_bd hr
  simp only at b1 b2 dn0 dn1 dn2 dn3 dn4 dn5
  have TH := Lib.hid ht
  have RG := Lib.hid (fun w2 (t2 : Tab w2) => reg_any d w2 t2.tb (by omega) (by omega))
  have NU := Lib.hid (fun w2 (t2 : Tab w2) => num_any imm w2 b1 b2 t2.tb)
  obtain ⟨z_rd, hz_rd⟩ : ∃ zz, zz = (strL (reg d)).size := ⟨_, rfl⟩
  have e_rd : (strL (reg d)).size = z_rd := hz_rd.symm
  have l_rd : z_rd ≤ 65 := by rw [hz_rd, strL_size]; exact reg_len d
  clear hz_rd
  obtain ⟨z_num, hz_num⟩ : ∃ zz, zz = (strL (num imm)).size := ⟨_, rfl⟩
  have e_num : (strL (num imm)).size = z_num := hz_num.symm
  have l_num : z_num ≤ 65 := by rw [hz_num, strL_size]; exact itoa_len64 b1 b2
  clear hz_num
  have N2 : ¬ 9223372036854775807 < z_rd + 2 := by omega
  have N3 : ¬ 9223372036854775807 < z_rd + 2 + z_num := by omega
  have kb : kind ≤ 3 := by
    have := hr
    simp [GrI.right, GrI.parts, GrI.nums] at this
    omega
  have NK := Lib.hid (fun w2 (t2 : Tab w2) => num_any (16 * kind) w2 (by omega) (by omega) t2.tb)
  obtain ⟨z_k, hz_k⟩ : ∃ zz, zz = (strL (num (16 * kind))).size := ⟨_, rfl⟩
  have e_k : (strL (num (16 * kind))).size = z_k := hz_k.symm
  have l_k : z_k ≤ 65 := by rw [hz_k, strL_size]; exact itoa_len64 (by omega) (by omega)
  clear hz_k
  have S1 : ¬ 9223372036854775807 < 5 + (z_rd + 2 + z_num) := by omega
  have S2 : ¬ 9223372036854775807 < 5 + (z_rd + 2 + z_num) + 6 := by omega
  have S3 : ¬ 9223372036854775807 < 5 + (z_rd + 2 + z_num) + 6 + z_k := by omega
  have SA := Lib.hid (show (⟨#[77, 79, 86, 90, 32]⟩ ++ (strL (reg d) ++ ⟨#[44, 35]⟩ ++ strL (num imm)) ++ ⟨#[44, 76, 83, 76, 32, 35]⟩ ++ strL (num (16 * kind)) : ByteArray) = strL (printR ⟨6, d, n, m, imm, kind⟩) by
    show strL [77, 79, 86, 90, 32] ++ (strL (reg d) ++ strL [44, 35] ++ strL (num imm)) ++ strL [44, 76, 83, 76, 32, 35] ++ strL (num (16 * kind)) = _
    rw [strL_app, strL_app, strL_app, strL_app, strL_app]
    congr 1
    simp only [printR, Int.reduceEq, or_self, or_true, true_or, or_false, false_or, if_true, if_false, false_and, true_and, and_false, and_true, Int.reduceLE, Int.reduceLT, Int.reduceMod, and_self, reduceIte]
    rw [if_pos hk]
    simp)
  have W1 : IntKind.i64.wrap (16 * kind) = 16 * kind := IntWalk.i64_in _ ⟨by omega, by omega⟩
  have g1 : decide (0 < kind) = true := by simpa using hk
  clear ht hr
  go_enter Tryd.func23, Tryd.ntmps23
  go_upto_region 1 with fail
  refine to_pt ?_
  intro U0 hU0
  have r_b : ∀ z : Wb U0, Row z.at (w.heap.size) [.int .i64 6, .int .i64 d, .int .i64 n, .int .i64 m, .int .i64 imm, .int .i64 kind] 23 := Row.next (Row.new w [.int .i64 6, .int .i64 d, .int .i64 n, .int .i64 m, .int .i64 imm, .int .i64 kind] _) hU0
  have KK := Lib.hid (KB.next (KB.alloc (Below.refl w.heap.size w) (.cells #[.int .i64 6, .int .i64 d, .int .i64 n, .int .i64 m, .int .i64 imm, .int .i64 kind] 23)) hU0)
  clear hU0
  obtain ⟨c_b_0, c_b_1, c_b_2, c_b_3, c_b_4, c_b_5⟩ := six r_b
  have TZ := Lib.hid fun z => TH.out.below (KK.out z)
  refine wp_region_wb (by kernel_rfl) (by kernel_rfl) ?_
  repeat (go_big_quiet_step (first | (go_at_call 18; exact Calls.wb (RG.out _ (TZ.out _))) | (go_at_call 24; exact Calls.wb (NU.out _ (TZ.out _)))))
  refine wpQuiet_nil ?_
  rintro _ ⟨y1, rfl⟩
  go_wp2_with fail
  refine (NK.out _ (TZ.out y1)).mono ?_
  rintro e w1 ⟨rfl, g⟩
  obtain ⟨y2, rfl⟩ := Wb.next (x := y1) g
  clear g
  go_wp2
  go_ret
  exact ⟨by rw [← SA.out]; rfl, KK.out y2⟩

set_option maxRecDepth 100000 in
set_option maxHeartbeats 3200000 in
theorem amove_none (d n m imm kind : Int) (w : World) (ht : Tab w) (hr : GrI.right ⟨6, d, n, m, imm, kind⟩) (hk : ¬ 0 < kind) : Calls Tryd.prog 23 #[.agg #[.int .i64 6, .int .i64 d, .int .i64 n, .int .i64 m, .int .i64 imm, .int .i64 kind]] w fun e w' => e = .returned (.string (strL (printR ⟨6, d, n, m, imm, kind⟩))) ∧ Below w.heap.size w w' := by
  obtain ⟨b1, b2⟩ := GrI.imm_bd hr
  obtain ⟨dn0, dn1, dn2, dn3, dn4, dn5⟩ := reg_bd hr
  simp only at b1 b2 dn0 dn1 dn2 dn3 dn4 dn5
  have TH := Lib.hid ht
  have RG := Lib.hid (fun w2 (t2 : Tab w2) => reg_any d w2 t2.tb (by omega) (by omega))
  have NU := Lib.hid (fun w2 (t2 : Tab w2) => num_any imm w2 b1 b2 t2.tb)
  obtain ⟨z_rd, hz_rd⟩ : ∃ zz, zz = (strL (reg d)).size := ⟨_, rfl⟩
  have e_rd : (strL (reg d)).size = z_rd := hz_rd.symm
  have l_rd : z_rd ≤ 65 := by rw [hz_rd, strL_size]; exact reg_len d
  clear hz_rd
  obtain ⟨z_num, hz_num⟩ : ∃ zz, zz = (strL (num imm)).size := ⟨_, rfl⟩
  have e_num : (strL (num imm)).size = z_num := hz_num.symm
  have l_num : z_num ≤ 65 := by rw [hz_num, strL_size]; exact itoa_len64 b1 b2
  clear hz_num
  have N2 : ¬ 9223372036854775807 < z_rd + 2 := by omega
  have N3 : ¬ 9223372036854775807 < z_rd + 2 + z_num := by omega
  have S1 : ¬ 9223372036854775807 < 4 + (z_rd + 2 + z_num) := by omega
  have SA := Lib.hid (show (⟨#[77, 79, 86, 32]⟩ ++ (strL (reg d) ++ ⟨#[44, 35]⟩ ++ strL (num imm)) : ByteArray) = strL (printR ⟨6, d, n, m, imm, kind⟩) by
    show strL [77, 79, 86, 32] ++ (strL (reg d) ++ strL [44, 35] ++ strL (num imm)) = _
    rw [strL_app, strL_app, strL_app]
    congr 1
    simp only [printR, Int.reduceEq, or_self, or_true, true_or, or_false, false_or, if_true, if_false, false_and, true_and, and_false, and_true, Int.reduceLE, Int.reduceLT, Int.reduceMod, and_self, reduceIte]
    rw [if_neg hk]
    simp)
  have g1 : decide (0 < kind) = false := by simpa using hk
  clear ht hr
  go_enter Tryd.func23, Tryd.ntmps23
  go_upto_region 1 with fail
  refine to_pt ?_
  intro U0 hU0
  have r_b : ∀ z : Wb U0, Row z.at (w.heap.size) [.int .i64 6, .int .i64 d, .int .i64 n, .int .i64 m, .int .i64 imm, .int .i64 kind] 23 := Row.next (Row.new w [.int .i64 6, .int .i64 d, .int .i64 n, .int .i64 m, .int .i64 imm, .int .i64 kind] _) hU0
  have KK := Lib.hid (KB.next (KB.alloc (Below.refl w.heap.size w) (.cells #[.int .i64 6, .int .i64 d, .int .i64 n, .int .i64 m, .int .i64 imm, .int .i64 kind] 23)) hU0)
  clear hU0
  obtain ⟨c_b_0, c_b_1, c_b_2, c_b_3, c_b_4, c_b_5⟩ := six r_b
  have TZ := Lib.hid fun z => TH.out.below (KK.out z)
  refine wp_region_wb (by kernel_rfl) (by kernel_rfl) ?_
  repeat (go_big_quiet_step (first | (go_at_call 18; exact Calls.wb (RG.out _ (TZ.out _))) | (go_at_call 24; exact Calls.wb (NU.out _ (TZ.out _)))))
  refine wpQuiet_nil ?_
  rintro _ ⟨y1, rfl⟩
  go_wp2
  go_ret
  exact ⟨by rw [← SA.out]; rfl, KK.out y1⟩

theorem amove_any (d n m imm kind : Int) (w : World) (ht : Tab w) (hr : GrI.right ⟨6, d, n, m, imm, kind⟩) : Calls Tryd.prog 23 #[.agg #[.int .i64 6, .int .i64 d, .int .i64 n, .int .i64 m, .int .i64 imm, .int .i64 kind]] w fun e w' => e = .returned (.string (strL (printR ⟨6, d, n, m, imm, kind⟩))) ∧ Below w.heap.size w w' := by
  by_cases h : 0 < kind
  · exact amove_some d n m imm kind w ht hr h
  · exact amove_none d n m imm kind w ht hr h
set_option maxRecDepth 100000 in
set_option maxHeartbeats 3200000 in
theorem aprint_no (op d n m imm kind : Int) (w : World) (ht : Tab w) (hb : -9223372036854775808 ≤ imm ∧ imm ≤ 9223372036854775807) (hr : encB ⟨op, d, n, m, imm, kind⟩ = false) : Calls Tryd.prog 10 #[.agg #[.int .i64 op, .int .i64 d, .int .i64 n, .int .i64 m, .int .i64 imm, .int .i64 kind]] w fun e w' => e = .returned (.string ⟨#[]⟩) ∧ Below w.heap.size w w' := by
  have RI := Lib.hid (fun w2 (t2 : Tab w2) => right_no ⟨op, d, n, m, imm, kind⟩ w2 t2.sh hb hr)
  have TH := Lib.hid ht
  clear ht hr
  go_enter Tryd.func10, Tryd.ntmps10
  go_upto_region 1 with fail
  refine to_cls ?_
  intro U0 hU0 y0
  have r_b : ∀ z : Wb U0, Row z.at (w.heap.size) [.int .i64 op, .int .i64 d, .int .i64 n, .int .i64 m, .int .i64 imm, .int .i64 kind] 23 := Row.next (Row.new _ [.int .i64 op, .int .i64 d, .int .i64 n, .int .i64 m, .int .i64 imm, .int .i64 kind] _) hU0
  have KK := Lib.hid (KB.next (KB.alloc (Below.refl _ _) _) hU0)
  clear hU0
  obtain ⟨c_b_0, c_b_1, c_b_2, c_b_3, c_b_4, c_b_5⟩ := six r_b
  have TZ := Lib.hid fun z => TH.out.below (KK.out z)
  go_wp2_with fail
  refine (RI.out _ (TZ.out y0)).mono ?_
  rintro e w1 ⟨rfl, g⟩
  obtain ⟨y1, rfl⟩ := Wb.next (x := y0) g
  clear g
  go_wp2
  go_ret
  exact ⟨rfl, KK.out y1⟩
end Go.Proofs.YtebpmngllljkaaaDoor
