/-
  Layer 4, the walks: Print.
  Layer 4, the walks: Print.
-/
import Derived.Test.YtebpmngllljkaaaDoorV2
set_option linter.unusedSimpArgs false
set_option linter.unusedVariables false
namespace Go.Proofs.YtebpmngllljkaaaDoor
open Go.RowKit GrP GrA


set_option maxRecDepth 100000 in
set_option maxHeartbeats 3200000 in
theorem aprint_2 (d n m imm kind : Int) (w : World) (ht : Tab w) (hr : GrI.right ⟨2, d, n, m, imm, kind⟩) : Calls Tryd.prog 10 #[.agg #[.int .i64 2, .int .i64 d, .int .i64 n, .int .i64 m, .int .i64 imm, .int .i64 kind]] w fun e w' => e = .returned (.string (strL (printR ⟨2, d, n, m, imm, kind⟩))) ∧ Below w.heap.size w w' := by
  obtain ⟨b1, b2⟩ := GrI.imm_bd hr
  obtain ⟨dn0, dn1, dn2, dn3, dn4, dn5⟩ := reg_bd hr
  simp only at b1 b2 dn0 dn1 dn2 dn3 dn4 dn5
  have TH := Lib.hid ht
  have RI := Lib.hid (fun w2 (t2 : Tab w2) => right_yes ⟨2, d, n, m, imm, kind⟩ w2 t2.sh ⟨b1, b2⟩ (by simpa [encB] using hr))
  have RG := Lib.hid (fun w2 (t2 : Tab w2) (n : Int) (h0 : 0 ≤ n) (h1 : n ≤ 31) => reg_any n w2 t2.tb (by omega) (by omega))
  have AT := Lib.hid (fun w2 (t2 : Tab w2) => at_any n imm w2 t2.tb (by omega) (by omega) b1 b2)
  obtain ⟨s0, hs0⟩ : ∃ s, s = strL (names.getD 2 []) := ⟨_, rfl⟩
  have hq0 : s0.size = 3 := by rw [hs0]; rfl
  obtain ⟨z_rd, hz_rd⟩ : ∃ zz, zz = (strL (reg d)).size := ⟨_, rfl⟩
  have e_rd : (strL (reg d)).size = z_rd := hz_rd.symm
  have l_rd : z_rd ≤ 65 := by rw [hz_rd, strL_size]; exact reg_len d
  clear hz_rd
  obtain ⟨z_at, hz_at⟩ : ∃ zz, zz = (strL (cellT n imm)).size := ⟨_, rfl⟩
  have e_at : (strL (cellT n imm)).size = z_at := hz_at.symm
  have l_at : z_at ≤ 140 := by rw [hz_at, strL_size]; exact cellT_len b1 b2
  clear hz_at
  have N2 : ¬ 9223372036854775807 < 4 := by omega
  have N3 : ¬ 9223372036854775807 < 4 + z_rd := by omega
  have M3 : ¬ 9223372036854775807 < 3 + 1 + z_rd := by omega
  have N4 : ¬ 9223372036854775807 < 4 + z_rd + 1 := by omega
  have M4 : ¬ 9223372036854775807 < 3 + 1 + z_rd + 1 := by omega
  have N5 : ¬ 9223372036854775807 < 4 + z_rd + 1 + z_at := by omega
  have M5 : ¬ 9223372036854775807 < 3 + 1 + z_rd + 1 + z_at := by omega
  have SA := Lib.hid (show (s0 ++ ⟨#[32]⟩ ++ strL (reg d) ++ ⟨#[44]⟩ ++ strL (cellT n imm) : ByteArray) = strL (printR ⟨2, d, n, m, imm, kind⟩) by
    rw [hs0]
    show strL (names.getD 2 []) ++ strL [32] ++ strL (reg d) ++ strL [44] ++ strL (cellT n imm) = _
    rw [strL_app, strL_app, strL_app, strL_app]
    congr 1
    all_goals simp only [printR, Int.reduceEq, or_self, or_true, true_or, or_false, false_or, if_true, if_false, false_and, true_and, and_false, and_true, Int.reduceLE, Int.reduceLT, Int.reduceMod, and_self, reduceIte]
    all_goals simp [at!])
  have C0 := Lib.hid (show w.cell? ⟨0, 2, none⟩ = some (.string (strL (names.getD 2 []))) from ht.nm 2 (by decide))
  rw [← hs0] at C0
  clear ht hr hs0
  go_enter Tryd.func10, Tryd.ntmps10
  go_upto_region 1 with fail
  refine to_cls ?_
  intro U0 hU0 y0
  have r_b : ∀ z : Wb U0, Row z.at (w.heap.size) [.int .i64 2, .int .i64 d, .int .i64 n, .int .i64 m, .int .i64 imm, .int .i64 kind] 23 := Row.next (Row.new _ [.int .i64 2, .int .i64 d, .int .i64 n, .int .i64 m, .int .i64 imm, .int .i64 kind] _) hU0
  have KK := Lib.hid (KB.next (KB.alloc (Below.refl _ _) _) hU0)
  clear hU0
  obtain ⟨c_b_0, c_b_1, c_b_2, c_b_3, c_b_4, c_b_5⟩ := six r_b
  have TZ := Lib.hid fun z => TH.out.below (KK.out z)
  have cc0 := keepc KK C0
  go_wp2_with fail
  refine (RI.out _ (TZ.out y0)).mono ?_
  rintro e w1 ⟨rfl, g⟩
  obtain ⟨y1, rfl⟩ := Wb.next (x := y0) g
  clear g
  go_wp2_with fail
  refine to_pt ?_
  intro U2 hU2
  clear c_b_0 c_b_1 c_b_2 c_b_3 c_b_4 c_b_5 cc0
  have r_b : ∀ z : Wb U2, Row z.at (w.heap.size) [.int .i64 2, .int .i64 d, .int .i64 n, .int .i64 m, .int .i64 imm, .int .i64 kind] 23 := Row.next (r_b y1) hU2
  have KK := Lib.hid (KB.next (KK.out y1) hU2)
  clear hU2
  obtain ⟨c_b_0, c_b_1, c_b_2, c_b_3, c_b_4, c_b_5⟩ := six r_b
  have TZ := Lib.hid fun z => TH.out.below (KK.out z)
  have cc0 := keepc KK C0
  refine wp_region_wb (by kernel_rfl) (by kernel_rfl) ?_
  repeat (go_big_quiet_step ((go_at_call 18; exact Calls.wb (RG.out _ (TZ.out _) _ (by first | assumption | decide) (by first | assumption | decide)))))
  refine wpQuiet_nil ?_
  rintro _ ⟨y3, rfl⟩
  go_wp2_with fail
  refine (AT.out _ (TZ.out y3)).mono ?_
  rintro e w1 ⟨rfl, g⟩
  obtain ⟨y4, rfl⟩ := Wb.next (x := y3) g
  clear g
  go_wp2
  go_ret
  exact ⟨by rw [← SA.out]; rfl, KK.out y4⟩

set_option maxRecDepth 100000 in
set_option maxHeartbeats 3200000 in
theorem aprint_3 (d n m imm kind : Int) (w : World) (ht : Tab w) (hr : GrI.right ⟨3, d, n, m, imm, kind⟩) : Calls Tryd.prog 10 #[.agg #[.int .i64 3, .int .i64 d, .int .i64 n, .int .i64 m, .int .i64 imm, .int .i64 kind]] w fun e w' => e = .returned (.string (strL (printR ⟨3, d, n, m, imm, kind⟩))) ∧ Below w.heap.size w w' := by
  obtain ⟨b1, b2⟩ := GrI.imm_bd hr
  obtain ⟨dn0, dn1, dn2, dn3, dn4, dn5⟩ := reg_bd hr
  simp only at b1 b2 dn0 dn1 dn2 dn3 dn4 dn5
  have TH := Lib.hid ht
  have RI := Lib.hid (fun w2 (t2 : Tab w2) => right_yes ⟨3, d, n, m, imm, kind⟩ w2 t2.sh ⟨b1, b2⟩ (by simpa [encB] using hr))
  have RG := Lib.hid (fun w2 (t2 : Tab w2) (n : Int) (h0 : 0 ≤ n) (h1 : n ≤ 31) => reg_any n w2 t2.tb (by omega) (by omega))
  have AT := Lib.hid (fun w2 (t2 : Tab w2) => at_any n imm w2 t2.tb (by omega) (by omega) b1 b2)
  obtain ⟨s0, hs0⟩ : ∃ s, s = strL (names.getD 3 []) := ⟨_, rfl⟩
  have hq0 : s0.size = 3 := by rw [hs0]; rfl
  obtain ⟨z_rd, hz_rd⟩ : ∃ zz, zz = (strL (reg d)).size := ⟨_, rfl⟩
  have e_rd : (strL (reg d)).size = z_rd := hz_rd.symm
  have l_rd : z_rd ≤ 65 := by rw [hz_rd, strL_size]; exact reg_len d
  clear hz_rd
  obtain ⟨z_at, hz_at⟩ : ∃ zz, zz = (strL (cellT n imm)).size := ⟨_, rfl⟩
  have e_at : (strL (cellT n imm)).size = z_at := hz_at.symm
  have l_at : z_at ≤ 140 := by rw [hz_at, strL_size]; exact cellT_len b1 b2
  clear hz_at
  have N2 : ¬ 9223372036854775807 < 4 := by omega
  have N3 : ¬ 9223372036854775807 < 4 + z_rd := by omega
  have M3 : ¬ 9223372036854775807 < 3 + 1 + z_rd := by omega
  have N4 : ¬ 9223372036854775807 < 4 + z_rd + 1 := by omega
  have M4 : ¬ 9223372036854775807 < 3 + 1 + z_rd + 1 := by omega
  have N5 : ¬ 9223372036854775807 < 4 + z_rd + 1 + z_at := by omega
  have M5 : ¬ 9223372036854775807 < 3 + 1 + z_rd + 1 + z_at := by omega
  have SA := Lib.hid (show (s0 ++ ⟨#[32]⟩ ++ strL (reg d) ++ ⟨#[44]⟩ ++ strL (cellT n imm) : ByteArray) = strL (printR ⟨3, d, n, m, imm, kind⟩) by
    rw [hs0]
    show strL (names.getD 3 []) ++ strL [32] ++ strL (reg d) ++ strL [44] ++ strL (cellT n imm) = _
    rw [strL_app, strL_app, strL_app, strL_app]
    congr 1
    all_goals simp only [printR, Int.reduceEq, or_self, or_true, true_or, or_false, false_or, if_true, if_false, false_and, true_and, and_false, and_true, Int.reduceLE, Int.reduceLT, Int.reduceMod, and_self, reduceIte]
    all_goals simp [at!])
  have C0 := Lib.hid (show w.cell? ⟨0, 3, none⟩ = some (.string (strL (names.getD 3 []))) from ht.nm 3 (by decide))
  rw [← hs0] at C0
  clear ht hr hs0
  go_enter Tryd.func10, Tryd.ntmps10
  go_upto_region 1 with fail
  refine to_cls ?_
  intro U0 hU0 y0
  have r_b : ∀ z : Wb U0, Row z.at (w.heap.size) [.int .i64 3, .int .i64 d, .int .i64 n, .int .i64 m, .int .i64 imm, .int .i64 kind] 23 := Row.next (Row.new _ [.int .i64 3, .int .i64 d, .int .i64 n, .int .i64 m, .int .i64 imm, .int .i64 kind] _) hU0
  have KK := Lib.hid (KB.next (KB.alloc (Below.refl _ _) _) hU0)
  clear hU0
  obtain ⟨c_b_0, c_b_1, c_b_2, c_b_3, c_b_4, c_b_5⟩ := six r_b
  have TZ := Lib.hid fun z => TH.out.below (KK.out z)
  have cc0 := keepc KK C0
  go_wp2_with fail
  refine (RI.out _ (TZ.out y0)).mono ?_
  rintro e w1 ⟨rfl, g⟩
  obtain ⟨y1, rfl⟩ := Wb.next (x := y0) g
  clear g
  go_wp2_with fail
  refine to_pt ?_
  intro U2 hU2
  clear c_b_0 c_b_1 c_b_2 c_b_3 c_b_4 c_b_5 cc0
  have r_b : ∀ z : Wb U2, Row z.at (w.heap.size) [.int .i64 3, .int .i64 d, .int .i64 n, .int .i64 m, .int .i64 imm, .int .i64 kind] 23 := Row.next (r_b y1) hU2
  have KK := Lib.hid (KB.next (KK.out y1) hU2)
  clear hU2
  obtain ⟨c_b_0, c_b_1, c_b_2, c_b_3, c_b_4, c_b_5⟩ := six r_b
  have TZ := Lib.hid fun z => TH.out.below (KK.out z)
  have cc0 := keepc KK C0
  refine wp_region_wb (by kernel_rfl) (by kernel_rfl) ?_
  repeat (go_big_quiet_step ((go_at_call 18; exact Calls.wb (RG.out _ (TZ.out _) _ (by first | assumption | decide) (by first | assumption | decide)))))
  refine wpQuiet_nil ?_
  rintro _ ⟨y3, rfl⟩
  go_wp2_with fail
  refine (AT.out _ (TZ.out y3)).mono ?_
  rintro e w1 ⟨rfl, g⟩
  obtain ⟨y4, rfl⟩ := Wb.next (x := y3) g
  clear g
  go_wp2
  go_ret
  exact ⟨by rw [← SA.out]; rfl, KK.out y4⟩

set_option maxRecDepth 100000 in
set_option maxHeartbeats 3200000 in
theorem aprint_4 (d n m imm kind : Int) (w : World) (ht : Tab w) (hr : GrI.right ⟨4, d, n, m, imm, kind⟩) : Calls Tryd.prog 10 #[.agg #[.int .i64 4, .int .i64 d, .int .i64 n, .int .i64 m, .int .i64 imm, .int .i64 kind]] w fun e w' => e = .returned (.string (strL (printR ⟨4, d, n, m, imm, kind⟩))) ∧ Below w.heap.size w w' := by
  obtain ⟨b1, b2⟩ := GrI.imm_bd hr
  obtain ⟨dn0, dn1, dn2, dn3, dn4, dn5⟩ := reg_bd hr
  simp only at b1 b2 dn0 dn1 dn2 dn3 dn4 dn5
  have TH := Lib.hid ht
  have RI := Lib.hid (fun w2 (t2 : Tab w2) => right_yes ⟨4, d, n, m, imm, kind⟩ w2 t2.sh ⟨b1, b2⟩ (by simpa [encB] using hr))
  have RG := Lib.hid (fun w2 (t2 : Tab w2) (n : Int) (h0 : 0 ≤ n) (h1 : n ≤ 31) => reg_any n w2 t2.tb (by omega) (by omega))
  have AT := Lib.hid (fun w2 (t2 : Tab w2) => at_any n imm w2 t2.tb (by omega) (by omega) b1 b2)
  obtain ⟨s0, hs0⟩ : ∃ s, s = strL (names.getD 4 []) := ⟨_, rfl⟩
  have hq0 : s0.size = 4 := by rw [hs0]; rfl
  obtain ⟨z_rd, hz_rd⟩ : ∃ zz, zz = (strL (reg d)).size := ⟨_, rfl⟩
  have e_rd : (strL (reg d)).size = z_rd := hz_rd.symm
  have l_rd : z_rd ≤ 65 := by rw [hz_rd, strL_size]; exact reg_len d
  clear hz_rd
  obtain ⟨z_at, hz_at⟩ : ∃ zz, zz = (strL (cellT n imm)).size := ⟨_, rfl⟩
  have e_at : (strL (cellT n imm)).size = z_at := hz_at.symm
  have l_at : z_at ≤ 140 := by rw [hz_at, strL_size]; exact cellT_len b1 b2
  clear hz_at
  have N2 : ¬ 9223372036854775807 < 5 := by omega
  have N3 : ¬ 9223372036854775807 < 5 + z_rd := by omega
  have M3 : ¬ 9223372036854775807 < 4 + 1 + z_rd := by omega
  have N4 : ¬ 9223372036854775807 < 5 + z_rd + 1 := by omega
  have M4 : ¬ 9223372036854775807 < 4 + 1 + z_rd + 1 := by omega
  have N5 : ¬ 9223372036854775807 < 5 + z_rd + 1 + z_at := by omega
  have M5 : ¬ 9223372036854775807 < 4 + 1 + z_rd + 1 + z_at := by omega
  have SA := Lib.hid (show (s0 ++ ⟨#[32]⟩ ++ strL (reg d) ++ ⟨#[44]⟩ ++ strL (cellT n imm) : ByteArray) = strL (printR ⟨4, d, n, m, imm, kind⟩) by
    rw [hs0]
    show strL (names.getD 4 []) ++ strL [32] ++ strL (reg d) ++ strL [44] ++ strL (cellT n imm) = _
    rw [strL_app, strL_app, strL_app, strL_app]
    congr 1
    all_goals simp only [printR, Int.reduceEq, or_self, or_true, true_or, or_false, false_or, if_true, if_false, false_and, true_and, and_false, and_true, Int.reduceLE, Int.reduceLT, Int.reduceMod, and_self, reduceIte]
    all_goals simp [at!])
  have C0 := Lib.hid (show w.cell? ⟨0, 4, none⟩ = some (.string (strL (names.getD 4 []))) from ht.nm 4 (by decide))
  rw [← hs0] at C0
  clear ht hr hs0
  go_enter Tryd.func10, Tryd.ntmps10
  go_upto_region 1 with fail
  refine to_cls ?_
  intro U0 hU0 y0
  have r_b : ∀ z : Wb U0, Row z.at (w.heap.size) [.int .i64 4, .int .i64 d, .int .i64 n, .int .i64 m, .int .i64 imm, .int .i64 kind] 23 := Row.next (Row.new _ [.int .i64 4, .int .i64 d, .int .i64 n, .int .i64 m, .int .i64 imm, .int .i64 kind] _) hU0
  have KK := Lib.hid (KB.next (KB.alloc (Below.refl _ _) _) hU0)
  clear hU0
  obtain ⟨c_b_0, c_b_1, c_b_2, c_b_3, c_b_4, c_b_5⟩ := six r_b
  have TZ := Lib.hid fun z => TH.out.below (KK.out z)
  have cc0 := keepc KK C0
  go_wp2_with fail
  refine (RI.out _ (TZ.out y0)).mono ?_
  rintro e w1 ⟨rfl, g⟩
  obtain ⟨y1, rfl⟩ := Wb.next (x := y0) g
  clear g
  go_wp2_with fail
  refine to_pt ?_
  intro U2 hU2
  clear c_b_0 c_b_1 c_b_2 c_b_3 c_b_4 c_b_5 cc0
  have r_b : ∀ z : Wb U2, Row z.at (w.heap.size) [.int .i64 4, .int .i64 d, .int .i64 n, .int .i64 m, .int .i64 imm, .int .i64 kind] 23 := Row.next (r_b y1) hU2
  have KK := Lib.hid (KB.next (KK.out y1) hU2)
  clear hU2
  obtain ⟨c_b_0, c_b_1, c_b_2, c_b_3, c_b_4, c_b_5⟩ := six r_b
  have TZ := Lib.hid fun z => TH.out.below (KK.out z)
  have cc0 := keepc KK C0
  refine wp_region_wb (by kernel_rfl) (by kernel_rfl) ?_
  repeat (go_big_quiet_step ((go_at_call 18; exact Calls.wb (RG.out _ (TZ.out _) _ (by first | assumption | decide) (by first | assumption | decide)))))
  refine wpQuiet_nil ?_
  rintro _ ⟨y3, rfl⟩
  go_wp2_with fail
  refine (AT.out _ (TZ.out y3)).mono ?_
  rintro e w1 ⟨rfl, g⟩
  obtain ⟨y4, rfl⟩ := Wb.next (x := y3) g
  clear g
  go_wp2
  go_ret
  exact ⟨by rw [← SA.out]; rfl, KK.out y4⟩

set_option maxRecDepth 100000 in
set_option maxHeartbeats 3200000 in
theorem aprint_5 (d n m imm kind : Int) (w : World) (ht : Tab w) (hr : GrI.right ⟨5, d, n, m, imm, kind⟩) : Calls Tryd.prog 10 #[.agg #[.int .i64 5, .int .i64 d, .int .i64 n, .int .i64 m, .int .i64 imm, .int .i64 kind]] w fun e w' => e = .returned (.string (strL (printR ⟨5, d, n, m, imm, kind⟩))) ∧ Below w.heap.size w w' := by
  obtain ⟨b1, b2⟩ := GrI.imm_bd hr
  obtain ⟨dn0, dn1, dn2, dn3, dn4, dn5⟩ := reg_bd hr
  simp only at b1 b2 dn0 dn1 dn2 dn3 dn4 dn5
  have TH := Lib.hid ht
  have RI := Lib.hid (fun w2 (t2 : Tab w2) => right_yes ⟨5, d, n, m, imm, kind⟩ w2 t2.sh ⟨b1, b2⟩ (by simpa [encB] using hr))
  have RG := Lib.hid (fun w2 (t2 : Tab w2) (n : Int) (h0 : 0 ≤ n) (h1 : n ≤ 31) => reg_any n w2 t2.tb (by omega) (by omega))
  have AT := Lib.hid (fun w2 (t2 : Tab w2) => at_any n imm w2 t2.tb (by omega) (by omega) b1 b2)
  obtain ⟨s0, hs0⟩ : ∃ s, s = strL (names.getD 5 []) := ⟨_, rfl⟩
  have hq0 : s0.size = 4 := by rw [hs0]; rfl
  obtain ⟨z_rd, hz_rd⟩ : ∃ zz, zz = (strL (reg d)).size := ⟨_, rfl⟩
  have e_rd : (strL (reg d)).size = z_rd := hz_rd.symm
  have l_rd : z_rd ≤ 65 := by rw [hz_rd, strL_size]; exact reg_len d
  clear hz_rd
  obtain ⟨z_at, hz_at⟩ : ∃ zz, zz = (strL (cellT n imm)).size := ⟨_, rfl⟩
  have e_at : (strL (cellT n imm)).size = z_at := hz_at.symm
  have l_at : z_at ≤ 140 := by rw [hz_at, strL_size]; exact cellT_len b1 b2
  clear hz_at
  have N2 : ¬ 9223372036854775807 < 5 := by omega
  have N3 : ¬ 9223372036854775807 < 5 + z_rd := by omega
  have M3 : ¬ 9223372036854775807 < 4 + 1 + z_rd := by omega
  have N4 : ¬ 9223372036854775807 < 5 + z_rd + 1 := by omega
  have M4 : ¬ 9223372036854775807 < 4 + 1 + z_rd + 1 := by omega
  have N5 : ¬ 9223372036854775807 < 5 + z_rd + 1 + z_at := by omega
  have M5 : ¬ 9223372036854775807 < 4 + 1 + z_rd + 1 + z_at := by omega
  have SA := Lib.hid (show (s0 ++ ⟨#[32]⟩ ++ strL (reg d) ++ ⟨#[44]⟩ ++ strL (cellT n imm) : ByteArray) = strL (printR ⟨5, d, n, m, imm, kind⟩) by
    rw [hs0]
    show strL (names.getD 5 []) ++ strL [32] ++ strL (reg d) ++ strL [44] ++ strL (cellT n imm) = _
    rw [strL_app, strL_app, strL_app, strL_app]
    congr 1
    all_goals simp only [printR, Int.reduceEq, or_self, or_true, true_or, or_false, false_or, if_true, if_false, false_and, true_and, and_false, and_true, Int.reduceLE, Int.reduceLT, Int.reduceMod, and_self, reduceIte]
    all_goals simp [at!])
  have C0 := Lib.hid (show w.cell? ⟨0, 5, none⟩ = some (.string (strL (names.getD 5 []))) from ht.nm 5 (by decide))
  rw [← hs0] at C0
  clear ht hr hs0
  go_enter Tryd.func10, Tryd.ntmps10
  go_upto_region 1 with fail
  refine to_cls ?_
  intro U0 hU0 y0
  have r_b : ∀ z : Wb U0, Row z.at (w.heap.size) [.int .i64 5, .int .i64 d, .int .i64 n, .int .i64 m, .int .i64 imm, .int .i64 kind] 23 := Row.next (Row.new _ [.int .i64 5, .int .i64 d, .int .i64 n, .int .i64 m, .int .i64 imm, .int .i64 kind] _) hU0
  have KK := Lib.hid (KB.next (KB.alloc (Below.refl _ _) _) hU0)
  clear hU0
  obtain ⟨c_b_0, c_b_1, c_b_2, c_b_3, c_b_4, c_b_5⟩ := six r_b
  have TZ := Lib.hid fun z => TH.out.below (KK.out z)
  have cc0 := keepc KK C0
  go_wp2_with fail
  refine (RI.out _ (TZ.out y0)).mono ?_
  rintro e w1 ⟨rfl, g⟩
  obtain ⟨y1, rfl⟩ := Wb.next (x := y0) g
  clear g
  go_wp2_with fail
  refine to_pt ?_
  intro U2 hU2
  clear c_b_0 c_b_1 c_b_2 c_b_3 c_b_4 c_b_5 cc0
  have r_b : ∀ z : Wb U2, Row z.at (w.heap.size) [.int .i64 5, .int .i64 d, .int .i64 n, .int .i64 m, .int .i64 imm, .int .i64 kind] 23 := Row.next (r_b y1) hU2
  have KK := Lib.hid (KB.next (KK.out y1) hU2)
  clear hU2
  obtain ⟨c_b_0, c_b_1, c_b_2, c_b_3, c_b_4, c_b_5⟩ := six r_b
  have TZ := Lib.hid fun z => TH.out.below (KK.out z)
  have cc0 := keepc KK C0
  refine wp_region_wb (by kernel_rfl) (by kernel_rfl) ?_
  repeat (go_big_quiet_step ((go_at_call 18; exact Calls.wb (RG.out _ (TZ.out _) _ (by first | assumption | decide) (by first | assumption | decide)))))
  refine wpQuiet_nil ?_
  rintro _ ⟨y3, rfl⟩
  go_wp2_with fail
  refine (AT.out _ (TZ.out y3)).mono ?_
  rintro e w1 ⟨rfl, g⟩
  obtain ⟨y4, rfl⟩ := Wb.next (x := y3) g
  clear g
  go_wp2
  go_ret
  exact ⟨by rw [← SA.out]; rfl, KK.out y4⟩

set_option maxRecDepth 100000 in
set_option maxHeartbeats 3200000 in
theorem aprint_7 (d n m imm kind : Int) (w : World) (ht : Tab w) (hr : GrI.right ⟨7, d, n, m, imm, kind⟩) : Calls Tryd.prog 10 #[.agg #[.int .i64 7, .int .i64 d, .int .i64 n, .int .i64 m, .int .i64 imm, .int .i64 kind]] w fun e w' => e = .returned (.string (strL (printR ⟨7, d, n, m, imm, kind⟩))) ∧ Below w.heap.size w w' := by
  obtain ⟨b1, b2⟩ := GrI.imm_bd hr
  obtain ⟨dn0, dn1, dn2, dn3, dn4, dn5⟩ := reg_bd hr
  simp only at b1 b2 dn0 dn1 dn2 dn3 dn4 dn5
  have TH := Lib.hid ht
  have RI := Lib.hid (fun w2 (t2 : Tab w2) => right_yes ⟨7, d, n, m, imm, kind⟩ w2 t2.sh ⟨b1, b2⟩ (by simpa [encB] using hr))
  have RG := Lib.hid (fun w2 (t2 : Tab w2) (n : Int) (h0 : 0 ≤ n) (h1 : n ≤ 31) => reg_any n w2 t2.tb (by omega) (by omega))
  have NU := Lib.hid (fun w2 (t2 : Tab w2) => num_any imm w2 b1 b2 t2.tb)
  obtain ⟨s0, hs0⟩ : ∃ s, s = strL (names.getD 7 []) := ⟨_, rfl⟩
  have hq0 : s0.size = 3 := by rw [hs0]; rfl
  obtain ⟨z_rd, hz_rd⟩ : ∃ zz, zz = (strL (reg d)).size := ⟨_, rfl⟩
  have e_rd : (strL (reg d)).size = z_rd := hz_rd.symm
  have l_rd : z_rd ≤ 65 := by rw [hz_rd, strL_size]; exact reg_len d
  clear hz_rd
  obtain ⟨z_rn, hz_rn⟩ : ∃ zz, zz = (strL (reg n)).size := ⟨_, rfl⟩
  have e_rn : (strL (reg n)).size = z_rn := hz_rn.symm
  have l_rn : z_rn ≤ 65 := by rw [hz_rn, strL_size]; exact reg_len n
  clear hz_rn
  obtain ⟨z_num, hz_num⟩ : ∃ zz, zz = (strL (num imm)).size := ⟨_, rfl⟩
  have e_num : (strL (num imm)).size = z_num := hz_num.symm
  have l_num : z_num ≤ 65 := by rw [hz_num, strL_size]; exact itoa_len64 b1 b2
  clear hz_num
  have N2 : ¬ 9223372036854775807 < 4 := by omega
  have N3 : ¬ 9223372036854775807 < 4 + z_rd := by omega
  have M3 : ¬ 9223372036854775807 < 3 + 1 + z_rd := by omega
  have N4 : ¬ 9223372036854775807 < 4 + z_rd + 1 := by omega
  have M4 : ¬ 9223372036854775807 < 3 + 1 + z_rd + 1 := by omega
  have N5 : ¬ 9223372036854775807 < 4 + z_rd + 1 + z_rn := by omega
  have M5 : ¬ 9223372036854775807 < 3 + 1 + z_rd + 1 + z_rn := by omega
  have N6 : ¬ 9223372036854775807 < 4 + z_rd + 1 + z_rn + 2 := by omega
  have M6 : ¬ 9223372036854775807 < 3 + 1 + z_rd + 1 + z_rn + 2 := by omega
  have N7 : ¬ 9223372036854775807 < 4 + z_rd + 1 + z_rn + 2 + z_num := by omega
  have M7 : ¬ 9223372036854775807 < 3 + 1 + z_rd + 1 + z_rn + 2 + z_num := by omega
  have SA := Lib.hid (show (s0 ++ ⟨#[32]⟩ ++ strL (reg d) ++ ⟨#[44]⟩ ++ strL (reg n) ++ ⟨#[44, 35]⟩ ++ strL (num imm) : ByteArray) = strL (printR ⟨7, d, n, m, imm, kind⟩) by
    rw [hs0]
    show strL (names.getD 7 []) ++ strL [32] ++ strL (reg d) ++ strL [44] ++ strL (reg n) ++ strL [44, 35] ++ strL (num imm) = _
    rw [strL_app, strL_app, strL_app, strL_app, strL_app, strL_app]
    congr 1
    all_goals simp only [printR, Int.reduceEq, or_self, or_true, true_or, or_false, false_or, if_true, if_false, false_and, true_and, and_false, and_true, Int.reduceLE, Int.reduceLT, Int.reduceMod, and_self, reduceIte, num]
    all_goals simp [at!])
  have C0 := Lib.hid (show w.cell? ⟨0, 7, none⟩ = some (.string (strL (names.getD 7 []))) from ht.nm 7 (by decide))
  rw [← hs0] at C0
  clear ht hr hs0
  go_enter Tryd.func10, Tryd.ntmps10
  go_upto_region 1 with fail
  refine to_cls ?_
  intro U0 hU0 y0
  have r_b : ∀ z : Wb U0, Row z.at (w.heap.size) [.int .i64 7, .int .i64 d, .int .i64 n, .int .i64 m, .int .i64 imm, .int .i64 kind] 23 := Row.next (Row.new _ [.int .i64 7, .int .i64 d, .int .i64 n, .int .i64 m, .int .i64 imm, .int .i64 kind] _) hU0
  have KK := Lib.hid (KB.next (KB.alloc (Below.refl _ _) _) hU0)
  clear hU0
  obtain ⟨c_b_0, c_b_1, c_b_2, c_b_3, c_b_4, c_b_5⟩ := six r_b
  have TZ := Lib.hid fun z => TH.out.below (KK.out z)
  have cc0 := keepc KK C0
  go_wp2_with fail
  refine (RI.out _ (TZ.out y0)).mono ?_
  rintro e w1 ⟨rfl, g⟩
  obtain ⟨y1, rfl⟩ := Wb.next (x := y0) g
  clear g
  go_wp2_with fail
  refine to_pt ?_
  intro U2 hU2
  clear c_b_0 c_b_1 c_b_2 c_b_3 c_b_4 c_b_5 cc0
  have r_b : ∀ z : Wb U2, Row z.at (w.heap.size) [.int .i64 7, .int .i64 d, .int .i64 n, .int .i64 m, .int .i64 imm, .int .i64 kind] 23 := Row.next (r_b y1) hU2
  have KK := Lib.hid (KB.next (KK.out y1) hU2)
  clear hU2
  obtain ⟨c_b_0, c_b_1, c_b_2, c_b_3, c_b_4, c_b_5⟩ := six r_b
  have TZ := Lib.hid fun z => TH.out.below (KK.out z)
  have cc0 := keepc KK C0
  refine wp_region_wb (by kernel_rfl) (by kernel_rfl) ?_
  repeat (go_big_quiet_step ((go_at_call 18; exact Calls.wb (RG.out _ (TZ.out _) _ (by first | assumption | decide) (by first | assumption | decide)))))
  refine wpQuiet_nil ?_
  rintro _ ⟨y3, rfl⟩
  go_wp2_with fail
  refine (NU.out _ (TZ.out y3)).mono ?_
  rintro e w1 ⟨rfl, g⟩
  obtain ⟨y4, rfl⟩ := Wb.next (x := y3) g
  clear g
  go_wp2
  go_ret
  exact ⟨by rw [← SA.out]; rfl, KK.out y4⟩

set_option maxRecDepth 100000 in
set_option maxHeartbeats 3200000 in
theorem aprint_13_c (n m imm kind : Int) (w : World) (ht : Tab w) (hr : GrI.right ⟨13, 31, n, m, imm, kind⟩) : Calls Tryd.prog 10 #[.agg #[.int .i64 13, .int .i64 31, .int .i64 n, .int .i64 m, .int .i64 imm, .int .i64 kind]] w fun e w' => e = .returned (.string (strL (printR ⟨13, 31, n, m, imm, kind⟩))) ∧ Below w.heap.size w w' := by
  obtain ⟨b1, b2⟩ := GrI.imm_bd hr
  obtain ⟨dn0, dn1, dn2, dn3, dn4, dn5⟩ := reg_bd hr
  simp only at b1 b2 dn2 dn3 dn4 dn5
  have TH := Lib.hid ht
  have RI := Lib.hid (fun w2 (t2 : Tab w2) => right_yes ⟨13, 31, n, m, imm, kind⟩ w2 t2.sh ⟨b1, b2⟩ (by simpa [encB] using hr))
  have RG := Lib.hid (fun w2 (t2 : Tab w2) (n : Int) (h0 : 0 ≤ n) (h1 : n ≤ 31) => reg_any n w2 t2.tb (by omega) (by omega))
  obtain ⟨z_rn, hz_rn⟩ : ∃ zz, zz = (strL (reg n)).size := ⟨_, rfl⟩
  have e_rn : (strL (reg n)).size = z_rn := hz_rn.symm
  have l_rn : z_rn ≤ 65 := by rw [hz_rn, strL_size]; exact reg_len n
  clear hz_rn
  obtain ⟨z_rm, hz_rm⟩ : ∃ zz, zz = (strL (reg m)).size := ⟨_, rfl⟩
  have e_rm : (strL (reg m)).size = z_rm := hz_rm.symm
  have l_rm : z_rm ≤ 65 := by rw [hz_rm, strL_size]; exact reg_len m
  clear hz_rm
  have N2 : ¬ 9223372036854775807 < 4 + z_rn := by omega
  have N3 : ¬ 9223372036854775807 < 4 + z_rn + 1 := by omega
  have N4 : ¬ 9223372036854775807 < 4 + z_rn + 1 + z_rm := by omega
  have SA := Lib.hid (show (⟨#[67, 77, 80, 32]⟩ ++ strL (reg n) ++ ⟨#[44]⟩ ++ strL (reg m) : ByteArray) = strL (printR ⟨13, 31, n, m, imm, kind⟩) by
    show strL [67, 77, 80, 32] ++ strL (reg n) ++ strL [44] ++ strL (reg m) = _
    rw [strL_app, strL_app, strL_app]
    congr 1
    all_goals simp only [printR, Int.reduceEq, or_self, or_true, true_or, or_false, false_or, if_true, if_false, false_and, true_and, and_false, and_true, Int.reduceLE, Int.reduceLT, Int.reduceMod, and_self, reduceIte]
    all_goals simp [at!])
  obtain ⟨sx, hsx⟩ : ∃ s, s = strL (names.getD 13 []) := ⟨_, rfl⟩
  have hqx : sx.size = 4 := by rw [hsx]; rfl
  have CX := Lib.hid (show w.cell? ⟨0, 13, none⟩ = some (.string (strL (names.getD 13 []))) from ht.nm 13 (by decide))
  rw [← hsx] at CX
  have NX : ¬ 9223372036854775807 < 4 + 1 := by omega
  clear hsx
  clear ht hr
  go_enter Tryd.func10, Tryd.ntmps10
  go_upto_region 1 with fail
  refine to_cls ?_
  intro U0 hU0 y0
  have r_b : ∀ z : Wb U0, Row z.at (w.heap.size) [.int .i64 13, .int .i64 31, .int .i64 n, .int .i64 m, .int .i64 imm, .int .i64 kind] 23 := Row.next (Row.new _ [.int .i64 13, .int .i64 31, .int .i64 n, .int .i64 m, .int .i64 imm, .int .i64 kind] _) hU0
  have KK := Lib.hid (KB.next (KB.alloc (Below.refl _ _) _) hU0)
  clear hU0
  obtain ⟨c_b_0, c_b_1, c_b_2, c_b_3, c_b_4, c_b_5⟩ := six r_b
  have TZ := Lib.hid fun z => TH.out.below (KK.out z)
  have ccX := keepc KK CX
  go_wp2_with fail
  refine (RI.out _ (TZ.out y0)).mono ?_
  rintro e w1 ⟨rfl, g⟩
  obtain ⟨y1, rfl⟩ := Wb.next (x := y0) g
  clear g
  go_wp2_with fail
  refine to_pt ?_
  intro U2 hU2
  clear c_b_0 c_b_1 c_b_2 c_b_3 c_b_4 c_b_5 ccX
  have r_b : ∀ z : Wb U2, Row z.at (w.heap.size) [.int .i64 13, .int .i64 31, .int .i64 n, .int .i64 m, .int .i64 imm, .int .i64 kind] 23 := Row.next (r_b y1) hU2
  have KK := Lib.hid (KB.next (KK.out y1) hU2)
  clear hU2
  obtain ⟨c_b_0, c_b_1, c_b_2, c_b_3, c_b_4, c_b_5⟩ := six r_b
  have TZ := Lib.hid fun z => TH.out.below (KK.out z)
  have ccX := keepc KK CX
  refine wp_region_wb (by kernel_rfl) (by kernel_rfl) ?_
  repeat (go_big_quiet_step ((go_at_call 18; exact Calls.wb (RG.out _ (TZ.out _) _ (by first | assumption | decide) (by first | assumption | decide)))))
  refine wpQuiet_nil ?_
  rintro _ ⟨y3, rfl⟩
  go_wp2
  go_ret
  exact ⟨by rw [← SA.out]; rfl, KK.out y3⟩

set_option maxRecDepth 100000 in
set_option maxHeartbeats 3200000 in
theorem aprint_8 (d n m imm kind : Int) (w : World) (ht : Tab w) (hr : GrI.right ⟨8, d, n, m, imm, kind⟩) : Calls Tryd.prog 10 #[.agg #[.int .i64 8, .int .i64 d, .int .i64 n, .int .i64 m, .int .i64 imm, .int .i64 kind]] w fun e w' => e = .returned (.string (strL (printR ⟨8, d, n, m, imm, kind⟩))) ∧ Below w.heap.size w w' := by
  obtain ⟨b1, b2⟩ := GrI.imm_bd hr
  obtain ⟨dn0, dn1, dn2, dn3, dn4, dn5⟩ := reg_bd hr
  simp only at b1 b2 dn0 dn1 dn2 dn3 dn4 dn5
  have TH := Lib.hid ht
  have RI := Lib.hid (fun w2 (t2 : Tab w2) => right_yes ⟨8, d, n, m, imm, kind⟩ w2 t2.sh ⟨b1, b2⟩ (by simpa [encB] using hr))
  have RG := Lib.hid (fun w2 (t2 : Tab w2) (n : Int) (h0 : 0 ≤ n) (h1 : n ≤ 31) => reg_any n w2 t2.tb (by omega) (by omega))
  obtain ⟨s0, hs0⟩ : ∃ s, s = strL (names.getD 8 []) := ⟨_, rfl⟩
  have hq0 : s0.size = 3 := by rw [hs0]; rfl
  obtain ⟨z_rd, hz_rd⟩ : ∃ zz, zz = (strL (reg d)).size := ⟨_, rfl⟩
  have e_rd : (strL (reg d)).size = z_rd := hz_rd.symm
  have l_rd : z_rd ≤ 65 := by rw [hz_rd, strL_size]; exact reg_len d
  clear hz_rd
  obtain ⟨z_rn, hz_rn⟩ : ∃ zz, zz = (strL (reg n)).size := ⟨_, rfl⟩
  have e_rn : (strL (reg n)).size = z_rn := hz_rn.symm
  have l_rn : z_rn ≤ 65 := by rw [hz_rn, strL_size]; exact reg_len n
  clear hz_rn
  obtain ⟨z_rm, hz_rm⟩ : ∃ zz, zz = (strL (reg m)).size := ⟨_, rfl⟩
  have e_rm : (strL (reg m)).size = z_rm := hz_rm.symm
  have l_rm : z_rm ≤ 65 := by rw [hz_rm, strL_size]; exact reg_len m
  clear hz_rm
  have N2 : ¬ 9223372036854775807 < 4 := by omega
  have N3 : ¬ 9223372036854775807 < 4 + z_rd := by omega
  have M3 : ¬ 9223372036854775807 < 3 + 1 + z_rd := by omega
  have N4 : ¬ 9223372036854775807 < 4 + z_rd + 1 := by omega
  have M4 : ¬ 9223372036854775807 < 3 + 1 + z_rd + 1 := by omega
  have N5 : ¬ 9223372036854775807 < 4 + z_rd + 1 + z_rn := by omega
  have M5 : ¬ 9223372036854775807 < 3 + 1 + z_rd + 1 + z_rn := by omega
  have N6 : ¬ 9223372036854775807 < 4 + z_rd + 1 + z_rn + 1 := by omega
  have M6 : ¬ 9223372036854775807 < 3 + 1 + z_rd + 1 + z_rn + 1 := by omega
  have N7 : ¬ 9223372036854775807 < 4 + z_rd + 1 + z_rn + 1 + z_rm := by omega
  have M7 : ¬ 9223372036854775807 < 3 + 1 + z_rd + 1 + z_rn + 1 + z_rm := by omega
  have SA := Lib.hid (show (s0 ++ ⟨#[32]⟩ ++ strL (reg d) ++ ⟨#[44]⟩ ++ strL (reg n) ++ ⟨#[44]⟩ ++ strL (reg m) : ByteArray) = strL (printR ⟨8, d, n, m, imm, kind⟩) by
    rw [hs0]
    show strL (names.getD 8 []) ++ strL [32] ++ strL (reg d) ++ strL [44] ++ strL (reg n) ++ strL [44] ++ strL (reg m) = _
    rw [strL_app, strL_app, strL_app, strL_app, strL_app, strL_app]
    congr 1
    all_goals simp only [printR, Int.reduceEq, or_self, or_true, true_or, or_false, false_or, if_true, if_false, false_and, true_and, and_false, and_true, Int.reduceLE, Int.reduceLT, Int.reduceMod, and_self, reduceIte]
    all_goals simp [at!])
  have C0 := Lib.hid (show w.cell? ⟨0, 8, none⟩ = some (.string (strL (names.getD 8 []))) from ht.nm 8 (by decide))
  rw [← hs0] at C0
  clear ht hr hs0
  go_enter Tryd.func10, Tryd.ntmps10
  go_upto_region 1 with fail
  refine to_cls ?_
  intro U0 hU0 y0
  have r_b : ∀ z : Wb U0, Row z.at (w.heap.size) [.int .i64 8, .int .i64 d, .int .i64 n, .int .i64 m, .int .i64 imm, .int .i64 kind] 23 := Row.next (Row.new _ [.int .i64 8, .int .i64 d, .int .i64 n, .int .i64 m, .int .i64 imm, .int .i64 kind] _) hU0
  have KK := Lib.hid (KB.next (KB.alloc (Below.refl _ _) _) hU0)
  clear hU0
  obtain ⟨c_b_0, c_b_1, c_b_2, c_b_3, c_b_4, c_b_5⟩ := six r_b
  have TZ := Lib.hid fun z => TH.out.below (KK.out z)
  have cc0 := keepc KK C0
  go_wp2_with fail
  refine (RI.out _ (TZ.out y0)).mono ?_
  rintro e w1 ⟨rfl, g⟩
  obtain ⟨y1, rfl⟩ := Wb.next (x := y0) g
  clear g
  go_wp2_with fail
  refine to_pt ?_
  intro U2 hU2
  clear c_b_0 c_b_1 c_b_2 c_b_3 c_b_4 c_b_5 cc0
  have r_b : ∀ z : Wb U2, Row z.at (w.heap.size) [.int .i64 8, .int .i64 d, .int .i64 n, .int .i64 m, .int .i64 imm, .int .i64 kind] 23 := Row.next (r_b y1) hU2
  have KK := Lib.hid (KB.next (KK.out y1) hU2)
  clear hU2
  obtain ⟨c_b_0, c_b_1, c_b_2, c_b_3, c_b_4, c_b_5⟩ := six r_b
  have TZ := Lib.hid fun z => TH.out.below (KK.out z)
  have cc0 := keepc KK C0
  refine wp_region_wb (by kernel_rfl) (by kernel_rfl) ?_
  repeat (go_big_quiet_step ((go_at_call 18; exact Calls.wb (RG.out _ (TZ.out _) _ (by first | assumption | decide) (by first | assumption | decide)))))
  refine wpQuiet_nil ?_
  rintro _ ⟨y3, rfl⟩
  go_wp2
  go_ret
  exact ⟨by rw [← SA.out]; rfl, KK.out y3⟩

set_option maxRecDepth 100000 in
set_option maxHeartbeats 3200000 in
theorem aprint_9 (d n m imm kind : Int) (w : World) (ht : Tab w) (hr : GrI.right ⟨9, d, n, m, imm, kind⟩) : Calls Tryd.prog 10 #[.agg #[.int .i64 9, .int .i64 d, .int .i64 n, .int .i64 m, .int .i64 imm, .int .i64 kind]] w fun e w' => e = .returned (.string (strL (printR ⟨9, d, n, m, imm, kind⟩))) ∧ Below w.heap.size w w' := by
  obtain ⟨b1, b2⟩ := GrI.imm_bd hr
  obtain ⟨dn0, dn1, dn2, dn3, dn4, dn5⟩ := reg_bd hr
  simp only at b1 b2 dn0 dn1 dn2 dn3 dn4 dn5
  have TH := Lib.hid ht
  have RI := Lib.hid (fun w2 (t2 : Tab w2) => right_yes ⟨9, d, n, m, imm, kind⟩ w2 t2.sh ⟨b1, b2⟩ (by simpa [encB] using hr))
  have RG := Lib.hid (fun w2 (t2 : Tab w2) (n : Int) (h0 : 0 ≤ n) (h1 : n ≤ 31) => reg_any n w2 t2.tb (by omega) (by omega))
  obtain ⟨s0, hs0⟩ : ∃ s, s = strL (names.getD 9 []) := ⟨_, rfl⟩
  have hq0 : s0.size = 3 := by rw [hs0]; rfl
  obtain ⟨z_rd, hz_rd⟩ : ∃ zz, zz = (strL (reg d)).size := ⟨_, rfl⟩
  have e_rd : (strL (reg d)).size = z_rd := hz_rd.symm
  have l_rd : z_rd ≤ 65 := by rw [hz_rd, strL_size]; exact reg_len d
  clear hz_rd
  obtain ⟨z_rn, hz_rn⟩ : ∃ zz, zz = (strL (reg n)).size := ⟨_, rfl⟩
  have e_rn : (strL (reg n)).size = z_rn := hz_rn.symm
  have l_rn : z_rn ≤ 65 := by rw [hz_rn, strL_size]; exact reg_len n
  clear hz_rn
  obtain ⟨z_rm, hz_rm⟩ : ∃ zz, zz = (strL (reg m)).size := ⟨_, rfl⟩
  have e_rm : (strL (reg m)).size = z_rm := hz_rm.symm
  have l_rm : z_rm ≤ 65 := by rw [hz_rm, strL_size]; exact reg_len m
  clear hz_rm
  have N2 : ¬ 9223372036854775807 < 4 := by omega
  have N3 : ¬ 9223372036854775807 < 4 + z_rd := by omega
  have M3 : ¬ 9223372036854775807 < 3 + 1 + z_rd := by omega
  have N4 : ¬ 9223372036854775807 < 4 + z_rd + 1 := by omega
  have M4 : ¬ 9223372036854775807 < 3 + 1 + z_rd + 1 := by omega
  have N5 : ¬ 9223372036854775807 < 4 + z_rd + 1 + z_rn := by omega
  have M5 : ¬ 9223372036854775807 < 3 + 1 + z_rd + 1 + z_rn := by omega
  have N6 : ¬ 9223372036854775807 < 4 + z_rd + 1 + z_rn + 1 := by omega
  have M6 : ¬ 9223372036854775807 < 3 + 1 + z_rd + 1 + z_rn + 1 := by omega
  have N7 : ¬ 9223372036854775807 < 4 + z_rd + 1 + z_rn + 1 + z_rm := by omega
  have M7 : ¬ 9223372036854775807 < 3 + 1 + z_rd + 1 + z_rn + 1 + z_rm := by omega
  have SA := Lib.hid (show (s0 ++ ⟨#[32]⟩ ++ strL (reg d) ++ ⟨#[44]⟩ ++ strL (reg n) ++ ⟨#[44]⟩ ++ strL (reg m) : ByteArray) = strL (printR ⟨9, d, n, m, imm, kind⟩) by
    rw [hs0]
    show strL (names.getD 9 []) ++ strL [32] ++ strL (reg d) ++ strL [44] ++ strL (reg n) ++ strL [44] ++ strL (reg m) = _
    rw [strL_app, strL_app, strL_app, strL_app, strL_app, strL_app]
    congr 1
    all_goals simp only [printR, Int.reduceEq, or_self, or_true, true_or, or_false, false_or, if_true, if_false, false_and, true_and, and_false, and_true, Int.reduceLE, Int.reduceLT, Int.reduceMod, and_self, reduceIte]
    all_goals simp [at!])
  have C0 := Lib.hid (show w.cell? ⟨0, 9, none⟩ = some (.string (strL (names.getD 9 []))) from ht.nm 9 (by decide))
  rw [← hs0] at C0
  clear ht hr hs0
  go_enter Tryd.func10, Tryd.ntmps10
  go_upto_region 1 with fail
  refine to_cls ?_
  intro U0 hU0 y0
  have r_b : ∀ z : Wb U0, Row z.at (w.heap.size) [.int .i64 9, .int .i64 d, .int .i64 n, .int .i64 m, .int .i64 imm, .int .i64 kind] 23 := Row.next (Row.new _ [.int .i64 9, .int .i64 d, .int .i64 n, .int .i64 m, .int .i64 imm, .int .i64 kind] _) hU0
  have KK := Lib.hid (KB.next (KB.alloc (Below.refl _ _) _) hU0)
  clear hU0
  obtain ⟨c_b_0, c_b_1, c_b_2, c_b_3, c_b_4, c_b_5⟩ := six r_b
  have TZ := Lib.hid fun z => TH.out.below (KK.out z)
  have cc0 := keepc KK C0
  go_wp2_with fail
  refine (RI.out _ (TZ.out y0)).mono ?_
  rintro e w1 ⟨rfl, g⟩
  obtain ⟨y1, rfl⟩ := Wb.next (x := y0) g
  clear g
  go_wp2_with fail
  refine to_pt ?_
  intro U2 hU2
  clear c_b_0 c_b_1 c_b_2 c_b_3 c_b_4 c_b_5 cc0
  have r_b : ∀ z : Wb U2, Row z.at (w.heap.size) [.int .i64 9, .int .i64 d, .int .i64 n, .int .i64 m, .int .i64 imm, .int .i64 kind] 23 := Row.next (r_b y1) hU2
  have KK := Lib.hid (KB.next (KK.out y1) hU2)
  clear hU2
  obtain ⟨c_b_0, c_b_1, c_b_2, c_b_3, c_b_4, c_b_5⟩ := six r_b
  have TZ := Lib.hid fun z => TH.out.below (KK.out z)
  have cc0 := keepc KK C0
  refine wp_region_wb (by kernel_rfl) (by kernel_rfl) ?_
  repeat (go_big_quiet_step ((go_at_call 18; exact Calls.wb (RG.out _ (TZ.out _) _ (by first | assumption | decide) (by first | assumption | decide)))))
  refine wpQuiet_nil ?_
  rintro _ ⟨y3, rfl⟩
  go_wp2
  go_ret
  exact ⟨by rw [← SA.out]; rfl, KK.out y3⟩

set_option maxRecDepth 100000 in
set_option maxHeartbeats 3200000 in
theorem aprint_10 (d n m imm kind : Int) (w : World) (ht : Tab w) (hr : GrI.right ⟨10, d, n, m, imm, kind⟩) : Calls Tryd.prog 10 #[.agg #[.int .i64 10, .int .i64 d, .int .i64 n, .int .i64 m, .int .i64 imm, .int .i64 kind]] w fun e w' => e = .returned (.string (strL (printR ⟨10, d, n, m, imm, kind⟩))) ∧ Below w.heap.size w w' := by
  obtain ⟨b1, b2⟩ := GrI.imm_bd hr
  obtain ⟨dn0, dn1, dn2, dn3, dn4, dn5⟩ := reg_bd hr
  simp only at b1 b2 dn0 dn1 dn2 dn3 dn4 dn5
  have TH := Lib.hid ht
  have RI := Lib.hid (fun w2 (t2 : Tab w2) => right_yes ⟨10, d, n, m, imm, kind⟩ w2 t2.sh ⟨b1, b2⟩ (by simpa [encB] using hr))
  have RG := Lib.hid (fun w2 (t2 : Tab w2) (n : Int) (h0 : 0 ≤ n) (h1 : n ≤ 31) => reg_any n w2 t2.tb (by omega) (by omega))
  obtain ⟨s0, hs0⟩ : ∃ s, s = strL (names.getD 10 []) := ⟨_, rfl⟩
  have hq0 : s0.size = 3 := by rw [hs0]; rfl
  obtain ⟨z_rd, hz_rd⟩ : ∃ zz, zz = (strL (reg d)).size := ⟨_, rfl⟩
  have e_rd : (strL (reg d)).size = z_rd := hz_rd.symm
  have l_rd : z_rd ≤ 65 := by rw [hz_rd, strL_size]; exact reg_len d
  clear hz_rd
  obtain ⟨z_rn, hz_rn⟩ : ∃ zz, zz = (strL (reg n)).size := ⟨_, rfl⟩
  have e_rn : (strL (reg n)).size = z_rn := hz_rn.symm
  have l_rn : z_rn ≤ 65 := by rw [hz_rn, strL_size]; exact reg_len n
  clear hz_rn
  obtain ⟨z_rm, hz_rm⟩ : ∃ zz, zz = (strL (reg m)).size := ⟨_, rfl⟩
  have e_rm : (strL (reg m)).size = z_rm := hz_rm.symm
  have l_rm : z_rm ≤ 65 := by rw [hz_rm, strL_size]; exact reg_len m
  clear hz_rm
  have N2 : ¬ 9223372036854775807 < 4 := by omega
  have N3 : ¬ 9223372036854775807 < 4 + z_rd := by omega
  have M3 : ¬ 9223372036854775807 < 3 + 1 + z_rd := by omega
  have N4 : ¬ 9223372036854775807 < 4 + z_rd + 1 := by omega
  have M4 : ¬ 9223372036854775807 < 3 + 1 + z_rd + 1 := by omega
  have N5 : ¬ 9223372036854775807 < 4 + z_rd + 1 + z_rn := by omega
  have M5 : ¬ 9223372036854775807 < 3 + 1 + z_rd + 1 + z_rn := by omega
  have N6 : ¬ 9223372036854775807 < 4 + z_rd + 1 + z_rn + 1 := by omega
  have M6 : ¬ 9223372036854775807 < 3 + 1 + z_rd + 1 + z_rn + 1 := by omega
  have N7 : ¬ 9223372036854775807 < 4 + z_rd + 1 + z_rn + 1 + z_rm := by omega
  have M7 : ¬ 9223372036854775807 < 3 + 1 + z_rd + 1 + z_rn + 1 + z_rm := by omega
  have SA := Lib.hid (show (s0 ++ ⟨#[32]⟩ ++ strL (reg d) ++ ⟨#[44]⟩ ++ strL (reg n) ++ ⟨#[44]⟩ ++ strL (reg m) : ByteArray) = strL (printR ⟨10, d, n, m, imm, kind⟩) by
    rw [hs0]
    show strL (names.getD 10 []) ++ strL [32] ++ strL (reg d) ++ strL [44] ++ strL (reg n) ++ strL [44] ++ strL (reg m) = _
    rw [strL_app, strL_app, strL_app, strL_app, strL_app, strL_app]
    congr 1
    all_goals simp only [printR, Int.reduceEq, or_self, or_true, true_or, or_false, false_or, if_true, if_false, false_and, true_and, and_false, and_true, Int.reduceLE, Int.reduceLT, Int.reduceMod, and_self, reduceIte]
    all_goals simp [at!])
  have C0 := Lib.hid (show w.cell? ⟨0, 10, none⟩ = some (.string (strL (names.getD 10 []))) from ht.nm 10 (by decide))
  rw [← hs0] at C0
  clear ht hr hs0
  go_enter Tryd.func10, Tryd.ntmps10
  go_upto_region 1 with fail
  refine to_cls ?_
  intro U0 hU0 y0
  have r_b : ∀ z : Wb U0, Row z.at (w.heap.size) [.int .i64 10, .int .i64 d, .int .i64 n, .int .i64 m, .int .i64 imm, .int .i64 kind] 23 := Row.next (Row.new _ [.int .i64 10, .int .i64 d, .int .i64 n, .int .i64 m, .int .i64 imm, .int .i64 kind] _) hU0
  have KK := Lib.hid (KB.next (KB.alloc (Below.refl _ _) _) hU0)
  clear hU0
  obtain ⟨c_b_0, c_b_1, c_b_2, c_b_3, c_b_4, c_b_5⟩ := six r_b
  have TZ := Lib.hid fun z => TH.out.below (KK.out z)
  have cc0 := keepc KK C0
  go_wp2_with fail
  refine (RI.out _ (TZ.out y0)).mono ?_
  rintro e w1 ⟨rfl, g⟩
  obtain ⟨y1, rfl⟩ := Wb.next (x := y0) g
  clear g
  go_wp2_with fail
  refine to_pt ?_
  intro U2 hU2
  clear c_b_0 c_b_1 c_b_2 c_b_3 c_b_4 c_b_5 cc0
  have r_b : ∀ z : Wb U2, Row z.at (w.heap.size) [.int .i64 10, .int .i64 d, .int .i64 n, .int .i64 m, .int .i64 imm, .int .i64 kind] 23 := Row.next (r_b y1) hU2
  have KK := Lib.hid (KB.next (KK.out y1) hU2)
  clear hU2
  obtain ⟨c_b_0, c_b_1, c_b_2, c_b_3, c_b_4, c_b_5⟩ := six r_b
  have TZ := Lib.hid fun z => TH.out.below (KK.out z)
  have cc0 := keepc KK C0
  refine wp_region_wb (by kernel_rfl) (by kernel_rfl) ?_
  repeat (go_big_quiet_step ((go_at_call 18; exact Calls.wb (RG.out _ (TZ.out _) _ (by first | assumption | decide) (by first | assumption | decide)))))
  refine wpQuiet_nil ?_
  rintro _ ⟨y3, rfl⟩
  go_wp2
  go_ret
  exact ⟨by rw [← SA.out]; rfl, KK.out y3⟩

set_option maxRecDepth 100000 in
set_option maxHeartbeats 3200000 in
theorem aprint_11 (d n m imm kind : Int) (w : World) (ht : Tab w) (hr : GrI.right ⟨11, d, n, m, imm, kind⟩) : Calls Tryd.prog 10 #[.agg #[.int .i64 11, .int .i64 d, .int .i64 n, .int .i64 m, .int .i64 imm, .int .i64 kind]] w fun e w' => e = .returned (.string (strL (printR ⟨11, d, n, m, imm, kind⟩))) ∧ Below w.heap.size w w' := by
  obtain ⟨b1, b2⟩ := GrI.imm_bd hr
  obtain ⟨dn0, dn1, dn2, dn3, dn4, dn5⟩ := reg_bd hr
  simp only at b1 b2 dn0 dn1 dn2 dn3 dn4 dn5
  have TH := Lib.hid ht
  have RI := Lib.hid (fun w2 (t2 : Tab w2) => right_yes ⟨11, d, n, m, imm, kind⟩ w2 t2.sh ⟨b1, b2⟩ (by simpa [encB] using hr))
  have RG := Lib.hid (fun w2 (t2 : Tab w2) (n : Int) (h0 : 0 ≤ n) (h1 : n ≤ 31) => reg_any n w2 t2.tb (by omega) (by omega))
  obtain ⟨s0, hs0⟩ : ∃ s, s = strL (names.getD 11 []) := ⟨_, rfl⟩
  have hq0 : s0.size = 3 := by rw [hs0]; rfl
  obtain ⟨z_rd, hz_rd⟩ : ∃ zz, zz = (strL (reg d)).size := ⟨_, rfl⟩
  have e_rd : (strL (reg d)).size = z_rd := hz_rd.symm
  have l_rd : z_rd ≤ 65 := by rw [hz_rd, strL_size]; exact reg_len d
  clear hz_rd
  obtain ⟨z_rn, hz_rn⟩ : ∃ zz, zz = (strL (reg n)).size := ⟨_, rfl⟩
  have e_rn : (strL (reg n)).size = z_rn := hz_rn.symm
  have l_rn : z_rn ≤ 65 := by rw [hz_rn, strL_size]; exact reg_len n
  clear hz_rn
  obtain ⟨z_rm, hz_rm⟩ : ∃ zz, zz = (strL (reg m)).size := ⟨_, rfl⟩
  have e_rm : (strL (reg m)).size = z_rm := hz_rm.symm
  have l_rm : z_rm ≤ 65 := by rw [hz_rm, strL_size]; exact reg_len m
  clear hz_rm
  have N2 : ¬ 9223372036854775807 < 4 := by omega
  have N3 : ¬ 9223372036854775807 < 4 + z_rd := by omega
  have M3 : ¬ 9223372036854775807 < 3 + 1 + z_rd := by omega
  have N4 : ¬ 9223372036854775807 < 4 + z_rd + 1 := by omega
  have M4 : ¬ 9223372036854775807 < 3 + 1 + z_rd + 1 := by omega
  have N5 : ¬ 9223372036854775807 < 4 + z_rd + 1 + z_rn := by omega
  have M5 : ¬ 9223372036854775807 < 3 + 1 + z_rd + 1 + z_rn := by omega
  have N6 : ¬ 9223372036854775807 < 4 + z_rd + 1 + z_rn + 1 := by omega
  have M6 : ¬ 9223372036854775807 < 3 + 1 + z_rd + 1 + z_rn + 1 := by omega
  have N7 : ¬ 9223372036854775807 < 4 + z_rd + 1 + z_rn + 1 + z_rm := by omega
  have M7 : ¬ 9223372036854775807 < 3 + 1 + z_rd + 1 + z_rn + 1 + z_rm := by omega
  have SA := Lib.hid (show (s0 ++ ⟨#[32]⟩ ++ strL (reg d) ++ ⟨#[44]⟩ ++ strL (reg n) ++ ⟨#[44]⟩ ++ strL (reg m) : ByteArray) = strL (printR ⟨11, d, n, m, imm, kind⟩) by
    rw [hs0]
    show strL (names.getD 11 []) ++ strL [32] ++ strL (reg d) ++ strL [44] ++ strL (reg n) ++ strL [44] ++ strL (reg m) = _
    rw [strL_app, strL_app, strL_app, strL_app, strL_app, strL_app]
    congr 1
    all_goals simp only [printR, Int.reduceEq, or_self, or_true, true_or, or_false, false_or, if_true, if_false, false_and, true_and, and_false, and_true, Int.reduceLE, Int.reduceLT, Int.reduceMod, and_self, reduceIte]
    all_goals simp [at!])
  have C0 := Lib.hid (show w.cell? ⟨0, 11, none⟩ = some (.string (strL (names.getD 11 []))) from ht.nm 11 (by decide))
  rw [← hs0] at C0
  clear ht hr hs0
  go_enter Tryd.func10, Tryd.ntmps10
  go_upto_region 1 with fail
  refine to_cls ?_
  intro U0 hU0 y0
  have r_b : ∀ z : Wb U0, Row z.at (w.heap.size) [.int .i64 11, .int .i64 d, .int .i64 n, .int .i64 m, .int .i64 imm, .int .i64 kind] 23 := Row.next (Row.new _ [.int .i64 11, .int .i64 d, .int .i64 n, .int .i64 m, .int .i64 imm, .int .i64 kind] _) hU0
  have KK := Lib.hid (KB.next (KB.alloc (Below.refl _ _) _) hU0)
  clear hU0
  obtain ⟨c_b_0, c_b_1, c_b_2, c_b_3, c_b_4, c_b_5⟩ := six r_b
  have TZ := Lib.hid fun z => TH.out.below (KK.out z)
  have cc0 := keepc KK C0
  go_wp2_with fail
  refine (RI.out _ (TZ.out y0)).mono ?_
  rintro e w1 ⟨rfl, g⟩
  obtain ⟨y1, rfl⟩ := Wb.next (x := y0) g
  clear g
  go_wp2_with fail
  refine to_pt ?_
  intro U2 hU2
  clear c_b_0 c_b_1 c_b_2 c_b_3 c_b_4 c_b_5 cc0
  have r_b : ∀ z : Wb U2, Row z.at (w.heap.size) [.int .i64 11, .int .i64 d, .int .i64 n, .int .i64 m, .int .i64 imm, .int .i64 kind] 23 := Row.next (r_b y1) hU2
  have KK := Lib.hid (KB.next (KK.out y1) hU2)
  clear hU2
  obtain ⟨c_b_0, c_b_1, c_b_2, c_b_3, c_b_4, c_b_5⟩ := six r_b
  have TZ := Lib.hid fun z => TH.out.below (KK.out z)
  have cc0 := keepc KK C0
  refine wp_region_wb (by kernel_rfl) (by kernel_rfl) ?_
  repeat (go_big_quiet_step ((go_at_call 18; exact Calls.wb (RG.out _ (TZ.out _) _ (by first | assumption | decide) (by first | assumption | decide)))))
  refine wpQuiet_nil ?_
  rintro _ ⟨y3, rfl⟩
  go_wp2
  go_ret
  exact ⟨by rw [← SA.out]; rfl, KK.out y3⟩

set_option maxRecDepth 100000 in
set_option maxHeartbeats 3200000 in
theorem aprint_12 (d n m imm kind : Int) (w : World) (ht : Tab w) (hr : GrI.right ⟨12, d, n, m, imm, kind⟩) : Calls Tryd.prog 10 #[.agg #[.int .i64 12, .int .i64 d, .int .i64 n, .int .i64 m, .int .i64 imm, .int .i64 kind]] w fun e w' => e = .returned (.string (strL (printR ⟨12, d, n, m, imm, kind⟩))) ∧ Below w.heap.size w w' := by
  obtain ⟨b1, b2⟩ := GrI.imm_bd hr
  obtain ⟨dn0, dn1, dn2, dn3, dn4, dn5⟩ := reg_bd hr
  simp only at b1 b2 dn0 dn1 dn2 dn3 dn4 dn5
  have TH := Lib.hid ht
  have RI := Lib.hid (fun w2 (t2 : Tab w2) => right_yes ⟨12, d, n, m, imm, kind⟩ w2 t2.sh ⟨b1, b2⟩ (by simpa [encB] using hr))
  have RG := Lib.hid (fun w2 (t2 : Tab w2) (n : Int) (h0 : 0 ≤ n) (h1 : n ≤ 31) => reg_any n w2 t2.tb (by omega) (by omega))
  obtain ⟨s0, hs0⟩ : ∃ s, s = strL (names.getD 12 []) := ⟨_, rfl⟩
  have hq0 : s0.size = 3 := by rw [hs0]; rfl
  obtain ⟨z_rd, hz_rd⟩ : ∃ zz, zz = (strL (reg d)).size := ⟨_, rfl⟩
  have e_rd : (strL (reg d)).size = z_rd := hz_rd.symm
  have l_rd : z_rd ≤ 65 := by rw [hz_rd, strL_size]; exact reg_len d
  clear hz_rd
  obtain ⟨z_rn, hz_rn⟩ : ∃ zz, zz = (strL (reg n)).size := ⟨_, rfl⟩
  have e_rn : (strL (reg n)).size = z_rn := hz_rn.symm
  have l_rn : z_rn ≤ 65 := by rw [hz_rn, strL_size]; exact reg_len n
  clear hz_rn
  obtain ⟨z_rm, hz_rm⟩ : ∃ zz, zz = (strL (reg m)).size := ⟨_, rfl⟩
  have e_rm : (strL (reg m)).size = z_rm := hz_rm.symm
  have l_rm : z_rm ≤ 65 := by rw [hz_rm, strL_size]; exact reg_len m
  clear hz_rm
  have N2 : ¬ 9223372036854775807 < 4 := by omega
  have N3 : ¬ 9223372036854775807 < 4 + z_rd := by omega
  have M3 : ¬ 9223372036854775807 < 3 + 1 + z_rd := by omega
  have N4 : ¬ 9223372036854775807 < 4 + z_rd + 1 := by omega
  have M4 : ¬ 9223372036854775807 < 3 + 1 + z_rd + 1 := by omega
  have N5 : ¬ 9223372036854775807 < 4 + z_rd + 1 + z_rn := by omega
  have M5 : ¬ 9223372036854775807 < 3 + 1 + z_rd + 1 + z_rn := by omega
  have N6 : ¬ 9223372036854775807 < 4 + z_rd + 1 + z_rn + 1 := by omega
  have M6 : ¬ 9223372036854775807 < 3 + 1 + z_rd + 1 + z_rn + 1 := by omega
  have N7 : ¬ 9223372036854775807 < 4 + z_rd + 1 + z_rn + 1 + z_rm := by omega
  have M7 : ¬ 9223372036854775807 < 3 + 1 + z_rd + 1 + z_rn + 1 + z_rm := by omega
  have SA := Lib.hid (show (s0 ++ ⟨#[32]⟩ ++ strL (reg d) ++ ⟨#[44]⟩ ++ strL (reg n) ++ ⟨#[44]⟩ ++ strL (reg m) : ByteArray) = strL (printR ⟨12, d, n, m, imm, kind⟩) by
    rw [hs0]
    show strL (names.getD 12 []) ++ strL [32] ++ strL (reg d) ++ strL [44] ++ strL (reg n) ++ strL [44] ++ strL (reg m) = _
    rw [strL_app, strL_app, strL_app, strL_app, strL_app, strL_app]
    congr 1
    all_goals simp only [printR, Int.reduceEq, or_self, or_true, true_or, or_false, false_or, if_true, if_false, false_and, true_and, and_false, and_true, Int.reduceLE, Int.reduceLT, Int.reduceMod, and_self, reduceIte]
    all_goals simp [at!])
  have C0 := Lib.hid (show w.cell? ⟨0, 12, none⟩ = some (.string (strL (names.getD 12 []))) from ht.nm 12 (by decide))
  rw [← hs0] at C0
  clear ht hr hs0
  go_enter Tryd.func10, Tryd.ntmps10
  go_upto_region 1 with fail
  refine to_cls ?_
  intro U0 hU0 y0
  have r_b : ∀ z : Wb U0, Row z.at (w.heap.size) [.int .i64 12, .int .i64 d, .int .i64 n, .int .i64 m, .int .i64 imm, .int .i64 kind] 23 := Row.next (Row.new _ [.int .i64 12, .int .i64 d, .int .i64 n, .int .i64 m, .int .i64 imm, .int .i64 kind] _) hU0
  have KK := Lib.hid (KB.next (KB.alloc (Below.refl _ _) _) hU0)
  clear hU0
  obtain ⟨c_b_0, c_b_1, c_b_2, c_b_3, c_b_4, c_b_5⟩ := six r_b
  have TZ := Lib.hid fun z => TH.out.below (KK.out z)
  have cc0 := keepc KK C0
  go_wp2_with fail
  refine (RI.out _ (TZ.out y0)).mono ?_
  rintro e w1 ⟨rfl, g⟩
  obtain ⟨y1, rfl⟩ := Wb.next (x := y0) g
  clear g
  go_wp2_with fail
  refine to_pt ?_
  intro U2 hU2
  clear c_b_0 c_b_1 c_b_2 c_b_3 c_b_4 c_b_5 cc0
  have r_b : ∀ z : Wb U2, Row z.at (w.heap.size) [.int .i64 12, .int .i64 d, .int .i64 n, .int .i64 m, .int .i64 imm, .int .i64 kind] 23 := Row.next (r_b y1) hU2
  have KK := Lib.hid (KB.next (KK.out y1) hU2)
  clear hU2
  obtain ⟨c_b_0, c_b_1, c_b_2, c_b_3, c_b_4, c_b_5⟩ := six r_b
  have TZ := Lib.hid fun z => TH.out.below (KK.out z)
  have cc0 := keepc KK C0
  refine wp_region_wb (by kernel_rfl) (by kernel_rfl) ?_
  repeat (go_big_quiet_step ((go_at_call 18; exact Calls.wb (RG.out _ (TZ.out _) _ (by first | assumption | decide) (by first | assumption | decide)))))
  refine wpQuiet_nil ?_
  rintro _ ⟨y3, rfl⟩
  go_wp2
  go_ret
  exact ⟨by rw [← SA.out]; rfl, KK.out y3⟩

set_option maxRecDepth 100000 in
set_option maxHeartbeats 3200000 in
theorem aprint_13_n (d n m imm kind : Int) (w : World) (ht : Tab w) (hr : GrI.right ⟨13, d, n, m, imm, kind⟩) (h31 : ¬ d = 31) : Calls Tryd.prog 10 #[.agg #[.int .i64 13, .int .i64 d, .int .i64 n, .int .i64 m, .int .i64 imm, .int .i64 kind]] w fun e w' => e = .returned (.string (strL (printR ⟨13, d, n, m, imm, kind⟩))) ∧ Below w.heap.size w w' := by
  obtain ⟨b1, b2⟩ := GrI.imm_bd hr
  obtain ⟨dn0, dn1, dn2, dn3, dn4, dn5⟩ := reg_bd hr
  simp only at b1 b2 dn0 dn1 dn2 dn3 dn4 dn5
  have TH := Lib.hid ht
  have RI := Lib.hid (fun w2 (t2 : Tab w2) => right_yes ⟨13, d, n, m, imm, kind⟩ w2 t2.sh ⟨b1, b2⟩ (by simpa [encB] using hr))
  have RG := Lib.hid (fun w2 (t2 : Tab w2) (n : Int) (h0 : 0 ≤ n) (h1 : n ≤ 31) => reg_any n w2 t2.tb (by omega) (by omega))
  obtain ⟨s0, hs0⟩ : ∃ s, s = strL (names.getD 13 []) := ⟨_, rfl⟩
  have hq0 : s0.size = 4 := by rw [hs0]; rfl
  obtain ⟨z_rd, hz_rd⟩ : ∃ zz, zz = (strL (reg d)).size := ⟨_, rfl⟩
  have e_rd : (strL (reg d)).size = z_rd := hz_rd.symm
  have l_rd : z_rd ≤ 65 := by rw [hz_rd, strL_size]; exact reg_len d
  clear hz_rd
  obtain ⟨z_rn, hz_rn⟩ : ∃ zz, zz = (strL (reg n)).size := ⟨_, rfl⟩
  have e_rn : (strL (reg n)).size = z_rn := hz_rn.symm
  have l_rn : z_rn ≤ 65 := by rw [hz_rn, strL_size]; exact reg_len n
  clear hz_rn
  obtain ⟨z_rm, hz_rm⟩ : ∃ zz, zz = (strL (reg m)).size := ⟨_, rfl⟩
  have e_rm : (strL (reg m)).size = z_rm := hz_rm.symm
  have l_rm : z_rm ≤ 65 := by rw [hz_rm, strL_size]; exact reg_len m
  clear hz_rm
  have N2 : ¬ 9223372036854775807 < 5 := by omega
  have N3 : ¬ 9223372036854775807 < 5 + z_rd := by omega
  have M3 : ¬ 9223372036854775807 < 4 + 1 + z_rd := by omega
  have N4 : ¬ 9223372036854775807 < 5 + z_rd + 1 := by omega
  have M4 : ¬ 9223372036854775807 < 4 + 1 + z_rd + 1 := by omega
  have N5 : ¬ 9223372036854775807 < 5 + z_rd + 1 + z_rn := by omega
  have M5 : ¬ 9223372036854775807 < 4 + 1 + z_rd + 1 + z_rn := by omega
  have N6 : ¬ 9223372036854775807 < 5 + z_rd + 1 + z_rn + 1 := by omega
  have M6 : ¬ 9223372036854775807 < 4 + 1 + z_rd + 1 + z_rn + 1 := by omega
  have N7 : ¬ 9223372036854775807 < 5 + z_rd + 1 + z_rn + 1 + z_rm := by omega
  have M7 : ¬ 9223372036854775807 < 4 + 1 + z_rd + 1 + z_rn + 1 + z_rm := by omega
  have SA := Lib.hid (show (s0 ++ ⟨#[32]⟩ ++ strL (reg d) ++ ⟨#[44]⟩ ++ strL (reg n) ++ ⟨#[44]⟩ ++ strL (reg m) : ByteArray) = strL (printR ⟨13, d, n, m, imm, kind⟩) by
    rw [hs0]
    show strL (names.getD 13 []) ++ strL [32] ++ strL (reg d) ++ strL [44] ++ strL (reg n) ++ strL [44] ++ strL (reg m) = _
    rw [strL_app, strL_app, strL_app, strL_app, strL_app, strL_app]
    congr 1
    all_goals simp only [printR, Int.reduceEq, or_self, or_true, true_or, or_false, false_or, if_true, if_false, false_and, true_and, and_false, and_true, Int.reduceLE, Int.reduceLT, Int.reduceMod, and_self, reduceIte, h31]
    all_goals simp [at!])
  have C0 := Lib.hid (show w.cell? ⟨0, 13, none⟩ = some (.string (strL (names.getD 13 []))) from ht.nm 13 (by decide))
  rw [← hs0] at C0
  clear ht hr hs0
  have g1 : (d == 31) = false := by simpa using h31
  go_enter Tryd.func10, Tryd.ntmps10
  go_upto_region 1 with fail
  refine to_cls ?_
  intro U0 hU0 y0
  have r_b : ∀ z : Wb U0, Row z.at (w.heap.size) [.int .i64 13, .int .i64 d, .int .i64 n, .int .i64 m, .int .i64 imm, .int .i64 kind] 23 := Row.next (Row.new _ [.int .i64 13, .int .i64 d, .int .i64 n, .int .i64 m, .int .i64 imm, .int .i64 kind] _) hU0
  have KK := Lib.hid (KB.next (KB.alloc (Below.refl _ _) _) hU0)
  clear hU0
  obtain ⟨c_b_0, c_b_1, c_b_2, c_b_3, c_b_4, c_b_5⟩ := six r_b
  have TZ := Lib.hid fun z => TH.out.below (KK.out z)
  have cc0 := keepc KK C0
  go_wp2_with fail
  refine (RI.out _ (TZ.out y0)).mono ?_
  rintro e w1 ⟨rfl, g⟩
  obtain ⟨y1, rfl⟩ := Wb.next (x := y0) g
  clear g
  go_wp2_with fail
  refine to_pt ?_
  intro U2 hU2
  clear c_b_0 c_b_1 c_b_2 c_b_3 c_b_4 c_b_5 cc0
  have r_b : ∀ z : Wb U2, Row z.at (w.heap.size) [.int .i64 13, .int .i64 d, .int .i64 n, .int .i64 m, .int .i64 imm, .int .i64 kind] 23 := Row.next (r_b y1) hU2
  have KK := Lib.hid (KB.next (KK.out y1) hU2)
  clear hU2
  obtain ⟨c_b_0, c_b_1, c_b_2, c_b_3, c_b_4, c_b_5⟩ := six r_b
  have TZ := Lib.hid fun z => TH.out.below (KK.out z)
  have cc0 := keepc KK C0
  refine wp_region_wb (by kernel_rfl) (by kernel_rfl) ?_
  repeat (go_big_quiet_step ((go_at_call 18; exact Calls.wb (RG.out _ (TZ.out _) _ (by first | assumption | decide) (by first | assumption | decide)))))
  refine wpQuiet_nil ?_
  rintro _ ⟨y3, rfl⟩
  go_wp2
  go_ret
  exact ⟨by rw [← SA.out]; rfl, KK.out y3⟩

set_option maxRecDepth 100000 in
set_option maxHeartbeats 3200000 in
theorem aprint_14 (d n m imm kind : Int) (w : World) (ht : Tab w) (hr : GrI.right ⟨14, d, n, m, imm, kind⟩) : Calls Tryd.prog 10 #[.agg #[.int .i64 14, .int .i64 d, .int .i64 n, .int .i64 m, .int .i64 imm, .int .i64 kind]] w fun e w' => e = .returned (.string (strL (printR ⟨14, d, n, m, imm, kind⟩))) ∧ Below w.heap.size w w' := by
  obtain ⟨b1, b2⟩ := GrI.imm_bd hr
  obtain ⟨dn0, dn1, dn2, dn3, dn4, dn5⟩ := reg_bd hr
  simp only at b1 b2 dn0 dn1 dn2 dn3 dn4 dn5
  have TH := Lib.hid ht
  have RI := Lib.hid (fun w2 (t2 : Tab w2) => right_yes ⟨14, d, n, m, imm, kind⟩ w2 t2.sh ⟨b1, b2⟩ (by simpa [encB] using hr))
  have RG := Lib.hid (fun w2 (t2 : Tab w2) (n : Int) (h0 : 0 ≤ n) (h1 : n ≤ 31) => reg_any n w2 t2.tb (by omega) (by omega))
  have TO := Lib.hid (fun w2 (t2 : Tab w2) => to_any imm w2 t2.tb b1 b2)
  obtain ⟨s0, hs0⟩ : ∃ s, s = strL (names.getD 14 []) := ⟨_, rfl⟩
  have hq0 : s0.size = 1 := by rw [hs0]; rfl
  obtain ⟨z_to, hz_to⟩ : ∃ zz, zz = (strL (toT imm)).size := ⟨_, rfl⟩
  have e_to : (strL (toT imm)).size = z_to := hz_to.symm
  have l_to : z_to ≤ 67 := by rw [hz_to, strL_size]; exact toT_len b1 b2
  clear hz_to
  have N2 : ¬ 9223372036854775807 < 2 := by omega
  have N3 : ¬ 9223372036854775807 < 2 + z_to := by omega
  have M3 : ¬ 9223372036854775807 < 1 + 1 + z_to := by omega
  have SA := Lib.hid (show (s0 ++ ⟨#[32]⟩ ++ strL (toT imm) : ByteArray) = strL (printR ⟨14, d, n, m, imm, kind⟩) by
    rw [hs0]
    show strL (names.getD 14 []) ++ strL [32] ++ strL (toT imm) = _
    rw [strL_app, strL_app]
    congr 1
    all_goals simp only [printR, Int.reduceEq, or_self, or_true, true_or, or_false, false_or, if_true, if_false, false_and, true_and, and_false, and_true, Int.reduceLE, Int.reduceLT, Int.reduceMod, and_self, reduceIte]
    all_goals simp [at!])
  have C0 := Lib.hid (show w.cell? ⟨0, 14, none⟩ = some (.string (strL (names.getD 14 []))) from ht.nm 14 (by decide))
  rw [← hs0] at C0
  clear ht hr hs0
  go_enter Tryd.func10, Tryd.ntmps10
  go_upto_region 1 with fail
  refine to_cls ?_
  intro U0 hU0 y0
  have r_b : ∀ z : Wb U0, Row z.at (w.heap.size) [.int .i64 14, .int .i64 d, .int .i64 n, .int .i64 m, .int .i64 imm, .int .i64 kind] 23 := Row.next (Row.new _ [.int .i64 14, .int .i64 d, .int .i64 n, .int .i64 m, .int .i64 imm, .int .i64 kind] _) hU0
  have KK := Lib.hid (KB.next (KB.alloc (Below.refl _ _) _) hU0)
  clear hU0
  obtain ⟨c_b_0, c_b_1, c_b_2, c_b_3, c_b_4, c_b_5⟩ := six r_b
  have TZ := Lib.hid fun z => TH.out.below (KK.out z)
  have cc0 := keepc KK C0
  go_wp2_with fail
  refine (RI.out _ (TZ.out y0)).mono ?_
  rintro e w1 ⟨rfl, g⟩
  obtain ⟨y1, rfl⟩ := Wb.next (x := y0) g
  clear g
  go_wp2_with fail
  refine to_pt ?_
  intro U2 hU2
  clear c_b_0 c_b_1 c_b_2 c_b_3 c_b_4 c_b_5 cc0
  have r_b : ∀ z : Wb U2, Row z.at (w.heap.size) [.int .i64 14, .int .i64 d, .int .i64 n, .int .i64 m, .int .i64 imm, .int .i64 kind] 23 := Row.next (r_b y1) hU2
  have KK := Lib.hid (KB.next (KK.out y1) hU2)
  clear hU2
  obtain ⟨c_b_0, c_b_1, c_b_2, c_b_3, c_b_4, c_b_5⟩ := six r_b
  have TZ := Lib.hid fun z => TH.out.below (KK.out z)
  have cc0 := keepc KK C0
  refine wp_region_wb (by kernel_rfl) (by kernel_rfl) ?_
  repeat (go_big_quiet_step ((go_at_call 18; exact Calls.wb (RG.out _ (TZ.out _) _ (by first | assumption | decide) (by first | assumption | decide)))))
  refine wpQuiet_nil ?_
  rintro _ ⟨y3, rfl⟩
  go_wp2_with fail
  refine (TO.out _ (TZ.out y3)).mono ?_
  rintro e w1 ⟨rfl, g⟩
  obtain ⟨y4, rfl⟩ := Wb.next (x := y3) g
  clear g
  go_wp2
  go_ret
  exact ⟨by rw [← SA.out]; rfl, KK.out y4⟩

set_option maxRecDepth 100000 in
set_option maxHeartbeats 3200000 in
theorem aprint_1 (d n m imm kind : Int) (w : World) (ht : Tab w) (hr : GrI.right ⟨1, d, n, m, imm, kind⟩) : Calls Tryd.prog 10 #[.agg #[.int .i64 1, .int .i64 d, .int .i64 n, .int .i64 m, .int .i64 imm, .int .i64 kind]] w fun e w' => e = .returned (.string (strL (printR ⟨1, d, n, m, imm, kind⟩))) ∧ Below w.heap.size w w' := by
  obtain ⟨b1, b2⟩ := GrI.imm_bd hr
  obtain ⟨dn0, dn1, dn2, dn3, dn4, dn5⟩ := reg_bd hr
  simp only at b1 b2 dn0 dn1 dn2 dn3 dn4 dn5
  have TH := Lib.hid ht
  have RI := Lib.hid (fun w2 (t2 : Tab w2) => right_yes ⟨1, d, n, m, imm, kind⟩ w2 t2.sh ⟨b1, b2⟩ (by simpa [encB] using hr))
  have RG := Lib.hid (fun w2 (t2 : Tab w2) (n : Int) (h0 : 0 ≤ n) (h1 : n ≤ 31) => reg_any n w2 t2.tb (by omega) (by omega))
  have NY : ¬ 9223372036854775807 < 3 + 1 := by omega
  obtain ⟨s0, hs0⟩ : ∃ s, s = strL (names.getD 1 []) := ⟨_, rfl⟩
  have hq0 : s0.size = 3 := by rw [hs0]; rfl
  have SA := Lib.hid (show (s0 : ByteArray) = strL (printR ⟨1, d, n, m, imm, kind⟩) by
    rw [hs0]
    show strL (names.getD 1 []) = _
    congr 1
    all_goals simp only [printR, Int.reduceEq, or_self, or_true, true_or, or_false, false_or, if_true, if_false, false_and, true_and, and_false, and_true, Int.reduceLE, Int.reduceLT, Int.reduceMod, and_self, reduceIte]
    all_goals simp [at!])
  have C0 := Lib.hid (show w.cell? ⟨0, 1, none⟩ = some (.string (strL (names.getD 1 []))) from ht.nm 1 (by decide))
  rw [← hs0] at C0
  clear ht hr hs0
  go_enter Tryd.func10, Tryd.ntmps10
  go_upto_region 1 with fail
  refine to_cls ?_
  intro U0 hU0 y0
  have r_b : ∀ z : Wb U0, Row z.at (w.heap.size) [.int .i64 1, .int .i64 d, .int .i64 n, .int .i64 m, .int .i64 imm, .int .i64 kind] 23 := Row.next (Row.new _ [.int .i64 1, .int .i64 d, .int .i64 n, .int .i64 m, .int .i64 imm, .int .i64 kind] _) hU0
  have KK := Lib.hid (KB.next (KB.alloc (Below.refl _ _) _) hU0)
  clear hU0
  obtain ⟨c_b_0, c_b_1, c_b_2, c_b_3, c_b_4, c_b_5⟩ := six r_b
  have TZ := Lib.hid fun z => TH.out.below (KK.out z)
  have cc0 := keepc KK C0
  go_wp2_with fail
  refine (RI.out _ (TZ.out y0)).mono ?_
  rintro e w1 ⟨rfl, g⟩
  obtain ⟨y1, rfl⟩ := Wb.next (x := y0) g
  clear g
  go_wp2_with fail
  refine to_pt ?_
  intro U2 hU2
  clear c_b_0 c_b_1 c_b_2 c_b_3 c_b_4 c_b_5 cc0
  have r_b : ∀ z : Wb U2, Row z.at (w.heap.size) [.int .i64 1, .int .i64 d, .int .i64 n, .int .i64 m, .int .i64 imm, .int .i64 kind] 23 := Row.next (r_b y1) hU2
  have KK := Lib.hid (KB.next (KK.out y1) hU2)
  clear hU2
  obtain ⟨c_b_0, c_b_1, c_b_2, c_b_3, c_b_4, c_b_5⟩ := six r_b
  have TZ := Lib.hid fun z => TH.out.below (KK.out z)
  have cc0 := keepc KK C0
  refine wp_region_wb (by kernel_rfl) (by kernel_rfl) ?_
  repeat (go_big_quiet_step ((go_at_call 18; exact Calls.wb (RG.out _ (TZ.out _) _ (by first | assumption | decide) (by first | assumption | decide)))))
  refine wpQuiet_nil ?_
  rintro _ ⟨y3, rfl⟩
  go_wp2
  go_ret
  exact ⟨by rw [← SA.out]; rfl, KK.out y3⟩

set_option maxRecDepth 100000 in
set_option maxHeartbeats 3200000 in
theorem aprint_6 (d n m imm kind : Int) (w : World) (ht : Tab w) (hr : GrI.right ⟨6, d, n, m, imm, kind⟩) : Calls Tryd.prog 10 #[.agg #[.int .i64 6, .int .i64 d, .int .i64 n, .int .i64 m, .int .i64 imm, .int .i64 kind]] w fun e w' => e = .returned (.string (strL (printR ⟨6, d, n, m, imm, kind⟩))) ∧ Below w.heap.size w w' := by
  obtain ⟨b1, b2⟩ := GrI.imm_bd hr
  obtain ⟨dn0, dn1, dn2, dn3, dn4, dn5⟩ := reg_bd hr
  simp only at b1 b2 dn0 dn1 dn2 dn3 dn4 dn5
  have TH := Lib.hid ht
  have RI := Lib.hid (fun w2 (t2 : Tab w2) => right_yes ⟨6, d, n, m, imm, kind⟩ w2 t2.sh ⟨b1, b2⟩ (by simpa [encB] using hr))
  have RG := Lib.hid (fun w2 (t2 : Tab w2) (n : Int) (h0 : 0 ≤ n) (h1 : n ≤ 31) => reg_any n w2 t2.tb (by omega) (by omega))
  have MV := Lib.hid (fun w2 (t2 : Tab w2) => amove_any d n m imm kind w2 t2 hr)
  obtain ⟨sx, hsx⟩ : ∃ s, s = strL (names.getD 6 []) := ⟨_, rfl⟩
  have hqx : sx.size = 3 := by rw [hsx]; rfl
  have CX := Lib.hid (show w.cell? ⟨0, 6, none⟩ = some (.string (strL (names.getD 6 []))) from ht.nm 6 (by decide))
  rw [← hsx] at CX
  have NX : ¬ 9223372036854775807 < 3 + 1 := by omega
  clear hsx
  clear ht hr
  go_enter Tryd.func10, Tryd.ntmps10
  go_upto_region 1 with fail
  refine to_cls ?_
  intro U0 hU0 y0
  have r_b : ∀ z : Wb U0, Row z.at (w.heap.size) [.int .i64 6, .int .i64 d, .int .i64 n, .int .i64 m, .int .i64 imm, .int .i64 kind] 23 := Row.next (Row.new _ [.int .i64 6, .int .i64 d, .int .i64 n, .int .i64 m, .int .i64 imm, .int .i64 kind] _) hU0
  have KK := Lib.hid (KB.next (KB.alloc (Below.refl _ _) _) hU0)
  clear hU0
  obtain ⟨c_b_0, c_b_1, c_b_2, c_b_3, c_b_4, c_b_5⟩ := six r_b
  have TZ := Lib.hid fun z => TH.out.below (KK.out z)
  have ccX := keepc KK CX
  go_wp2_with fail
  refine (RI.out _ (TZ.out y0)).mono ?_
  rintro e w1 ⟨rfl, g⟩
  obtain ⟨y1, rfl⟩ := Wb.next (x := y0) g
  clear g
  go_wp2_with fail
  refine to_pt ?_
  intro U2 hU2
  clear c_b_0 c_b_1 c_b_2 c_b_3 c_b_4 c_b_5 ccX
  have r_b : ∀ z : Wb U2, Row z.at (w.heap.size) [.int .i64 6, .int .i64 d, .int .i64 n, .int .i64 m, .int .i64 imm, .int .i64 kind] 23 := Row.next (r_b y1) hU2
  have KK := Lib.hid (KB.next (KK.out y1) hU2)
  clear hU2
  obtain ⟨c_b_0, c_b_1, c_b_2, c_b_3, c_b_4, c_b_5⟩ := six r_b
  have TZ := Lib.hid fun z => TH.out.below (KK.out z)
  have ccX := keepc KK CX
  refine wp_region_wb (by kernel_rfl) (by kernel_rfl) ?_
  repeat (go_big_quiet_step ((go_at_call 18; exact Calls.wb (RG.out _ (TZ.out _) _ (by first | assumption | decide) (by first | assumption | decide)))))
  refine wpQuiet_nil ?_
  rintro _ ⟨y3, rfl⟩
  go_wp2_with fail
  refine (MV.out _ (TZ.out y3)).mono ?_
  rintro e w1 ⟨rfl, g⟩
  obtain ⟨y4, rfl⟩ := Wb.next (x := y3) g
  clear g
  go_wp2
  go_ret
  exact ⟨rfl, KK.out y4⟩

end Go.Proofs.YtebpmngllljkaaaDoor

namespace Go.Proofs.YtebpmngllljkaaaDoor
open Go.RowKit GrP GrA


set_option maxRecDepth 100000 in
set_option maxHeartbeats 3200000 in
theorem aprint_15 (d n m imm kind : Int) (w : World) (ht : Tab w) (hr : GrI.right ⟨15, d, n, m, imm, kind⟩) : Calls Tryd.prog 10 #[.agg #[.int .i64 15, .int .i64 d, .int .i64 n, .int .i64 m, .int .i64 imm, .int .i64 kind]] w fun e w' => e = .returned (.string (strL (printR ⟨15, d, n, m, imm, kind⟩))) ∧ Below w.heap.size w w' := by
  obtain ⟨b1, b2⟩ := GrI.imm_bd hr
  obtain ⟨dn0, dn1, dn2, dn3, dn4, dn5⟩ := reg_bd hr
  simp only at b1 b2 dn0 dn1 dn2 dn3 dn4 dn5
  have TH := Lib.hid ht
  have RI := Lib.hid (fun w2 (t2 : Tab w2) => right_yes ⟨15, d, n, m, imm, kind⟩ w2 t2.sh ⟨b1, b2⟩ (by simpa [encB] using hr))
  have RG := Lib.hid (fun w2 (t2 : Tab w2) (n : Int) (h0 : 0 ≤ n) (h1 : n ≤ 31) => reg_any n w2 t2.tb (by omega) (by omega))
  have TO := Lib.hid (fun w2 (t2 : Tab w2) => to_any imm w2 t2.tb b1 b2)
  obtain ⟨s0, hs0⟩ : ∃ s, s = strL (names.getD 15 []) := ⟨_, rfl⟩
  have hq0 : s0.size = 3 := by rw [hs0]; rfl
  obtain ⟨z_rd, hz_rd⟩ : ∃ zz, zz = (strL (reg d)).size := ⟨_, rfl⟩
  have e_rd : (strL (reg d)).size = z_rd := hz_rd.symm
  have l_rd : z_rd ≤ 65 := by rw [hz_rd, strL_size]; exact reg_len d
  clear hz_rd
  obtain ⟨z_to, hz_to⟩ : ∃ zz, zz = (strL (toT imm)).size := ⟨_, rfl⟩
  have e_to : (strL (toT imm)).size = z_to := hz_to.symm
  have l_to : z_to ≤ 67 := by rw [hz_to, strL_size]; exact toT_len b1 b2
  clear hz_to
  have N2 : ¬ 9223372036854775807 < 4 := by omega
  have N3 : ¬ 9223372036854775807 < 4 + z_rd := by omega
  have M3 : ¬ 9223372036854775807 < 3 + 1 + z_rd := by omega
  have N4 : ¬ 9223372036854775807 < 4 + z_rd + 1 := by omega
  have M4 : ¬ 9223372036854775807 < 3 + 1 + z_rd + 1 := by omega
  have N5 : ¬ 9223372036854775807 < 4 + z_rd + 1 + z_to := by omega
  have M5 : ¬ 9223372036854775807 < 3 + 1 + z_rd + 1 + z_to := by omega
  have SA := Lib.hid (show (s0 ++ ⟨#[32]⟩ ++ strL (reg d) ++ ⟨#[44]⟩ ++ strL (toT imm) : ByteArray) = strL (printR ⟨15, d, n, m, imm, kind⟩) by
    rw [hs0]
    show strL (names.getD 15 []) ++ strL [32] ++ strL (reg d) ++ strL [44] ++ strL (toT imm) = _
    rw [strL_app, strL_app, strL_app, strL_app]
    congr 1
    all_goals simp only [printR, Int.reduceEq, or_self, or_true, true_or, or_false, false_or, if_true, if_false, false_and, true_and, and_false, and_true, Int.reduceLE, Int.reduceLT, Int.reduceMod, and_self, reduceIte]
    all_goals simp [at!])
  have C0 := Lib.hid (show w.cell? ⟨0, 15, none⟩ = some (.string (strL (names.getD 15 []))) from ht.nm 15 (by decide))
  rw [← hs0] at C0
  clear ht hr hs0
  go_enter Tryd.func10, Tryd.ntmps10
  go_upto_region 1 with fail
  refine to_cls ?_
  intro U0 hU0 y0
  have r_b : ∀ z : Wb U0, Row z.at (w.heap.size) [.int .i64 15, .int .i64 d, .int .i64 n, .int .i64 m, .int .i64 imm, .int .i64 kind] 23 := Row.next (Row.new _ [.int .i64 15, .int .i64 d, .int .i64 n, .int .i64 m, .int .i64 imm, .int .i64 kind] _) hU0
  have KK := Lib.hid (KB.next (KB.alloc (Below.refl _ _) _) hU0)
  clear hU0
  obtain ⟨c_b_0, c_b_1, c_b_2, c_b_3, c_b_4, c_b_5⟩ := six r_b
  have TZ := Lib.hid fun z => TH.out.below (KK.out z)
  have cc0 := keepc KK C0
  go_wp2_with fail
  refine (RI.out _ (TZ.out y0)).mono ?_
  rintro e w1 ⟨rfl, g⟩
  obtain ⟨y1, rfl⟩ := Wb.next (x := y0) g
  clear g
  go_wp2_with fail
  refine to_pt ?_
  intro U2 hU2
  clear c_b_0 c_b_1 c_b_2 c_b_3 c_b_4 c_b_5 cc0
  have r_b : ∀ z : Wb U2, Row z.at (w.heap.size) [.int .i64 15, .int .i64 d, .int .i64 n, .int .i64 m, .int .i64 imm, .int .i64 kind] 23 := Row.next (r_b y1) hU2
  have KK := Lib.hid (KB.next (KK.out y1) hU2)
  clear hU2
  obtain ⟨c_b_0, c_b_1, c_b_2, c_b_3, c_b_4, c_b_5⟩ := six r_b
  have TZ := Lib.hid fun z => TH.out.below (KK.out z)
  have cc0 := keepc KK C0
  refine wp_region_wb (by kernel_rfl) (by kernel_rfl) ?_
  repeat (go_big_quiet_step ((go_at_call 18; exact Calls.wb (RG.out _ (TZ.out _) _ (by first | assumption | decide) (by first | assumption | decide)))))
  refine wpQuiet_nil ?_
  rintro _ ⟨y3, rfl⟩
  go_wp2_with fail
  refine (TO.out _ (TZ.out y3)).mono ?_
  rintro e w1 ⟨rfl, g⟩
  obtain ⟨y4, rfl⟩ := Wb.next (x := y3) g
  clear g
  go_wp2
  go_ret
  exact ⟨by rw [← SA.out]; rfl, KK.out y4⟩

set_option maxRecDepth 100000 in
set_option maxHeartbeats 3200000 in
theorem aprint_16 (d n m imm kind : Int) (w : World) (ht : Tab w) (hr : GrI.right ⟨16, d, n, m, imm, kind⟩) : Calls Tryd.prog 10 #[.agg #[.int .i64 16, .int .i64 d, .int .i64 n, .int .i64 m, .int .i64 imm, .int .i64 kind]] w fun e w' => e = .returned (.string (strL (printR ⟨16, d, n, m, imm, kind⟩))) ∧ Below w.heap.size w w' := by
  obtain ⟨b1, b2⟩ := GrI.imm_bd hr
  obtain ⟨dn0, dn1, dn2, dn3, dn4, dn5⟩ := reg_bd hr
  simp only at b1 b2 dn0 dn1 dn2 dn3 dn4 dn5
  have TH := Lib.hid ht
  have RI := Lib.hid (fun w2 (t2 : Tab w2) => right_yes ⟨16, d, n, m, imm, kind⟩ w2 t2.sh ⟨b1, b2⟩ (by simpa [encB] using hr))
  have RG := Lib.hid (fun w2 (t2 : Tab w2) (n : Int) (h0 : 0 ≤ n) (h1 : n ≤ 31) => reg_any n w2 t2.tb (by omega) (by omega))
  have TO := Lib.hid (fun w2 (t2 : Tab w2) => to_any imm w2 t2.tb b1 b2)
  obtain ⟨s0, hs0⟩ : ∃ s, s = strL (names.getD 16 []) := ⟨_, rfl⟩
  have hq0 : s0.size = 4 := by rw [hs0]; rfl
  obtain ⟨z_rd, hz_rd⟩ : ∃ zz, zz = (strL (reg d)).size := ⟨_, rfl⟩
  have e_rd : (strL (reg d)).size = z_rd := hz_rd.symm
  have l_rd : z_rd ≤ 65 := by rw [hz_rd, strL_size]; exact reg_len d
  clear hz_rd
  obtain ⟨z_to, hz_to⟩ : ∃ zz, zz = (strL (toT imm)).size := ⟨_, rfl⟩
  have e_to : (strL (toT imm)).size = z_to := hz_to.symm
  have l_to : z_to ≤ 67 := by rw [hz_to, strL_size]; exact toT_len b1 b2
  clear hz_to
  have N2 : ¬ 9223372036854775807 < 5 := by omega
  have N3 : ¬ 9223372036854775807 < 5 + z_rd := by omega
  have M3 : ¬ 9223372036854775807 < 4 + 1 + z_rd := by omega
  have N4 : ¬ 9223372036854775807 < 5 + z_rd + 1 := by omega
  have M4 : ¬ 9223372036854775807 < 4 + 1 + z_rd + 1 := by omega
  have N5 : ¬ 9223372036854775807 < 5 + z_rd + 1 + z_to := by omega
  have M5 : ¬ 9223372036854775807 < 4 + 1 + z_rd + 1 + z_to := by omega
  have SA := Lib.hid (show (s0 ++ ⟨#[32]⟩ ++ strL (reg d) ++ ⟨#[44]⟩ ++ strL (toT imm) : ByteArray) = strL (printR ⟨16, d, n, m, imm, kind⟩) by
    rw [hs0]
    show strL (names.getD 16 []) ++ strL [32] ++ strL (reg d) ++ strL [44] ++ strL (toT imm) = _
    rw [strL_app, strL_app, strL_app, strL_app]
    congr 1
    all_goals simp only [printR, Int.reduceEq, or_self, or_true, true_or, or_false, false_or, if_true, if_false, false_and, true_and, and_false, and_true, Int.reduceLE, Int.reduceLT, Int.reduceMod, and_self, reduceIte]
    all_goals simp [at!])
  have C0 := Lib.hid (show w.cell? ⟨0, 16, none⟩ = some (.string (strL (names.getD 16 []))) from ht.nm 16 (by decide))
  rw [← hs0] at C0
  clear ht hr hs0
  go_enter Tryd.func10, Tryd.ntmps10
  go_upto_region 1 with fail
  refine to_cls ?_
  intro U0 hU0 y0
  have r_b : ∀ z : Wb U0, Row z.at (w.heap.size) [.int .i64 16, .int .i64 d, .int .i64 n, .int .i64 m, .int .i64 imm, .int .i64 kind] 23 := Row.next (Row.new _ [.int .i64 16, .int .i64 d, .int .i64 n, .int .i64 m, .int .i64 imm, .int .i64 kind] _) hU0
  have KK := Lib.hid (KB.next (KB.alloc (Below.refl _ _) _) hU0)
  clear hU0
  obtain ⟨c_b_0, c_b_1, c_b_2, c_b_3, c_b_4, c_b_5⟩ := six r_b
  have TZ := Lib.hid fun z => TH.out.below (KK.out z)
  have cc0 := keepc KK C0
  go_wp2_with fail
  refine (RI.out _ (TZ.out y0)).mono ?_
  rintro e w1 ⟨rfl, g⟩
  obtain ⟨y1, rfl⟩ := Wb.next (x := y0) g
  clear g
  go_wp2_with fail
  refine to_pt ?_
  intro U2 hU2
  clear c_b_0 c_b_1 c_b_2 c_b_3 c_b_4 c_b_5 cc0
  have r_b : ∀ z : Wb U2, Row z.at (w.heap.size) [.int .i64 16, .int .i64 d, .int .i64 n, .int .i64 m, .int .i64 imm, .int .i64 kind] 23 := Row.next (r_b y1) hU2
  have KK := Lib.hid (KB.next (KK.out y1) hU2)
  clear hU2
  obtain ⟨c_b_0, c_b_1, c_b_2, c_b_3, c_b_4, c_b_5⟩ := six r_b
  have TZ := Lib.hid fun z => TH.out.below (KK.out z)
  have cc0 := keepc KK C0
  refine wp_region_wb (by kernel_rfl) (by kernel_rfl) ?_
  repeat (go_big_quiet_step ((go_at_call 18; exact Calls.wb (RG.out _ (TZ.out _) _ (by first | assumption | decide) (by first | assumption | decide)))))
  refine wpQuiet_nil ?_
  rintro _ ⟨y3, rfl⟩
  go_wp2_with fail
  refine (TO.out _ (TZ.out y3)).mono ?_
  rintro e w1 ⟨rfl, g⟩
  obtain ⟨y4, rfl⟩ := Wb.next (x := y3) g
  clear g
  go_wp2
  go_ret
  exact ⟨by rw [← SA.out]; rfl, KK.out y4⟩

set_option maxRecDepth 100000 in
set_option maxHeartbeats 3200000 in
theorem aprint_17_0 (d n m imm : Int) (w : World) (ht : Tab w) (hr : GrI.right ⟨17, d, n, m, imm, 0⟩) : Calls Tryd.prog 10 #[.agg #[.int .i64 17, .int .i64 d, .int .i64 n, .int .i64 m, .int .i64 imm, .int .i64 0]] w fun e w' => e = .returned (.string (strL (printR ⟨17, d, n, m, imm, 0⟩))) ∧ Below w.heap.size w w' := by
  obtain ⟨b1, b2⟩ := GrI.imm_bd hr
  obtain ⟨dn0, dn1, dn2, dn3, dn4, dn5⟩ := reg_bd hr
  simp only at b1 b2 dn0 dn1 dn2 dn3 dn4 dn5
  have TH := Lib.hid ht
  have RI := Lib.hid (fun w2 (t2 : Tab w2) => right_yes ⟨17, d, n, m, imm, 0⟩ w2 t2.sh ⟨b1, b2⟩ (by simpa [encB] using hr))
  have RG := Lib.hid (fun w2 (t2 : Tab w2) (n : Int) (h0 : 0 ≤ n) (h1 : n ≤ 31) => reg_any n w2 t2.tb (by omega) (by omega))
  have TO := Lib.hid (fun w2 (t2 : Tab w2) => to_any imm w2 t2.tb b1 b2)
  obtain ⟨s0, hs0⟩ : ∃ s, s = strL (conds.getD 0 []) := ⟨_, rfl⟩
  have hq0 : s0.size = 4 := by rw [hs0]; rfl
  obtain ⟨z_to, hz_to⟩ : ∃ zz, zz = (strL (toT imm)).size := ⟨_, rfl⟩
  have e_to : (strL (toT imm)).size = z_to := hz_to.symm
  have l_to : z_to ≤ 67 := by rw [hz_to, strL_size]; exact toT_len b1 b2
  clear hz_to
  have N2 : ¬ 9223372036854775807 < 5 := by omega
  have N3 : ¬ 9223372036854775807 < 5 + z_to := by omega
  have M3 : ¬ 9223372036854775807 < 4 + 1 + z_to := by omega
  have SA := Lib.hid (show (s0 ++ ⟨#[32]⟩ ++ strL (toT imm) : ByteArray) = strL (printR ⟨17, d, n, m, imm, 0⟩) by
    rw [hs0]
    show strL (conds.getD 0 []) ++ strL [32] ++ strL (toT imm) = _
    rw [strL_app, strL_app]
    congr 1
    all_goals simp only [printR, Int.reduceEq, or_self, or_true, true_or, or_false, false_or, if_true, if_false, false_and, true_and, and_false, and_true, Int.reduceLE, Int.reduceLT, Int.reduceMod, and_self, reduceIte]
    all_goals simp [at!])
  have C0 := Lib.hid (show w.cell? ⟨1, 0, none⟩ = some (.string (strL (conds.getD 0 []))) from ht.cd 0 (by decide))
  rw [← hs0] at C0
  obtain ⟨sx, hsx⟩ : ∃ s, s = strL (names.getD 17 []) := ⟨_, rfl⟩
  have hqx : sx.size = 0 := by rw [hsx]; rfl
  have CX := Lib.hid (show w.cell? ⟨0, 17, none⟩ = some (.string (strL (names.getD 17 []))) from ht.nm 17 (by decide))
  rw [← hsx] at CX
  have NX : ¬ 9223372036854775807 < 0 + 1 := by omega
  clear hsx
  clear ht hr hs0
  go_enter Tryd.func10, Tryd.ntmps10
  go_upto_region 1 with fail
  refine to_cls ?_
  intro U0 hU0 y0
  have r_b : ∀ z : Wb U0, Row z.at (w.heap.size) [.int .i64 17, .int .i64 d, .int .i64 n, .int .i64 m, .int .i64 imm, .int .i64 0] 23 := Row.next (Row.new _ [.int .i64 17, .int .i64 d, .int .i64 n, .int .i64 m, .int .i64 imm, .int .i64 0] _) hU0
  have KK := Lib.hid (KB.next (KB.alloc (Below.refl _ _) _) hU0)
  clear hU0
  obtain ⟨c_b_0, c_b_1, c_b_2, c_b_3, c_b_4, c_b_5⟩ := six r_b
  have TZ := Lib.hid fun z => TH.out.below (KK.out z)
  have cc0 := keepc KK C0
  have ccX := keepc KK CX
  go_wp2_with fail
  refine (RI.out _ (TZ.out y0)).mono ?_
  rintro e w1 ⟨rfl, g⟩
  obtain ⟨y1, rfl⟩ := Wb.next (x := y0) g
  clear g
  go_wp2_with fail
  refine to_pt ?_
  intro U2 hU2
  clear c_b_0 c_b_1 c_b_2 c_b_3 c_b_4 c_b_5 cc0 ccX
  have r_b : ∀ z : Wb U2, Row z.at (w.heap.size) [.int .i64 17, .int .i64 d, .int .i64 n, .int .i64 m, .int .i64 imm, .int .i64 0] 23 := Row.next (r_b y1) hU2
  have KK := Lib.hid (KB.next (KK.out y1) hU2)
  clear hU2
  obtain ⟨c_b_0, c_b_1, c_b_2, c_b_3, c_b_4, c_b_5⟩ := six r_b
  have TZ := Lib.hid fun z => TH.out.below (KK.out z)
  have cc0 := keepc KK C0
  have ccX := keepc KK CX
  refine wp_region_wb (by kernel_rfl) (by kernel_rfl) ?_
  repeat (go_big_quiet_step ((go_at_call 18; exact Calls.wb (RG.out _ (TZ.out _) _ (by first | assumption | decide) (by first | assumption | decide)))))
  refine wpQuiet_nil ?_
  rintro _ ⟨y3, rfl⟩
  go_upto_region 30 with fail
  refine to_pt ?_
  intro U4 hU4
  clear c_b_0 c_b_1 c_b_2 c_b_3 c_b_4 c_b_5 cc0 ccX
  have r_b : ∀ z : Wb U4, Row z.at (w.heap.size) [.int .i64 17, .int .i64 d, .int .i64 n, .int .i64 m, .int .i64 imm, .int .i64 0] 23 := Row.next (r_b y3) hU4
  have KK := Lib.hid (KB.next (KK.out y3) hU4)
  clear hU4
  obtain ⟨c_b_0, c_b_1, c_b_2, c_b_3, c_b_4, c_b_5⟩ := six r_b
  have TZ := Lib.hid fun z => TH.out.below (KK.out z)
  have cc0 := keepc KK C0
  have ccX := keepc KK CX
  refine wp_region_wb (by kernel_rfl) (by kernel_rfl) ?_
  repeat (go_big_quiet_step ((go_at_call 25; exact Calls.wb (TO.out _ (TZ.out _)))))
  refine wpQuiet_nil ?_
  rintro _ ⟨y5, rfl⟩
  go_wp2
  go_ret
  exact ⟨by rw [← SA.out]; rfl, KK.out y5⟩

set_option maxRecDepth 100000 in
set_option maxHeartbeats 3200000 in
theorem aprint_17_1 (d n m imm : Int) (w : World) (ht : Tab w) (hr : GrI.right ⟨17, d, n, m, imm, 1⟩) : Calls Tryd.prog 10 #[.agg #[.int .i64 17, .int .i64 d, .int .i64 n, .int .i64 m, .int .i64 imm, .int .i64 1]] w fun e w' => e = .returned (.string (strL (printR ⟨17, d, n, m, imm, 1⟩))) ∧ Below w.heap.size w w' := by
  obtain ⟨b1, b2⟩ := GrI.imm_bd hr
  obtain ⟨dn0, dn1, dn2, dn3, dn4, dn5⟩ := reg_bd hr
  simp only at b1 b2 dn0 dn1 dn2 dn3 dn4 dn5
  have TH := Lib.hid ht
  have RI := Lib.hid (fun w2 (t2 : Tab w2) => right_yes ⟨17, d, n, m, imm, 1⟩ w2 t2.sh ⟨b1, b2⟩ (by simpa [encB] using hr))
  have RG := Lib.hid (fun w2 (t2 : Tab w2) (n : Int) (h0 : 0 ≤ n) (h1 : n ≤ 31) => reg_any n w2 t2.tb (by omega) (by omega))
  have TO := Lib.hid (fun w2 (t2 : Tab w2) => to_any imm w2 t2.tb b1 b2)
  obtain ⟨s0, hs0⟩ : ∃ s, s = strL (conds.getD 1 []) := ⟨_, rfl⟩
  have hq0 : s0.size = 4 := by rw [hs0]; rfl
  obtain ⟨z_to, hz_to⟩ : ∃ zz, zz = (strL (toT imm)).size := ⟨_, rfl⟩
  have e_to : (strL (toT imm)).size = z_to := hz_to.symm
  have l_to : z_to ≤ 67 := by rw [hz_to, strL_size]; exact toT_len b1 b2
  clear hz_to
  have N2 : ¬ 9223372036854775807 < 5 := by omega
  have N3 : ¬ 9223372036854775807 < 5 + z_to := by omega
  have M3 : ¬ 9223372036854775807 < 4 + 1 + z_to := by omega
  have SA := Lib.hid (show (s0 ++ ⟨#[32]⟩ ++ strL (toT imm) : ByteArray) = strL (printR ⟨17, d, n, m, imm, 1⟩) by
    rw [hs0]
    show strL (conds.getD 1 []) ++ strL [32] ++ strL (toT imm) = _
    rw [strL_app, strL_app]
    congr 1
    all_goals simp only [printR, Int.reduceEq, or_self, or_true, true_or, or_false, false_or, if_true, if_false, false_and, true_and, and_false, and_true, Int.reduceLE, Int.reduceLT, Int.reduceMod, and_self, reduceIte]
    all_goals simp [at!])
  have C0 := Lib.hid (show w.cell? ⟨1, 1, none⟩ = some (.string (strL (conds.getD 1 []))) from ht.cd 1 (by decide))
  rw [← hs0] at C0
  obtain ⟨sx, hsx⟩ : ∃ s, s = strL (names.getD 17 []) := ⟨_, rfl⟩
  have hqx : sx.size = 0 := by rw [hsx]; rfl
  have CX := Lib.hid (show w.cell? ⟨0, 17, none⟩ = some (.string (strL (names.getD 17 []))) from ht.nm 17 (by decide))
  rw [← hsx] at CX
  have NX : ¬ 9223372036854775807 < 0 + 1 := by omega
  clear hsx
  clear ht hr hs0
  go_enter Tryd.func10, Tryd.ntmps10
  go_upto_region 1 with fail
  refine to_cls ?_
  intro U0 hU0 y0
  have r_b : ∀ z : Wb U0, Row z.at (w.heap.size) [.int .i64 17, .int .i64 d, .int .i64 n, .int .i64 m, .int .i64 imm, .int .i64 1] 23 := Row.next (Row.new _ [.int .i64 17, .int .i64 d, .int .i64 n, .int .i64 m, .int .i64 imm, .int .i64 1] _) hU0
  have KK := Lib.hid (KB.next (KB.alloc (Below.refl _ _) _) hU0)
  clear hU0
  obtain ⟨c_b_0, c_b_1, c_b_2, c_b_3, c_b_4, c_b_5⟩ := six r_b
  have TZ := Lib.hid fun z => TH.out.below (KK.out z)
  have cc0 := keepc KK C0
  have ccX := keepc KK CX
  go_wp2_with fail
  refine (RI.out _ (TZ.out y0)).mono ?_
  rintro e w1 ⟨rfl, g⟩
  obtain ⟨y1, rfl⟩ := Wb.next (x := y0) g
  clear g
  go_wp2_with fail
  refine to_pt ?_
  intro U2 hU2
  clear c_b_0 c_b_1 c_b_2 c_b_3 c_b_4 c_b_5 cc0 ccX
  have r_b : ∀ z : Wb U2, Row z.at (w.heap.size) [.int .i64 17, .int .i64 d, .int .i64 n, .int .i64 m, .int .i64 imm, .int .i64 1] 23 := Row.next (r_b y1) hU2
  have KK := Lib.hid (KB.next (KK.out y1) hU2)
  clear hU2
  obtain ⟨c_b_0, c_b_1, c_b_2, c_b_3, c_b_4, c_b_5⟩ := six r_b
  have TZ := Lib.hid fun z => TH.out.below (KK.out z)
  have cc0 := keepc KK C0
  have ccX := keepc KK CX
  refine wp_region_wb (by kernel_rfl) (by kernel_rfl) ?_
  repeat (go_big_quiet_step ((go_at_call 18; exact Calls.wb (RG.out _ (TZ.out _) _ (by first | assumption | decide) (by first | assumption | decide)))))
  refine wpQuiet_nil ?_
  rintro _ ⟨y3, rfl⟩
  go_upto_region 30 with fail
  refine to_pt ?_
  intro U4 hU4
  clear c_b_0 c_b_1 c_b_2 c_b_3 c_b_4 c_b_5 cc0 ccX
  have r_b : ∀ z : Wb U4, Row z.at (w.heap.size) [.int .i64 17, .int .i64 d, .int .i64 n, .int .i64 m, .int .i64 imm, .int .i64 1] 23 := Row.next (r_b y3) hU4
  have KK := Lib.hid (KB.next (KK.out y3) hU4)
  clear hU4
  obtain ⟨c_b_0, c_b_1, c_b_2, c_b_3, c_b_4, c_b_5⟩ := six r_b
  have TZ := Lib.hid fun z => TH.out.below (KK.out z)
  have cc0 := keepc KK C0
  have ccX := keepc KK CX
  refine wp_region_wb (by kernel_rfl) (by kernel_rfl) ?_
  repeat (go_big_quiet_step ((go_at_call 25; exact Calls.wb (TO.out _ (TZ.out _)))))
  refine wpQuiet_nil ?_
  rintro _ ⟨y5, rfl⟩
  go_wp2
  go_ret
  exact ⟨by rw [← SA.out]; rfl, KK.out y5⟩

set_option maxRecDepth 100000 in
set_option maxHeartbeats 3200000 in
theorem aprint_19_9 (d n m imm : Int) (w : World) (ht : Tab w) (hr : GrI.right ⟨19, d, n, m, imm, 9⟩) : Calls Tryd.prog 10 #[.agg #[.int .i64 19, .int .i64 d, .int .i64 n, .int .i64 m, .int .i64 imm, .int .i64 9]] w fun e w' => e = .returned (.string (strL (printR ⟨19, d, n, m, imm, 9⟩))) ∧ Below w.heap.size w w' := by
  obtain ⟨b1, b2⟩ := GrI.imm_bd hr
  obtain ⟨dn0, dn1, dn2, dn3, dn4, dn5⟩ := reg_bd hr
  simp only at b1 b2 dn0 dn1 dn2 dn3 dn4 dn5
  have TH := Lib.hid ht
  have RI := Lib.hid (fun w2 (t2 : Tab w2) => right_yes ⟨19, d, n, m, imm, 9⟩ w2 t2.sh ⟨b1, b2⟩ (by simpa [encB] using hr))
  have RG := Lib.hid (fun w2 (t2 : Tab w2) (n : Int) (h0 : 0 ≤ n) (h1 : n ≤ 31) => reg_any n w2 t2.tb (by omega) (by omega))
  obtain ⟨s0, hs0⟩ : ∃ s, s = strL (names.getD 19 []) := ⟨_, rfl⟩
  have hq0 : s0.size = 3 := by rw [hs0]; rfl
  obtain ⟨s2, hs2⟩ : ∃ s, s = strL (bars.getD 9 []) := ⟨_, rfl⟩
  have hq2 : s2.size = 5 := by rw [hs2]; rfl
  have N2 : ¬ 9223372036854775807 < 4 := by omega
  have N3 : ¬ 9223372036854775807 < 9 := by omega
  have M3 : ¬ 9223372036854775807 < 3 + 1 + 5 := by omega
  have SA := Lib.hid (show (s0 ++ ⟨#[32]⟩ ++ s2 : ByteArray) = strL (printR ⟨19, d, n, m, imm, 9⟩) by
    rw [hs0, hs2]
    show strL (names.getD 19 []) ++ strL [32] ++ strL (bars.getD 9 []) = _
    rw [strL_app, strL_app]
    congr 1
    all_goals simp only [printR, Int.reduceEq, or_self, or_true, true_or, or_false, false_or, if_true, if_false, false_and, true_and, and_false, and_true, Int.reduceLE, Int.reduceLT, Int.reduceMod, and_self, reduceIte]
    all_goals simp [at!])
  have C0 := Lib.hid (show w.cell? ⟨0, 19, none⟩ = some (.string (strL (names.getD 19 []))) from ht.nm 19 (by decide))
  rw [← hs0] at C0
  have C2 := Lib.hid (show w.cell? ⟨2, 9, none⟩ = some (.string (strL (bars.getD 9 []))) from ht.br 9 (by decide))
  rw [← hs2] at C2
  clear ht hr hs0 hs2
  go_enter Tryd.func10, Tryd.ntmps10
  go_upto_region 1 with fail
  refine to_cls ?_
  intro U0 hU0 y0
  have r_b : ∀ z : Wb U0, Row z.at (w.heap.size) [.int .i64 19, .int .i64 d, .int .i64 n, .int .i64 m, .int .i64 imm, .int .i64 9] 23 := Row.next (Row.new _ [.int .i64 19, .int .i64 d, .int .i64 n, .int .i64 m, .int .i64 imm, .int .i64 9] _) hU0
  have KK := Lib.hid (KB.next (KB.alloc (Below.refl _ _) _) hU0)
  clear hU0
  obtain ⟨c_b_0, c_b_1, c_b_2, c_b_3, c_b_4, c_b_5⟩ := six r_b
  have TZ := Lib.hid fun z => TH.out.below (KK.out z)
  have cc0 := keepc KK C0
  have cc2 := keepc KK C2
  go_wp2_with fail
  refine (RI.out _ (TZ.out y0)).mono ?_
  rintro e w1 ⟨rfl, g⟩
  obtain ⟨y1, rfl⟩ := Wb.next (x := y0) g
  clear g
  go_wp2_with fail
  refine to_pt ?_
  intro U2 hU2
  clear c_b_0 c_b_1 c_b_2 c_b_3 c_b_4 c_b_5 cc0 cc2
  have r_b : ∀ z : Wb U2, Row z.at (w.heap.size) [.int .i64 19, .int .i64 d, .int .i64 n, .int .i64 m, .int .i64 imm, .int .i64 9] 23 := Row.next (r_b y1) hU2
  have KK := Lib.hid (KB.next (KK.out y1) hU2)
  clear hU2
  obtain ⟨c_b_0, c_b_1, c_b_2, c_b_3, c_b_4, c_b_5⟩ := six r_b
  have TZ := Lib.hid fun z => TH.out.below (KK.out z)
  have cc0 := keepc KK C0
  have cc2 := keepc KK C2
  refine wp_region_wb (by kernel_rfl) (by kernel_rfl) ?_
  repeat (go_big_quiet_step ((go_at_call 18; exact Calls.wb (RG.out _ (TZ.out _) _ (by first | assumption | decide) (by first | assumption | decide)))))
  refine wpQuiet_nil ?_
  rintro _ ⟨y3, rfl⟩
  go_wp2
  go_ret
  exact ⟨by rw [← SA.out]; rfl, KK.out y3⟩

set_option maxRecDepth 100000 in
set_option maxHeartbeats 3200000 in
theorem aprint_19_10 (d n m imm : Int) (w : World) (ht : Tab w) (hr : GrI.right ⟨19, d, n, m, imm, 10⟩) : Calls Tryd.prog 10 #[.agg #[.int .i64 19, .int .i64 d, .int .i64 n, .int .i64 m, .int .i64 imm, .int .i64 10]] w fun e w' => e = .returned (.string (strL (printR ⟨19, d, n, m, imm, 10⟩))) ∧ Below w.heap.size w w' := by
  obtain ⟨b1, b2⟩ := GrI.imm_bd hr
  obtain ⟨dn0, dn1, dn2, dn3, dn4, dn5⟩ := reg_bd hr
  simp only at b1 b2 dn0 dn1 dn2 dn3 dn4 dn5
  have TH := Lib.hid ht
  have RI := Lib.hid (fun w2 (t2 : Tab w2) => right_yes ⟨19, d, n, m, imm, 10⟩ w2 t2.sh ⟨b1, b2⟩ (by simpa [encB] using hr))
  have RG := Lib.hid (fun w2 (t2 : Tab w2) (n : Int) (h0 : 0 ≤ n) (h1 : n ≤ 31) => reg_any n w2 t2.tb (by omega) (by omega))
  obtain ⟨s0, hs0⟩ : ∃ s, s = strL (names.getD 19 []) := ⟨_, rfl⟩
  have hq0 : s0.size = 3 := by rw [hs0]; rfl
  obtain ⟨s2, hs2⟩ : ∃ s, s = strL (bars.getD 10 []) := ⟨_, rfl⟩
  have hq2 : s2.size = 5 := by rw [hs2]; rfl
  have N2 : ¬ 9223372036854775807 < 4 := by omega
  have N3 : ¬ 9223372036854775807 < 9 := by omega
  have M3 : ¬ 9223372036854775807 < 3 + 1 + 5 := by omega
  have SA := Lib.hid (show (s0 ++ ⟨#[32]⟩ ++ s2 : ByteArray) = strL (printR ⟨19, d, n, m, imm, 10⟩) by
    rw [hs0, hs2]
    show strL (names.getD 19 []) ++ strL [32] ++ strL (bars.getD 10 []) = _
    rw [strL_app, strL_app]
    congr 1
    all_goals simp only [printR, Int.reduceEq, or_self, or_true, true_or, or_false, false_or, if_true, if_false, false_and, true_and, and_false, and_true, Int.reduceLE, Int.reduceLT, Int.reduceMod, and_self, reduceIte]
    all_goals simp [at!])
  have C0 := Lib.hid (show w.cell? ⟨0, 19, none⟩ = some (.string (strL (names.getD 19 []))) from ht.nm 19 (by decide))
  rw [← hs0] at C0
  have C2 := Lib.hid (show w.cell? ⟨2, 10, none⟩ = some (.string (strL (bars.getD 10 []))) from ht.br 10 (by decide))
  rw [← hs2] at C2
  clear ht hr hs0 hs2
  go_enter Tryd.func10, Tryd.ntmps10
  go_upto_region 1 with fail
  refine to_cls ?_
  intro U0 hU0 y0
  have r_b : ∀ z : Wb U0, Row z.at (w.heap.size) [.int .i64 19, .int .i64 d, .int .i64 n, .int .i64 m, .int .i64 imm, .int .i64 10] 23 := Row.next (Row.new _ [.int .i64 19, .int .i64 d, .int .i64 n, .int .i64 m, .int .i64 imm, .int .i64 10] _) hU0
  have KK := Lib.hid (KB.next (KB.alloc (Below.refl _ _) _) hU0)
  clear hU0
  obtain ⟨c_b_0, c_b_1, c_b_2, c_b_3, c_b_4, c_b_5⟩ := six r_b
  have TZ := Lib.hid fun z => TH.out.below (KK.out z)
  have cc0 := keepc KK C0
  have cc2 := keepc KK C2
  go_wp2_with fail
  refine (RI.out _ (TZ.out y0)).mono ?_
  rintro e w1 ⟨rfl, g⟩
  obtain ⟨y1, rfl⟩ := Wb.next (x := y0) g
  clear g
  go_wp2_with fail
  refine to_pt ?_
  intro U2 hU2
  clear c_b_0 c_b_1 c_b_2 c_b_3 c_b_4 c_b_5 cc0 cc2
  have r_b : ∀ z : Wb U2, Row z.at (w.heap.size) [.int .i64 19, .int .i64 d, .int .i64 n, .int .i64 m, .int .i64 imm, .int .i64 10] 23 := Row.next (r_b y1) hU2
  have KK := Lib.hid (KB.next (KK.out y1) hU2)
  clear hU2
  obtain ⟨c_b_0, c_b_1, c_b_2, c_b_3, c_b_4, c_b_5⟩ := six r_b
  have TZ := Lib.hid fun z => TH.out.below (KK.out z)
  have cc0 := keepc KK C0
  have cc2 := keepc KK C2
  refine wp_region_wb (by kernel_rfl) (by kernel_rfl) ?_
  repeat (go_big_quiet_step ((go_at_call 18; exact Calls.wb (RG.out _ (TZ.out _) _ (by first | assumption | decide) (by first | assumption | decide)))))
  refine wpQuiet_nil ?_
  rintro _ ⟨y3, rfl⟩
  go_wp2
  go_ret
  exact ⟨by rw [← SA.out]; rfl, KK.out y3⟩

set_option maxRecDepth 100000 in
set_option maxHeartbeats 3200000 in
theorem aprint_19_11 (d n m imm : Int) (w : World) (ht : Tab w) (hr : GrI.right ⟨19, d, n, m, imm, 11⟩) : Calls Tryd.prog 10 #[.agg #[.int .i64 19, .int .i64 d, .int .i64 n, .int .i64 m, .int .i64 imm, .int .i64 11]] w fun e w' => e = .returned (.string (strL (printR ⟨19, d, n, m, imm, 11⟩))) ∧ Below w.heap.size w w' := by
  obtain ⟨b1, b2⟩ := GrI.imm_bd hr
  obtain ⟨dn0, dn1, dn2, dn3, dn4, dn5⟩ := reg_bd hr
  simp only at b1 b2 dn0 dn1 dn2 dn3 dn4 dn5
  have TH := Lib.hid ht
  have RI := Lib.hid (fun w2 (t2 : Tab w2) => right_yes ⟨19, d, n, m, imm, 11⟩ w2 t2.sh ⟨b1, b2⟩ (by simpa [encB] using hr))
  have RG := Lib.hid (fun w2 (t2 : Tab w2) (n : Int) (h0 : 0 ≤ n) (h1 : n ≤ 31) => reg_any n w2 t2.tb (by omega) (by omega))
  obtain ⟨s0, hs0⟩ : ∃ s, s = strL (names.getD 19 []) := ⟨_, rfl⟩
  have hq0 : s0.size = 3 := by rw [hs0]; rfl
  obtain ⟨s2, hs2⟩ : ∃ s, s = strL (bars.getD 11 []) := ⟨_, rfl⟩
  have hq2 : s2.size = 3 := by rw [hs2]; rfl
  have N2 : ¬ 9223372036854775807 < 4 := by omega
  have N3 : ¬ 9223372036854775807 < 7 := by omega
  have M3 : ¬ 9223372036854775807 < 3 + 1 + 3 := by omega
  have SA := Lib.hid (show (s0 ++ ⟨#[32]⟩ ++ s2 : ByteArray) = strL (printR ⟨19, d, n, m, imm, 11⟩) by
    rw [hs0, hs2]
    show strL (names.getD 19 []) ++ strL [32] ++ strL (bars.getD 11 []) = _
    rw [strL_app, strL_app]
    congr 1
    all_goals simp only [printR, Int.reduceEq, or_self, or_true, true_or, or_false, false_or, if_true, if_false, false_and, true_and, and_false, and_true, Int.reduceLE, Int.reduceLT, Int.reduceMod, and_self, reduceIte]
    all_goals simp [at!])
  have C0 := Lib.hid (show w.cell? ⟨0, 19, none⟩ = some (.string (strL (names.getD 19 []))) from ht.nm 19 (by decide))
  rw [← hs0] at C0
  have C2 := Lib.hid (show w.cell? ⟨2, 11, none⟩ = some (.string (strL (bars.getD 11 []))) from ht.br 11 (by decide))
  rw [← hs2] at C2
  clear ht hr hs0 hs2
  go_enter Tryd.func10, Tryd.ntmps10
  go_upto_region 1 with fail
  refine to_cls ?_
  intro U0 hU0 y0
  have r_b : ∀ z : Wb U0, Row z.at (w.heap.size) [.int .i64 19, .int .i64 d, .int .i64 n, .int .i64 m, .int .i64 imm, .int .i64 11] 23 := Row.next (Row.new _ [.int .i64 19, .int .i64 d, .int .i64 n, .int .i64 m, .int .i64 imm, .int .i64 11] _) hU0
  have KK := Lib.hid (KB.next (KB.alloc (Below.refl _ _) _) hU0)
  clear hU0
  obtain ⟨c_b_0, c_b_1, c_b_2, c_b_3, c_b_4, c_b_5⟩ := six r_b
  have TZ := Lib.hid fun z => TH.out.below (KK.out z)
  have cc0 := keepc KK C0
  have cc2 := keepc KK C2
  go_wp2_with fail
  refine (RI.out _ (TZ.out y0)).mono ?_
  rintro e w1 ⟨rfl, g⟩
  obtain ⟨y1, rfl⟩ := Wb.next (x := y0) g
  clear g
  go_wp2_with fail
  refine to_pt ?_
  intro U2 hU2
  clear c_b_0 c_b_1 c_b_2 c_b_3 c_b_4 c_b_5 cc0 cc2
  have r_b : ∀ z : Wb U2, Row z.at (w.heap.size) [.int .i64 19, .int .i64 d, .int .i64 n, .int .i64 m, .int .i64 imm, .int .i64 11] 23 := Row.next (r_b y1) hU2
  have KK := Lib.hid (KB.next (KK.out y1) hU2)
  clear hU2
  obtain ⟨c_b_0, c_b_1, c_b_2, c_b_3, c_b_4, c_b_5⟩ := six r_b
  have TZ := Lib.hid fun z => TH.out.below (KK.out z)
  have cc0 := keepc KK C0
  have cc2 := keepc KK C2
  refine wp_region_wb (by kernel_rfl) (by kernel_rfl) ?_
  repeat (go_big_quiet_step ((go_at_call 18; exact Calls.wb (RG.out _ (TZ.out _) _ (by first | assumption | decide) (by first | assumption | decide)))))
  refine wpQuiet_nil ?_
  rintro _ ⟨y3, rfl⟩
  go_wp2
  go_ret
  exact ⟨by rw [← SA.out]; rfl, KK.out y3⟩

set_option maxRecDepth 100000 in
set_option maxHeartbeats 3200000 in
theorem aprint_19_13 (d n m imm : Int) (w : World) (ht : Tab w) (hr : GrI.right ⟨19, d, n, m, imm, 13⟩) : Calls Tryd.prog 10 #[.agg #[.int .i64 19, .int .i64 d, .int .i64 n, .int .i64 m, .int .i64 imm, .int .i64 13]] w fun e w' => e = .returned (.string (strL (printR ⟨19, d, n, m, imm, 13⟩))) ∧ Below w.heap.size w w' := by
  obtain ⟨b1, b2⟩ := GrI.imm_bd hr
  obtain ⟨dn0, dn1, dn2, dn3, dn4, dn5⟩ := reg_bd hr
  simp only at b1 b2 dn0 dn1 dn2 dn3 dn4 dn5
  have TH := Lib.hid ht
  have RI := Lib.hid (fun w2 (t2 : Tab w2) => right_yes ⟨19, d, n, m, imm, 13⟩ w2 t2.sh ⟨b1, b2⟩ (by simpa [encB] using hr))
  have RG := Lib.hid (fun w2 (t2 : Tab w2) (n : Int) (h0 : 0 ≤ n) (h1 : n ≤ 31) => reg_any n w2 t2.tb (by omega) (by omega))
  obtain ⟨s0, hs0⟩ : ∃ s, s = strL (names.getD 19 []) := ⟨_, rfl⟩
  have hq0 : s0.size = 3 := by rw [hs0]; rfl
  obtain ⟨s2, hs2⟩ : ∃ s, s = strL (bars.getD 13 []) := ⟨_, rfl⟩
  have hq2 : s2.size = 2 := by rw [hs2]; rfl
  have N2 : ¬ 9223372036854775807 < 4 := by omega
  have N3 : ¬ 9223372036854775807 < 6 := by omega
  have M3 : ¬ 9223372036854775807 < 3 + 1 + 2 := by omega
  have SA := Lib.hid (show (s0 ++ ⟨#[32]⟩ ++ s2 : ByteArray) = strL (printR ⟨19, d, n, m, imm, 13⟩) by
    rw [hs0, hs2]
    show strL (names.getD 19 []) ++ strL [32] ++ strL (bars.getD 13 []) = _
    rw [strL_app, strL_app]
    congr 1
    all_goals simp only [printR, Int.reduceEq, or_self, or_true, true_or, or_false, false_or, if_true, if_false, false_and, true_and, and_false, and_true, Int.reduceLE, Int.reduceLT, Int.reduceMod, and_self, reduceIte]
    all_goals simp [at!])
  have C0 := Lib.hid (show w.cell? ⟨0, 19, none⟩ = some (.string (strL (names.getD 19 []))) from ht.nm 19 (by decide))
  rw [← hs0] at C0
  have C2 := Lib.hid (show w.cell? ⟨2, 13, none⟩ = some (.string (strL (bars.getD 13 []))) from ht.br 13 (by decide))
  rw [← hs2] at C2
  clear ht hr hs0 hs2
  go_enter Tryd.func10, Tryd.ntmps10
  go_upto_region 1 with fail
  refine to_cls ?_
  intro U0 hU0 y0
  have r_b : ∀ z : Wb U0, Row z.at (w.heap.size) [.int .i64 19, .int .i64 d, .int .i64 n, .int .i64 m, .int .i64 imm, .int .i64 13] 23 := Row.next (Row.new _ [.int .i64 19, .int .i64 d, .int .i64 n, .int .i64 m, .int .i64 imm, .int .i64 13] _) hU0
  have KK := Lib.hid (KB.next (KB.alloc (Below.refl _ _) _) hU0)
  clear hU0
  obtain ⟨c_b_0, c_b_1, c_b_2, c_b_3, c_b_4, c_b_5⟩ := six r_b
  have TZ := Lib.hid fun z => TH.out.below (KK.out z)
  have cc0 := keepc KK C0
  have cc2 := keepc KK C2
  go_wp2_with fail
  refine (RI.out _ (TZ.out y0)).mono ?_
  rintro e w1 ⟨rfl, g⟩
  obtain ⟨y1, rfl⟩ := Wb.next (x := y0) g
  clear g
  go_wp2_with fail
  refine to_pt ?_
  intro U2 hU2
  clear c_b_0 c_b_1 c_b_2 c_b_3 c_b_4 c_b_5 cc0 cc2
  have r_b : ∀ z : Wb U2, Row z.at (w.heap.size) [.int .i64 19, .int .i64 d, .int .i64 n, .int .i64 m, .int .i64 imm, .int .i64 13] 23 := Row.next (r_b y1) hU2
  have KK := Lib.hid (KB.next (KK.out y1) hU2)
  clear hU2
  obtain ⟨c_b_0, c_b_1, c_b_2, c_b_3, c_b_4, c_b_5⟩ := six r_b
  have TZ := Lib.hid fun z => TH.out.below (KK.out z)
  have cc0 := keepc KK C0
  have cc2 := keepc KK C2
  refine wp_region_wb (by kernel_rfl) (by kernel_rfl) ?_
  repeat (go_big_quiet_step ((go_at_call 18; exact Calls.wb (RG.out _ (TZ.out _) _ (by first | assumption | decide) (by first | assumption | decide)))))
  refine wpQuiet_nil ?_
  rintro _ ⟨y3, rfl⟩
  go_wp2
  go_ret
  exact ⟨by rw [← SA.out]; rfl, KK.out y3⟩

set_option maxRecDepth 100000 in
set_option maxHeartbeats 3200000 in
theorem aprint_19_14 (d n m imm : Int) (w : World) (ht : Tab w) (hr : GrI.right ⟨19, d, n, m, imm, 14⟩) : Calls Tryd.prog 10 #[.agg #[.int .i64 19, .int .i64 d, .int .i64 n, .int .i64 m, .int .i64 imm, .int .i64 14]] w fun e w' => e = .returned (.string (strL (printR ⟨19, d, n, m, imm, 14⟩))) ∧ Below w.heap.size w w' := by
  obtain ⟨b1, b2⟩ := GrI.imm_bd hr
  obtain ⟨dn0, dn1, dn2, dn3, dn4, dn5⟩ := reg_bd hr
  simp only at b1 b2 dn0 dn1 dn2 dn3 dn4 dn5
  have TH := Lib.hid ht
  have RI := Lib.hid (fun w2 (t2 : Tab w2) => right_yes ⟨19, d, n, m, imm, 14⟩ w2 t2.sh ⟨b1, b2⟩ (by simpa [encB] using hr))
  have RG := Lib.hid (fun w2 (t2 : Tab w2) (n : Int) (h0 : 0 ≤ n) (h1 : n ≤ 31) => reg_any n w2 t2.tb (by omega) (by omega))
  obtain ⟨s0, hs0⟩ : ∃ s, s = strL (names.getD 19 []) := ⟨_, rfl⟩
  have hq0 : s0.size = 3 := by rw [hs0]; rfl
  obtain ⟨s2, hs2⟩ : ∃ s, s = strL (bars.getD 14 []) := ⟨_, rfl⟩
  have hq2 : s2.size = 2 := by rw [hs2]; rfl
  have N2 : ¬ 9223372036854775807 < 4 := by omega
  have N3 : ¬ 9223372036854775807 < 6 := by omega
  have M3 : ¬ 9223372036854775807 < 3 + 1 + 2 := by omega
  have SA := Lib.hid (show (s0 ++ ⟨#[32]⟩ ++ s2 : ByteArray) = strL (printR ⟨19, d, n, m, imm, 14⟩) by
    rw [hs0, hs2]
    show strL (names.getD 19 []) ++ strL [32] ++ strL (bars.getD 14 []) = _
    rw [strL_app, strL_app]
    congr 1
    all_goals simp only [printR, Int.reduceEq, or_self, or_true, true_or, or_false, false_or, if_true, if_false, false_and, true_and, and_false, and_true, Int.reduceLE, Int.reduceLT, Int.reduceMod, and_self, reduceIte]
    all_goals simp [at!])
  have C0 := Lib.hid (show w.cell? ⟨0, 19, none⟩ = some (.string (strL (names.getD 19 []))) from ht.nm 19 (by decide))
  rw [← hs0] at C0
  have C2 := Lib.hid (show w.cell? ⟨2, 14, none⟩ = some (.string (strL (bars.getD 14 []))) from ht.br 14 (by decide))
  rw [← hs2] at C2
  clear ht hr hs0 hs2
  go_enter Tryd.func10, Tryd.ntmps10
  go_upto_region 1 with fail
  refine to_cls ?_
  intro U0 hU0 y0
  have r_b : ∀ z : Wb U0, Row z.at (w.heap.size) [.int .i64 19, .int .i64 d, .int .i64 n, .int .i64 m, .int .i64 imm, .int .i64 14] 23 := Row.next (Row.new _ [.int .i64 19, .int .i64 d, .int .i64 n, .int .i64 m, .int .i64 imm, .int .i64 14] _) hU0
  have KK := Lib.hid (KB.next (KB.alloc (Below.refl _ _) _) hU0)
  clear hU0
  obtain ⟨c_b_0, c_b_1, c_b_2, c_b_3, c_b_4, c_b_5⟩ := six r_b
  have TZ := Lib.hid fun z => TH.out.below (KK.out z)
  have cc0 := keepc KK C0
  have cc2 := keepc KK C2
  go_wp2_with fail
  refine (RI.out _ (TZ.out y0)).mono ?_
  rintro e w1 ⟨rfl, g⟩
  obtain ⟨y1, rfl⟩ := Wb.next (x := y0) g
  clear g
  go_wp2_with fail
  refine to_pt ?_
  intro U2 hU2
  clear c_b_0 c_b_1 c_b_2 c_b_3 c_b_4 c_b_5 cc0 cc2
  have r_b : ∀ z : Wb U2, Row z.at (w.heap.size) [.int .i64 19, .int .i64 d, .int .i64 n, .int .i64 m, .int .i64 imm, .int .i64 14] 23 := Row.next (r_b y1) hU2
  have KK := Lib.hid (KB.next (KK.out y1) hU2)
  clear hU2
  obtain ⟨c_b_0, c_b_1, c_b_2, c_b_3, c_b_4, c_b_5⟩ := six r_b
  have TZ := Lib.hid fun z => TH.out.below (KK.out z)
  have cc0 := keepc KK C0
  have cc2 := keepc KK C2
  refine wp_region_wb (by kernel_rfl) (by kernel_rfl) ?_
  repeat (go_big_quiet_step ((go_at_call 18; exact Calls.wb (RG.out _ (TZ.out _) _ (by first | assumption | decide) (by first | assumption | decide)))))
  refine wpQuiet_nil ?_
  rintro _ ⟨y3, rfl⟩
  go_wp2
  go_ret
  exact ⟨by rw [← SA.out]; rfl, KK.out y3⟩

set_option maxRecDepth 100000 in
set_option maxHeartbeats 3200000 in
theorem aprint_19_15 (d n m imm : Int) (w : World) (ht : Tab w) (hr : GrI.right ⟨19, d, n, m, imm, 15⟩) : Calls Tryd.prog 10 #[.agg #[.int .i64 19, .int .i64 d, .int .i64 n, .int .i64 m, .int .i64 imm, .int .i64 15]] w fun e w' => e = .returned (.string (strL (printR ⟨19, d, n, m, imm, 15⟩))) ∧ Below w.heap.size w w' := by
  obtain ⟨b1, b2⟩ := GrI.imm_bd hr
  obtain ⟨dn0, dn1, dn2, dn3, dn4, dn5⟩ := reg_bd hr
  simp only at b1 b2 dn0 dn1 dn2 dn3 dn4 dn5
  have TH := Lib.hid ht
  have RI := Lib.hid (fun w2 (t2 : Tab w2) => right_yes ⟨19, d, n, m, imm, 15⟩ w2 t2.sh ⟨b1, b2⟩ (by simpa [encB] using hr))
  have RG := Lib.hid (fun w2 (t2 : Tab w2) (n : Int) (h0 : 0 ≤ n) (h1 : n ≤ 31) => reg_any n w2 t2.tb (by omega) (by omega))
  obtain ⟨s0, hs0⟩ : ∃ s, s = strL (names.getD 19 []) := ⟨_, rfl⟩
  have hq0 : s0.size = 3 := by rw [hs0]; rfl
  obtain ⟨s2, hs2⟩ : ∃ s, s = strL (bars.getD 15 []) := ⟨_, rfl⟩
  have hq2 : s2.size = 2 := by rw [hs2]; rfl
  have N2 : ¬ 9223372036854775807 < 4 := by omega
  have N3 : ¬ 9223372036854775807 < 6 := by omega
  have M3 : ¬ 9223372036854775807 < 3 + 1 + 2 := by omega
  have SA := Lib.hid (show (s0 ++ ⟨#[32]⟩ ++ s2 : ByteArray) = strL (printR ⟨19, d, n, m, imm, 15⟩) by
    rw [hs0, hs2]
    show strL (names.getD 19 []) ++ strL [32] ++ strL (bars.getD 15 []) = _
    rw [strL_app, strL_app]
    congr 1
    all_goals simp only [printR, Int.reduceEq, or_self, or_true, true_or, or_false, false_or, if_true, if_false, false_and, true_and, and_false, and_true, Int.reduceLE, Int.reduceLT, Int.reduceMod, and_self, reduceIte]
    all_goals simp [at!])
  have C0 := Lib.hid (show w.cell? ⟨0, 19, none⟩ = some (.string (strL (names.getD 19 []))) from ht.nm 19 (by decide))
  rw [← hs0] at C0
  have C2 := Lib.hid (show w.cell? ⟨2, 15, none⟩ = some (.string (strL (bars.getD 15 []))) from ht.br 15 (by decide))
  rw [← hs2] at C2
  clear ht hr hs0 hs2
  go_enter Tryd.func10, Tryd.ntmps10
  go_upto_region 1 with fail
  refine to_cls ?_
  intro U0 hU0 y0
  have r_b : ∀ z : Wb U0, Row z.at (w.heap.size) [.int .i64 19, .int .i64 d, .int .i64 n, .int .i64 m, .int .i64 imm, .int .i64 15] 23 := Row.next (Row.new _ [.int .i64 19, .int .i64 d, .int .i64 n, .int .i64 m, .int .i64 imm, .int .i64 15] _) hU0
  have KK := Lib.hid (KB.next (KB.alloc (Below.refl _ _) _) hU0)
  clear hU0
  obtain ⟨c_b_0, c_b_1, c_b_2, c_b_3, c_b_4, c_b_5⟩ := six r_b
  have TZ := Lib.hid fun z => TH.out.below (KK.out z)
  have cc0 := keepc KK C0
  have cc2 := keepc KK C2
  go_wp2_with fail
  refine (RI.out _ (TZ.out y0)).mono ?_
  rintro e w1 ⟨rfl, g⟩
  obtain ⟨y1, rfl⟩ := Wb.next (x := y0) g
  clear g
  go_wp2_with fail
  refine to_pt ?_
  intro U2 hU2
  clear c_b_0 c_b_1 c_b_2 c_b_3 c_b_4 c_b_5 cc0 cc2
  have r_b : ∀ z : Wb U2, Row z.at (w.heap.size) [.int .i64 19, .int .i64 d, .int .i64 n, .int .i64 m, .int .i64 imm, .int .i64 15] 23 := Row.next (r_b y1) hU2
  have KK := Lib.hid (KB.next (KK.out y1) hU2)
  clear hU2
  obtain ⟨c_b_0, c_b_1, c_b_2, c_b_3, c_b_4, c_b_5⟩ := six r_b
  have TZ := Lib.hid fun z => TH.out.below (KK.out z)
  have cc0 := keepc KK C0
  have cc2 := keepc KK C2
  refine wp_region_wb (by kernel_rfl) (by kernel_rfl) ?_
  repeat (go_big_quiet_step ((go_at_call 18; exact Calls.wb (RG.out _ (TZ.out _) _ (by first | assumption | decide) (by first | assumption | decide)))))
  refine wpQuiet_nil ?_
  rintro _ ⟨y3, rfl⟩
  go_wp2
  go_ret
  exact ⟨by rw [← SA.out]; rfl, KK.out y3⟩

end Go.Proofs.YtebpmngllljkaaaDoor
