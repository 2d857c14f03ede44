/-
  Layer 4, the walks: Print.
-/
import Derived.Test.YtebpmngllljkaaaDoorV2
set_option linter.unusedSimpArgs false
set_option linter.unusedVariables false
namespace Go.Proofs.YtebpmngllljkaaaDoor
open Go.RowKit GrP GrA


set_option maxRecDepth 100000 in
set_option maxHeartbeats 3200000 in
theorem aprint_18_9 (d n m imm : Int) (w : World) (ht : Tab w) (hr : GrI.right ⟨18, d, n, m, imm, 9⟩) : Calls Tryd.prog 10 #[.agg #[.int .i64 18, .int .i64 d, .int .i64 n, .int .i64 m, .int .i64 imm, .int .i64 9]] w fun e w' => e = .returned (.string (strL (printR ⟨18, d, n, m, imm, 9⟩))) ∧ Below w.heap.size w w' := by
  obtain ⟨b1, b2⟩ := GrI.imm_bd hr
  obtain ⟨dn0, dn1, dn2, dn3, dn4, dn5⟩ := reg_bd hr
  simp only at b1 b2 dn0 dn1 dn2 dn3 dn4 dn5
  have TH := Lib.hid ht
  have RI := Lib.hid (fun w2 (t2 : Tab w2) => right_yes ⟨18, d, n, m, imm, 9⟩ w2 t2.sh ⟨b1, b2⟩ (by simpa [encB] using hr))
  have RG := Lib.hid (fun w2 (t2 : Tab w2) (n : Int) (h0 : 0 ≤ n) (h1 : n ≤ 31) => reg_any n w2 t2.tb (by omega) (by omega))
  obtain ⟨s0, hs0⟩ : ∃ s, s = strL (names.getD 18 []) := ⟨_, rfl⟩
  have hq0 : s0.size = 3 := by rw [hs0]; rfl
  obtain ⟨s2, hs2⟩ : ∃ s, s = strL (bars.getD 9 []) := ⟨_, rfl⟩
  have hq2 : s2.size = 5 := by rw [hs2]; rfl
  have N2 : ¬ 9223372036854775807 < 4 := by omega
  have N3 : ¬ 9223372036854775807 < 9 := by omega
  have M3 : ¬ 9223372036854775807 < 3 + 1 + 5 := by omega
  have SA := Lib.hid (show (s0 ++ ⟨#[32]⟩ ++ s2 : ByteArray) = strL (printR ⟨18, d, n, m, imm, 9⟩) by
    rw [hs0, hs2]
    show strL (names.getD 18 []) ++ strL [32] ++ strL (bars.getD 9 []) = _
    rw [strL_app, strL_app]
    congr 1
    all_goals simp only [printR, Int.reduceEq, or_self, or_true, true_or, or_false, false_or, if_true, if_false, false_and, true_and, and_false, and_true, Int.reduceLE, Int.reduceLT, Int.reduceMod, and_self, reduceIte]
    all_goals simp [at!])
  have C0 := Lib.hid (show w.cell? ⟨0, 18, none⟩ = some (.string (strL (names.getD 18 []))) from ht.nm 18 (by decide))
  rw [← hs0] at C0
  have C2 := Lib.hid (show w.cell? ⟨2, 9, none⟩ = some (.string (strL (bars.getD 9 []))) from ht.br 9 (by decide))
  rw [← hs2] at C2
  clear ht hr hs0 hs2
  go_enter Tryd.func10, Tryd.ntmps10
  go_upto_region 1 with fail
  refine to_cls ?_
  intro U0 hU0 y0
  have r_b : ∀ z : Wb U0, Row z.at (w.heap.size) [.int .i64 18, .int .i64 d, .int .i64 n, .int .i64 m, .int .i64 imm, .int .i64 9] 23 := Row.next (Row.new _ [.int .i64 18, .int .i64 d, .int .i64 n, .int .i64 m, .int .i64 imm, .int .i64 9] _) hU0
  have KK := Lib.hid (KB.next (KB.alloc (Below.refl _ _) _) hU0)
  clear hU0
  obtain ⟨c_b_0, c_b_1, c_b_2, c_b_3, c_b_4, c_b_5⟩ := six r_b
  have TZ := Lib.hid fun z => TH.out.below (KK.out z)
  have cc0 := keepc KK C0
  have cc2 := keepc KK C2
  go_wp2_with fail
  refine (RI.out _ (TZ.out y0)).mono ?_
  rintro e w1 ⟨rfl, g⟩
  obtain ⟨y1, rfl⟩ := Wb.next (x := y0) g
  clear g
  go_wp2_with fail
  refine to_pt ?_
  intro U2 hU2
  clear c_b_0 c_b_1 c_b_2 c_b_3 c_b_4 c_b_5 cc0 cc2
  have r_b : ∀ z : Wb U2, Row z.at (w.heap.size) [.int .i64 18, .int .i64 d, .int .i64 n, .int .i64 m, .int .i64 imm, .int .i64 9] 23 := Row.next (r_b y1) hU2
  have KK := Lib.hid (KB.next (KK.out y1) hU2)
  clear hU2
  obtain ⟨c_b_0, c_b_1, c_b_2, c_b_3, c_b_4, c_b_5⟩ := six r_b
  have TZ := Lib.hid fun z => TH.out.below (KK.out z)
  have cc0 := keepc KK C0
  have cc2 := keepc KK C2
  refine wp_region_wb (by kernel_rfl) (by kernel_rfl) ?_
  repeat (go_big_quiet_step ((go_at_call 18; exact Calls.wb (RG.out _ (TZ.out _) _ (by first | assumption | decide) (by first | assumption | decide)))))
  refine wpQuiet_nil ?_
  rintro _ ⟨y3, rfl⟩
  go_wp2
  go_ret
  exact ⟨by rw [← SA.out]; rfl, KK.out y3⟩

set_option maxRecDepth 100000 in
set_option maxHeartbeats 3200000 in
theorem aprint_18_10 (d n m imm : Int) (w : World) (ht : Tab w) (hr : GrI.right ⟨18, d, n, m, imm, 10⟩) : Calls Tryd.prog 10 #[.agg #[.int .i64 18, .int .i64 d, .int .i64 n, .int .i64 m, .int .i64 imm, .int .i64 10]] w fun e w' => e = .returned (.string (strL (printR ⟨18, d, n, m, imm, 10⟩))) ∧ Below w.heap.size w w' := by
  obtain ⟨b1, b2⟩ := GrI.imm_bd hr
  obtain ⟨dn0, dn1, dn2, dn3, dn4, dn5⟩ := reg_bd hr
  simp only at b1 b2 dn0 dn1 dn2 dn3 dn4 dn5
  have TH := Lib.hid ht
  have RI := Lib.hid (fun w2 (t2 : Tab w2) => right_yes ⟨18, d, n, m, imm, 10⟩ w2 t2.sh ⟨b1, b2⟩ (by simpa [encB] using hr))
  have RG := Lib.hid (fun w2 (t2 : Tab w2) (n : Int) (h0 : 0 ≤ n) (h1 : n ≤ 31) => reg_any n w2 t2.tb (by omega) (by omega))
  obtain ⟨s0, hs0⟩ : ∃ s, s = strL (names.getD 18 []) := ⟨_, rfl⟩
  have hq0 : s0.size = 3 := by rw [hs0]; rfl
  obtain ⟨s2, hs2⟩ : ∃ s, s = strL (bars.getD 10 []) := ⟨_, rfl⟩
  have hq2 : s2.size = 5 := by rw [hs2]; rfl
  have N2 : ¬ 9223372036854775807 < 4 := by omega
  have N3 : ¬ 9223372036854775807 < 9 := by omega
  have M3 : ¬ 9223372036854775807 < 3 + 1 + 5 := by omega
  have SA := Lib.hid (show (s0 ++ ⟨#[32]⟩ ++ s2 : ByteArray) = strL (printR ⟨18, d, n, m, imm, 10⟩) by
    rw [hs0, hs2]
    show strL (names.getD 18 []) ++ strL [32] ++ strL (bars.getD 10 []) = _
    rw [strL_app, strL_app]
    congr 1
    all_goals simp only [printR, Int.reduceEq, or_self, or_true, true_or, or_false, false_or, if_true, if_false, false_and, true_and, and_false, and_true, Int.reduceLE, Int.reduceLT, Int.reduceMod, and_self, reduceIte]
    all_goals simp [at!])
  have C0 := Lib.hid (show w.cell? ⟨0, 18, none⟩ = some (.string (strL (names.getD 18 []))) from ht.nm 18 (by decide))
  rw [← hs0] at C0
  have C2 := Lib.hid (show w.cell? ⟨2, 10, none⟩ = some (.string (strL (bars.getD 10 []))) from ht.br 10 (by decide))
  rw [← hs2] at C2
  clear ht hr hs0 hs2
  go_enter Tryd.func10, Tryd.ntmps10
  go_upto_region 1 with fail
  refine to_cls ?_
  intro U0 hU0 y0
  have r_b : ∀ z : Wb U0, Row z.at (w.heap.size) [.int .i64 18, .int .i64 d, .int .i64 n, .int .i64 m, .int .i64 imm, .int .i64 10] 23 := Row.next (Row.new _ [.int .i64 18, .int .i64 d, .int .i64 n, .int .i64 m, .int .i64 imm, .int .i64 10] _) hU0
  have KK := Lib.hid (KB.next (KB.alloc (Below.refl _ _) _) hU0)
  clear hU0
  obtain ⟨c_b_0, c_b_1, c_b_2, c_b_3, c_b_4, c_b_5⟩ := six r_b
  have TZ := Lib.hid fun z => TH.out.below (KK.out z)
  have cc0 := keepc KK C0
  have cc2 := keepc KK C2
  go_wp2_with fail
  refine (RI.out _ (TZ.out y0)).mono ?_
  rintro e w1 ⟨rfl, g⟩
  obtain ⟨y1, rfl⟩ := Wb.next (x := y0) g
  clear g
  go_wp2_with fail
  refine to_pt ?_
  intro U2 hU2
  clear c_b_0 c_b_1 c_b_2 c_b_3 c_b_4 c_b_5 cc0 cc2
  have r_b : ∀ z : Wb U2, Row z.at (w.heap.size) [.int .i64 18, .int .i64 d, .int .i64 n, .int .i64 m, .int .i64 imm, .int .i64 10] 23 := Row.next (r_b y1) hU2
  have KK := Lib.hid (KB.next (KK.out y1) hU2)
  clear hU2
  obtain ⟨c_b_0, c_b_1, c_b_2, c_b_3, c_b_4, c_b_5⟩ := six r_b
  have TZ := Lib.hid fun z => TH.out.below (KK.out z)
  have cc0 := keepc KK C0
  have cc2 := keepc KK C2
  refine wp_region_wb (by kernel_rfl) (by kernel_rfl) ?_
  repeat (go_big_quiet_step ((go_at_call 18; exact Calls.wb (RG.out _ (TZ.out _) _ (by first | assumption | decide) (by first | assumption | decide)))))
  refine wpQuiet_nil ?_
  rintro _ ⟨y3, rfl⟩
  go_wp2
  go_ret
  exact ⟨by rw [← SA.out]; rfl, KK.out y3⟩

set_option maxRecDepth 100000 in
set_option maxHeartbeats 3200000 in
theorem aprint_18_11 (d n m imm : Int) (w : World) (ht : Tab w) (hr : GrI.right ⟨18, d, n, m, imm, 11⟩) : Calls Tryd.prog 10 #[.agg #[.int .i64 18, .int .i64 d, .int .i64 n, .int .i64 m, .int .i64 imm, .int .i64 11]] w fun e w' => e = .returned (.string (strL (printR ⟨18, d, n, m, imm, 11⟩))) ∧ Below w.heap.size w w' := by
  obtain ⟨b1, b2⟩ := GrI.imm_bd hr
  obtain ⟨dn0, dn1, dn2, dn3, dn4, dn5⟩ := reg_bd hr
  simp only at b1 b2 dn0 dn1 dn2 dn3 dn4 dn5
  have TH := Lib.hid ht
  have RI := Lib.hid (fun w2 (t2 : Tab w2) => right_yes ⟨18, d, n, m, imm, 11⟩ w2 t2.sh ⟨b1, b2⟩ (by simpa [encB] using hr))
  have RG := Lib.hid (fun w2 (t2 : Tab w2) (n : Int) (h0 : 0 ≤ n) (h1 : n ≤ 31) => reg_any n w2 t2.tb (by omega) (by omega))
  obtain ⟨s0, hs0⟩ : ∃ s, s = strL (names.getD 18 []) := ⟨_, rfl⟩
  have hq0 : s0.size = 3 := by rw [hs0]; rfl
  obtain ⟨s2, hs2⟩ : ∃ s, s = strL (bars.getD 11 []) := ⟨_, rfl⟩
  have hq2 : s2.size = 3 := by rw [hs2]; rfl
  have N2 : ¬ 9223372036854775807 < 4 := by omega
  have N3 : ¬ 9223372036854775807 < 7 := by omega
  have M3 : ¬ 9223372036854775807 < 3 + 1 + 3 := by omega
  have SA := Lib.hid (show (s0 ++ ⟨#[32]⟩ ++ s2 : ByteArray) = strL (printR ⟨18, d, n, m, imm, 11⟩) by
    rw [hs0, hs2]
    show strL (names.getD 18 []) ++ strL [32] ++ strL (bars.getD 11 []) = _
    rw [strL_app, strL_app]
    congr 1
    all_goals simp only [printR, Int.reduceEq, or_self, or_true, true_or, or_false, false_or, if_true, if_false, false_and, true_and, and_false, and_true, Int.reduceLE, Int.reduceLT, Int.reduceMod, and_self, reduceIte]
    all_goals simp [at!])
  have C0 := Lib.hid (show w.cell? ⟨0, 18, none⟩ = some (.string (strL (names.getD 18 []))) from ht.nm 18 (by decide))
  rw [← hs0] at C0
  have C2 := Lib.hid (show w.cell? ⟨2, 11, none⟩ = some (.string (strL (bars.getD 11 []))) from ht.br 11 (by decide))
  rw [← hs2] at C2
  clear ht hr hs0 hs2
  go_enter Tryd.func10, Tryd.ntmps10
  go_upto_region 1 with fail
  refine to_cls ?_
  intro U0 hU0 y0
  have r_b : ∀ z : Wb U0, Row z.at (w.heap.size) [.int .i64 18, .int .i64 d, .int .i64 n, .int .i64 m, .int .i64 imm, .int .i64 11] 23 := Row.next (Row.new _ [.int .i64 18, .int .i64 d, .int .i64 n, .int .i64 m, .int .i64 imm, .int .i64 11] _) hU0
  have KK := Lib.hid (KB.next (KB.alloc (Below.refl _ _) _) hU0)
  clear hU0
  obtain ⟨c_b_0, c_b_1, c_b_2, c_b_3, c_b_4, c_b_5⟩ := six r_b
  have TZ := Lib.hid fun z => TH.out.below (KK.out z)
  have cc0 := keepc KK C0
  have cc2 := keepc KK C2
  go_wp2_with fail
  refine (RI.out _ (TZ.out y0)).mono ?_
  rintro e w1 ⟨rfl, g⟩
  obtain ⟨y1, rfl⟩ := Wb.next (x := y0) g
  clear g
  go_wp2_with fail
  refine to_pt ?_
  intro U2 hU2
  clear c_b_0 c_b_1 c_b_2 c_b_3 c_b_4 c_b_5 cc0 cc2
  have r_b : ∀ z : Wb U2, Row z.at (w.heap.size) [.int .i64 18, .int .i64 d, .int .i64 n, .int .i64 m, .int .i64 imm, .int .i64 11] 23 := Row.next (r_b y1) hU2
  have KK := Lib.hid (KB.next (KK.out y1) hU2)
  clear hU2
  obtain ⟨c_b_0, c_b_1, c_b_2, c_b_3, c_b_4, c_b_5⟩ := six r_b
  have TZ := Lib.hid fun z => TH.out.below (KK.out z)
  have cc0 := keepc KK C0
  have cc2 := keepc KK C2
  refine wp_region_wb (by kernel_rfl) (by kernel_rfl) ?_
  repeat (go_big_quiet_step ((go_at_call 18; exact Calls.wb (RG.out _ (TZ.out _) _ (by first | assumption | decide) (by first | assumption | decide)))))
  refine wpQuiet_nil ?_
  rintro _ ⟨y3, rfl⟩
  go_wp2
  go_ret
  exact ⟨by rw [← SA.out]; rfl, KK.out y3⟩

set_option maxRecDepth 100000 in
set_option maxHeartbeats 3200000 in
theorem aprint_18_13 (d n m imm : Int) (w : World) (ht : Tab w) (hr : GrI.right ⟨18, d, n, m, imm, 13⟩) : Calls Tryd.prog 10 #[.agg #[.int .i64 18, .int .i64 d, .int .i64 n, .int .i64 m, .int .i64 imm, .int .i64 13]] w fun e w' => e = .returned (.string (strL (printR ⟨18, d, n, m, imm, 13⟩))) ∧ Below w.heap.size w w' := by
  obtain ⟨b1, b2⟩ := GrI.imm_bd hr
  obtain ⟨dn0, dn1, dn2, dn3, dn4, dn5⟩ := reg_bd hr
  simp only at b1 b2 dn0 dn1 dn2 dn3 dn4 dn5
  have TH := Lib.hid ht
  have RI := Lib.hid (fun w2 (t2 : Tab w2) => right_yes ⟨18, d, n, m, imm, 13⟩ w2 t2.sh ⟨b1, b2⟩ (by simpa [encB] using hr))
  have RG := Lib.hid (fun w2 (t2 : Tab w2) (n : Int) (h0 : 0 ≤ n) (h1 : n ≤ 31) => reg_any n w2 t2.tb (by omega) (by omega))
  obtain ⟨s0, hs0⟩ : ∃ s, s = strL (names.getD 18 []) := ⟨_, rfl⟩
  have hq0 : s0.size = 3 := by rw [hs0]; rfl
  obtain ⟨s2, hs2⟩ : ∃ s, s = strL (bars.getD 13 []) := ⟨_, rfl⟩
  have hq2 : s2.size = 2 := by rw [hs2]; rfl
  have N2 : ¬ 9223372036854775807 < 4 := by omega
  have N3 : ¬ 9223372036854775807 < 6 := by omega
  have M3 : ¬ 9223372036854775807 < 3 + 1 + 2 := by omega
  have SA := Lib.hid (show (s0 ++ ⟨#[32]⟩ ++ s2 : ByteArray) = strL (printR ⟨18, d, n, m, imm, 13⟩) by
    rw [hs0, hs2]
    show strL (names.getD 18 []) ++ strL [32] ++ strL (bars.getD 13 []) = _
    rw [strL_app, strL_app]
    congr 1
    all_goals simp only [printR, Int.reduceEq, or_self, or_true, true_or, or_false, false_or, if_true, if_false, false_and, true_and, and_false, and_true, Int.reduceLE, Int.reduceLT, Int.reduceMod, and_self, reduceIte]
    all_goals simp [at!])
  have C0 := Lib.hid (show w.cell? ⟨0, 18, none⟩ = some (.string (strL (names.getD 18 []))) from ht.nm 18 (by decide))
  rw [← hs0] at C0
  have C2 := Lib.hid (show w.cell? ⟨2, 13, none⟩ = some (.string (strL (bars.getD 13 []))) from ht.br 13 (by decide))
  rw [← hs2] at C2
  clear ht hr hs0 hs2
  go_enter Tryd.func10, Tryd.ntmps10
  go_upto_region 1 with fail
  refine to_cls ?_
  intro U0 hU0 y0
  have r_b : ∀ z : Wb U0, Row z.at (w.heap.size) [.int .i64 18, .int .i64 d, .int .i64 n, .int .i64 m, .int .i64 imm, .int .i64 13] 23 := Row.next (Row.new _ [.int .i64 18, .int .i64 d, .int .i64 n, .int .i64 m, .int .i64 imm, .int .i64 13] _) hU0
  have KK := Lib.hid (KB.next (KB.alloc (Below.refl _ _) _) hU0)
  clear hU0
  obtain ⟨c_b_0, c_b_1, c_b_2, c_b_3, c_b_4, c_b_5⟩ := six r_b
  have TZ := Lib.hid fun z => TH.out.below (KK.out z)
  have cc0 := keepc KK C0
  have cc2 := keepc KK C2
  go_wp2_with fail
  refine (RI.out _ (TZ.out y0)).mono ?_
  rintro e w1 ⟨rfl, g⟩
  obtain ⟨y1, rfl⟩ := Wb.next (x := y0) g
  clear g
  go_wp2_with fail
  refine to_pt ?_
  intro U2 hU2
  clear c_b_0 c_b_1 c_b_2 c_b_3 c_b_4 c_b_5 cc0 cc2
  have r_b : ∀ z : Wb U2, Row z.at (w.heap.size) [.int .i64 18, .int .i64 d, .int .i64 n, .int .i64 m, .int .i64 imm, .int .i64 13] 23 := Row.next (r_b y1) hU2
  have KK := Lib.hid (KB.next (KK.out y1) hU2)
  clear hU2
  obtain ⟨c_b_0, c_b_1, c_b_2, c_b_3, c_b_4, c_b_5⟩ := six r_b
  have TZ := Lib.hid fun z => TH.out.below (KK.out z)
  have cc0 := keepc KK C0
  have cc2 := keepc KK C2
  refine wp_region_wb (by kernel_rfl) (by kernel_rfl) ?_
  repeat (go_big_quiet_step ((go_at_call 18; exact Calls.wb (RG.out _ (TZ.out _) _ (by first | assumption | decide) (by first | assumption | decide)))))
  refine wpQuiet_nil ?_
  rintro _ ⟨y3, rfl⟩
  go_wp2
  go_ret
  exact ⟨by rw [← SA.out]; rfl, KK.out y3⟩

set_option maxRecDepth 100000 in
set_option maxHeartbeats 3200000 in
theorem aprint_18_14 (d n m imm : Int) (w : World) (ht : Tab w) (hr : GrI.right ⟨18, d, n, m, imm, 14⟩) : Calls Tryd.prog 10 #[.agg #[.int .i64 18, .int .i64 d, .int .i64 n, .int .i64 m, .int .i64 imm, .int .i64 14]] w fun e w' => e = .returned (.string (strL (printR ⟨18, d, n, m, imm, 14⟩))) ∧ Below w.heap.size w w' := by
  obtain ⟨b1, b2⟩ := GrI.imm_bd hr
  obtain ⟨dn0, dn1, dn2, dn3, dn4, dn5⟩ := reg_bd hr
  simp only at b1 b2 dn0 dn1 dn2 dn3 dn4 dn5
  have TH := Lib.hid ht
  have RI := Lib.hid (fun w2 (t2 : Tab w2) => right_yes ⟨18, d, n, m, imm, 14⟩ w2 t2.sh ⟨b1, b2⟩ (by simpa [encB] using hr))
  have RG := Lib.hid (fun w2 (t2 : Tab w2) (n : Int) (h0 : 0 ≤ n) (h1 : n ≤ 31) => reg_any n w2 t2.tb (by omega) (by omega))
  obtain ⟨s0, hs0⟩ : ∃ s, s = strL (names.getD 18 []) := ⟨_, rfl⟩
  have hq0 : s0.size = 3 := by rw [hs0]; rfl
  obtain ⟨s2, hs2⟩ : ∃ s, s = strL (bars.getD 14 []) := ⟨_, rfl⟩
  have hq2 : s2.size = 2 := by rw [hs2]; rfl
  have N2 : ¬ 9223372036854775807 < 4 := by omega
  have N3 : ¬ 9223372036854775807 < 6 := by omega
  have M3 : ¬ 9223372036854775807 < 3 + 1 + 2 := by omega
  have SA := Lib.hid (show (s0 ++ ⟨#[32]⟩ ++ s2 : ByteArray) = strL (printR ⟨18, d, n, m, imm, 14⟩) by
    rw [hs0, hs2]
    show strL (names.getD 18 []) ++ strL [32] ++ strL (bars.getD 14 []) = _
    rw [strL_app, strL_app]
    congr 1
    all_goals simp only [printR, Int.reduceEq, or_self, or_true, true_or, or_false, false_or, if_true, if_false, false_and, true_and, and_false, and_true, Int.reduceLE, Int.reduceLT, Int.reduceMod, and_self, reduceIte]
    all_goals simp [at!])
  have C0 := Lib.hid (show w.cell? ⟨0, 18, none⟩ = some (.string (strL (names.getD 18 []))) from ht.nm 18 (by decide))
  rw [← hs0] at C0
  have C2 := Lib.hid (show w.cell? ⟨2, 14, none⟩ = some (.string (strL (bars.getD 14 []))) from ht.br 14 (by decide))
  rw [← hs2] at C2
  clear ht hr hs0 hs2
  go_enter Tryd.func10, Tryd.ntmps10
  go_upto_region 1 with fail
  refine to_cls ?_
  intro U0 hU0 y0
  have r_b : ∀ z : Wb U0, Row z.at (w.heap.size) [.int .i64 18, .int .i64 d, .int .i64 n, .int .i64 m, .int .i64 imm, .int .i64 14] 23 := Row.next (Row.new _ [.int .i64 18, .int .i64 d, .int .i64 n, .int .i64 m, .int .i64 imm, .int .i64 14] _) hU0
  have KK := Lib.hid (KB.next (KB.alloc (Below.refl _ _) _) hU0)
  clear hU0
  obtain ⟨c_b_0, c_b_1, c_b_2, c_b_3, c_b_4, c_b_5⟩ := six r_b
  have TZ := Lib.hid fun z => TH.out.below (KK.out z)
  have cc0 := keepc KK C0
  have cc2 := keepc KK C2
  go_wp2_with fail
  refine (RI.out _ (TZ.out y0)).mono ?_
  rintro e w1 ⟨rfl, g⟩
  obtain ⟨y1, rfl⟩ := Wb.next (x := y0) g
  clear g
  go_wp2_with fail
  refine to_pt ?_
  intro U2 hU2
  clear c_b_0 c_b_1 c_b_2 c_b_3 c_b_4 c_b_5 cc0 cc2
  have r_b : ∀ z : Wb U2, Row z.at (w.heap.size) [.int .i64 18, .int .i64 d, .int .i64 n, .int .i64 m, .int .i64 imm, .int .i64 14] 23 := Row.next (r_b y1) hU2
  have KK := Lib.hid (KB.next (KK.out y1) hU2)
  clear hU2
  obtain ⟨c_b_0, c_b_1, c_b_2, c_b_3, c_b_4, c_b_5⟩ := six r_b
  have TZ := Lib.hid fun z => TH.out.below (KK.out z)
  have cc0 := keepc KK C0
  have cc2 := keepc KK C2
  refine wp_region_wb (by kernel_rfl) (by kernel_rfl) ?_
  repeat (go_big_quiet_step ((go_at_call 18; exact Calls.wb (RG.out _ (TZ.out _) _ (by first | assumption | decide) (by first | assumption | decide)))))
  refine wpQuiet_nil ?_
  rintro _ ⟨y3, rfl⟩
  go_wp2
  go_ret
  exact ⟨by rw [← SA.out]; rfl, KK.out y3⟩

set_option maxRecDepth 100000 in
set_option maxHeartbeats 3200000 in
theorem aprint_18_15 (d n m imm : Int) (w : World) (ht : Tab w) (hr : GrI.right ⟨18, d, n, m, imm, 15⟩) : Calls Tryd.prog 10 #[.agg #[.int .i64 18, .int .i64 d, .int .i64 n, .int .i64 m, .int .i64 imm, .int .i64 15]] w fun e w' => e = .returned (.string (strL (printR ⟨18, d, n, m, imm, 15⟩))) ∧ Below w.heap.size w w' := by
  obtain ⟨b1, b2⟩ := GrI.imm_bd hr
  obtain ⟨dn0, dn1, dn2, dn3, dn4, dn5⟩ := reg_bd hr
  simp only at b1 b2 dn0 dn1 dn2 dn3 dn4 dn5
  have TH := Lib.hid ht
  have RI := Lib.hid (fun w2 (t2 : Tab w2) => right_yes ⟨18, d, n, m, imm, 15⟩ w2 t2.sh ⟨b1, b2⟩ (by simpa [encB] using hr))
  have RG := Lib.hid (fun w2 (t2 : Tab w2) (n : Int) (h0 : 0 ≤ n) (h1 : n ≤ 31) => reg_any n w2 t2.tb (by omega) (by omega))
  obtain ⟨s0, hs0⟩ : ∃ s, s = strL (names.getD 18 []) := ⟨_, rfl⟩
  have hq0 : s0.size = 3 := by rw [hs0]; rfl
  obtain ⟨s2, hs2⟩ : ∃ s, s = strL (bars.getD 15 []) := ⟨_, rfl⟩
  have hq2 : s2.size = 2 := by rw [hs2]; rfl
  have N2 : ¬ 9223372036854775807 < 4 := by omega
  have N3 : ¬ 9223372036854775807 < 6 := by omega
  have M3 : ¬ 9223372036854775807 < 3 + 1 + 2 := by omega
  have SA := Lib.hid (show (s0 ++ ⟨#[32]⟩ ++ s2 : ByteArray) = strL (printR ⟨18, d, n, m, imm, 15⟩) by
    rw [hs0, hs2]
    show strL (names.getD 18 []) ++ strL [32] ++ strL (bars.getD 15 []) = _
    rw [strL_app, strL_app]
    congr 1
    all_goals simp only [printR, Int.reduceEq, or_self, or_true, true_or, or_false, false_or, if_true, if_false, false_and, true_and, and_false, and_true, Int.reduceLE, Int.reduceLT, Int.reduceMod, and_self, reduceIte]
    all_goals simp [at!])
  have C0 := Lib.hid (show w.cell? ⟨0, 18, none⟩ = some (.string (strL (names.getD 18 []))) from ht.nm 18 (by decide))
  rw [← hs0] at C0
  have C2 := Lib.hid (show w.cell? ⟨2, 15, none⟩ = some (.string (strL (bars.getD 15 []))) from ht.br 15 (by decide))
  rw [← hs2] at C2
  clear ht hr hs0 hs2
  go_enter Tryd.func10, Tryd.ntmps10
  go_upto_region 1 with fail
  refine to_cls ?_
  intro U0 hU0 y0
  have r_b : ∀ z : Wb U0, Row z.at (w.heap.size) [.int .i64 18, .int .i64 d, .int .i64 n, .int .i64 m, .int .i64 imm, .int .i64 15] 23 := Row.next (Row.new _ [.int .i64 18, .int .i64 d, .int .i64 n, .int .i64 m, .int .i64 imm, .int .i64 15] _) hU0
  have KK := Lib.hid (KB.next (KB.alloc (Below.refl _ _) _) hU0)
  clear hU0
  obtain ⟨c_b_0, c_b_1, c_b_2, c_b_3, c_b_4, c_b_5⟩ := six r_b
  have TZ := Lib.hid fun z => TH.out.below (KK.out z)
  have cc0 := keepc KK C0
  have cc2 := keepc KK C2
  go_wp2_with fail
  refine (RI.out _ (TZ.out y0)).mono ?_
  rintro e w1 ⟨rfl, g⟩
  obtain ⟨y1, rfl⟩ := Wb.next (x := y0) g
  clear g
  go_wp2_with fail
  refine to_pt ?_
  intro U2 hU2
  clear c_b_0 c_b_1 c_b_2 c_b_3 c_b_4 c_b_5 cc0 cc2
  have r_b : ∀ z : Wb U2, Row z.at (w.heap.size) [.int .i64 18, .int .i64 d, .int .i64 n, .int .i64 m, .int .i64 imm, .int .i64 15] 23 := Row.next (r_b y1) hU2
  have KK := Lib.hid (KB.next (KK.out y1) hU2)
  clear hU2
  obtain ⟨c_b_0, c_b_1, c_b_2, c_b_3, c_b_4, c_b_5⟩ := six r_b
  have TZ := Lib.hid fun z => TH.out.below (KK.out z)
  have cc0 := keepc KK C0
  have cc2 := keepc KK C2
  refine wp_region_wb (by kernel_rfl) (by kernel_rfl) ?_
  repeat (go_big_quiet_step ((go_at_call 18; exact Calls.wb (RG.out _ (TZ.out _) _ (by first | assumption | decide) (by first | assumption | decide)))))
  refine wpQuiet_nil ?_
  rintro _ ⟨y3, rfl⟩
  go_wp2
  go_ret
  exact ⟨by rw [← SA.out]; rfl, KK.out y3⟩

set_option maxRecDepth 100000 in
set_option maxHeartbeats 3200000 in
theorem aprint_21_0 (d n m imm : Int) (w : World) (ht : Tab w) (hr : GrI.right ⟨21, d, n, m, imm, 0⟩) : Calls Tryd.prog 10 #[.agg #[.int .i64 21, .int .i64 d, .int .i64 n, .int .i64 m, .int .i64 imm, .int .i64 0]] w fun e w' => e = .returned (.string (strL (printR ⟨21, d, n, m, imm, 0⟩))) ∧ Below w.heap.size w w' := by
  obtain ⟨b1, b2⟩ := GrI.imm_bd hr
  obtain ⟨dn0, dn1, dn2, dn3, dn4, dn5⟩ := reg_bd hr
  simp only at b1 b2 dn0 dn1 dn2 dn3 dn4 dn5
  have TH := Lib.hid ht
  have RI := Lib.hid (fun w2 (t2 : Tab w2) => right_yes ⟨21, d, n, m, imm, 0⟩ w2 t2.sh ⟨b1, b2⟩ (by simpa [encB] using hr))
  have RG := Lib.hid (fun w2 (t2 : Tab w2) (n : Int) (h0 : 0 ≤ n) (h1 : n ≤ 31) => reg_any n w2 t2.tb (by omega) (by omega))
  obtain ⟨s0, hs0⟩ : ∃ s, s = strL (names.getD 21 []) := ⟨_, rfl⟩
  have hq0 : s0.size = 4 := by rw [hs0]; rfl
  obtain ⟨s2, hs2⟩ : ∃ s, s = strL (flushes.getD 0 []) := ⟨_, rfl⟩
  have hq2 : s2.size = 9 := by rw [hs2]; rfl
  have N2 : ¬ 9223372036854775807 < 5 := by omega
  have N3 : ¬ 9223372036854775807 < 14 := by omega
  have M3 : ¬ 9223372036854775807 < 4 + 1 + 9 := by omega
  have SA := Lib.hid (show (s0 ++ ⟨#[32]⟩ ++ s2 : ByteArray) = strL (printR ⟨21, d, n, m, imm, 0⟩) by
    rw [hs0, hs2]
    show strL (names.getD 21 []) ++ strL [32] ++ strL (flushes.getD 0 []) = _
    rw [strL_app, strL_app]
    congr 1
    all_goals simp only [printR, Int.reduceEq, or_self, or_true, true_or, or_false, false_or, if_true, if_false, false_and, true_and, and_false, and_true, Int.reduceLE, Int.reduceLT, Int.reduceMod, and_self, reduceIte]
    all_goals simp [at!])
  have C0 := Lib.hid (show w.cell? ⟨0, 21, none⟩ = some (.string (strL (names.getD 21 []))) from ht.nm 21 (by decide))
  rw [← hs0] at C0
  have C2 := Lib.hid (show w.cell? ⟨3, 0, none⟩ = some (.string (strL (flushes.getD 0 []))) from ht.fl 0 (by decide))
  rw [← hs2] at C2
  clear ht hr hs0 hs2
  go_enter Tryd.func10, Tryd.ntmps10
  go_upto_region 1 with fail
  refine to_cls ?_
  intro U0 hU0 y0
  have r_b : ∀ z : Wb U0, Row z.at (w.heap.size) [.int .i64 21, .int .i64 d, .int .i64 n, .int .i64 m, .int .i64 imm, .int .i64 0] 23 := Row.next (Row.new _ [.int .i64 21, .int .i64 d, .int .i64 n, .int .i64 m, .int .i64 imm, .int .i64 0] _) hU0
  have KK := Lib.hid (KB.next (KB.alloc (Below.refl _ _) _) hU0)
  clear hU0
  obtain ⟨c_b_0, c_b_1, c_b_2, c_b_3, c_b_4, c_b_5⟩ := six r_b
  have TZ := Lib.hid fun z => TH.out.below (KK.out z)
  have cc0 := keepc KK C0
  have cc2 := keepc KK C2
  go_wp2_with fail
  refine (RI.out _ (TZ.out y0)).mono ?_
  rintro e w1 ⟨rfl, g⟩
  obtain ⟨y1, rfl⟩ := Wb.next (x := y0) g
  clear g
  go_wp2_with fail
  refine to_pt ?_
  intro U2 hU2
  clear c_b_0 c_b_1 c_b_2 c_b_3 c_b_4 c_b_5 cc0 cc2
  have r_b : ∀ z : Wb U2, Row z.at (w.heap.size) [.int .i64 21, .int .i64 d, .int .i64 n, .int .i64 m, .int .i64 imm, .int .i64 0] 23 := Row.next (r_b y1) hU2
  have KK := Lib.hid (KB.next (KK.out y1) hU2)
  clear hU2
  obtain ⟨c_b_0, c_b_1, c_b_2, c_b_3, c_b_4, c_b_5⟩ := six r_b
  have TZ := Lib.hid fun z => TH.out.below (KK.out z)
  have cc0 := keepc KK C0
  have cc2 := keepc KK C2
  refine wp_region_wb (by kernel_rfl) (by kernel_rfl) ?_
  repeat (go_big_quiet_step ((go_at_call 18; exact Calls.wb (RG.out _ (TZ.out _) _ (by first | assumption | decide) (by first | assumption | decide)))))
  refine wpQuiet_nil ?_
  rintro _ ⟨y3, rfl⟩
  go_wp2
  go_ret
  exact ⟨by rw [← SA.out]; rfl, KK.out y3⟩

set_option maxRecDepth 100000 in
set_option maxHeartbeats 3200000 in
theorem aprint_21_1 (d n m imm : Int) (w : World) (ht : Tab w) (hr : GrI.right ⟨21, d, n, m, imm, 1⟩) : Calls Tryd.prog 10 #[.agg #[.int .i64 21, .int .i64 d, .int .i64 n, .int .i64 m, .int .i64 imm, .int .i64 1]] w fun e w' => e = .returned (.string (strL (printR ⟨21, d, n, m, imm, 1⟩))) ∧ Below w.heap.size w w' := by
  obtain ⟨b1, b2⟩ := GrI.imm_bd hr
  obtain ⟨dn0, dn1, dn2, dn3, dn4, dn5⟩ := reg_bd hr
  simp only at b1 b2 dn0 dn1 dn2 dn3 dn4 dn5
  have TH := Lib.hid ht
  have RI := Lib.hid (fun w2 (t2 : Tab w2) => right_yes ⟨21, d, n, m, imm, 1⟩ w2 t2.sh ⟨b1, b2⟩ (by simpa [encB] using hr))
  have RG := Lib.hid (fun w2 (t2 : Tab w2) (n : Int) (h0 : 0 ≤ n) (h1 : n ≤ 31) => reg_any n w2 t2.tb (by omega) (by omega))
  obtain ⟨s0, hs0⟩ : ∃ s, s = strL (names.getD 21 []) := ⟨_, rfl⟩
  have hq0 : s0.size = 4 := by rw [hs0]; rfl
  obtain ⟨s2, hs2⟩ : ∃ s, s = strL (flushes.getD 1 []) := ⟨_, rfl⟩
  have hq2 : s2.size = 6 := by rw [hs2]; rfl
  obtain ⟨z_rd, hz_rd⟩ : ∃ zz, zz = (strL (reg d)).size := ⟨_, rfl⟩
  have e_rd : (strL (reg d)).size = z_rd := hz_rd.symm
  have l_rd : z_rd ≤ 65 := by rw [hz_rd, strL_size]; exact reg_len d
  clear hz_rd
  have N2 : ¬ 9223372036854775807 < 5 := by omega
  have N3 : ¬ 9223372036854775807 < 11 := by omega
  have M3 : ¬ 9223372036854775807 < 4 + 1 + 6 := by omega
  have N4 : ¬ 9223372036854775807 < 12 := by omega
  have M4 : ¬ 9223372036854775807 < 4 + 1 + 6 + 1 := by omega
  have N5 : ¬ 9223372036854775807 < 12 + z_rd := by omega
  have M5 : ¬ 9223372036854775807 < 4 + 1 + 6 + 1 + z_rd := by omega
  have SA := Lib.hid (show (s0 ++ ⟨#[32]⟩ ++ s2 ++ ⟨#[44]⟩ ++ strL (reg d) : ByteArray) = strL (printR ⟨21, d, n, m, imm, 1⟩) by
    rw [hs0, hs2]
    show strL (names.getD 21 []) ++ strL [32] ++ strL (flushes.getD 1 []) ++ strL [44] ++ strL (reg d) = _
    rw [strL_app, strL_app, strL_app, strL_app]
    congr 1
    all_goals simp only [printR, Int.reduceEq, or_self, or_true, true_or, or_false, false_or, if_true, if_false, false_and, true_and, and_false, and_true, Int.reduceLE, Int.reduceLT, Int.reduceMod, and_self, reduceIte]
    all_goals simp [at!])
  have C0 := Lib.hid (show w.cell? ⟨0, 21, none⟩ = some (.string (strL (names.getD 21 []))) from ht.nm 21 (by decide))
  rw [← hs0] at C0
  have C2 := Lib.hid (show w.cell? ⟨3, 1, none⟩ = some (.string (strL (flushes.getD 1 []))) from ht.fl 1 (by decide))
  rw [← hs2] at C2
  clear ht hr hs0 hs2
  go_enter Tryd.func10, Tryd.ntmps10
  go_upto_region 1 with fail
  refine to_cls ?_
  intro U0 hU0 y0
  have r_b : ∀ z : Wb U0, Row z.at (w.heap.size) [.int .i64 21, .int .i64 d, .int .i64 n, .int .i64 m, .int .i64 imm, .int .i64 1] 23 := Row.next (Row.new _ [.int .i64 21, .int .i64 d, .int .i64 n, .int .i64 m, .int .i64 imm, .int .i64 1] _) hU0
  have KK := Lib.hid (KB.next (KB.alloc (Below.refl _ _) _) hU0)
  clear hU0
  obtain ⟨c_b_0, c_b_1, c_b_2, c_b_3, c_b_4, c_b_5⟩ := six r_b
  have TZ := Lib.hid fun z => TH.out.below (KK.out z)
  have cc0 := keepc KK C0
  have cc2 := keepc KK C2
  go_wp2_with fail
  refine (RI.out _ (TZ.out y0)).mono ?_
  rintro e w1 ⟨rfl, g⟩
  obtain ⟨y1, rfl⟩ := Wb.next (x := y0) g
  clear g
  go_wp2_with fail
  refine to_pt ?_
  intro U2 hU2
  clear c_b_0 c_b_1 c_b_2 c_b_3 c_b_4 c_b_5 cc0 cc2
  have r_b : ∀ z : Wb U2, Row z.at (w.heap.size) [.int .i64 21, .int .i64 d, .int .i64 n, .int .i64 m, .int .i64 imm, .int .i64 1] 23 := Row.next (r_b y1) hU2
  have KK := Lib.hid (KB.next (KK.out y1) hU2)
  clear hU2
  obtain ⟨c_b_0, c_b_1, c_b_2, c_b_3, c_b_4, c_b_5⟩ := six r_b
  have TZ := Lib.hid fun z => TH.out.below (KK.out z)
  have cc0 := keepc KK C0
  have cc2 := keepc KK C2
  refine wp_region_wb (by kernel_rfl) (by kernel_rfl) ?_
  repeat (go_big_quiet_step ((go_at_call 18; exact Calls.wb (RG.out _ (TZ.out _) _ (by first | assumption | decide) (by first | assumption | decide)))))
  refine wpQuiet_nil ?_
  rintro _ ⟨y3, rfl⟩
  go_wp2
  go_ret
  exact ⟨by rw [← SA.out]; rfl, KK.out y3⟩

set_option maxRecDepth 100000 in
set_option maxHeartbeats 3200000 in
theorem aprint_21_2 (d n m imm : Int) (w : World) (ht : Tab w) (hr : GrI.right ⟨21, d, n, m, imm, 2⟩) : Calls Tryd.prog 10 #[.agg #[.int .i64 21, .int .i64 d, .int .i64 n, .int .i64 m, .int .i64 imm, .int .i64 2]] w fun e w' => e = .returned (.string (strL (printR ⟨21, d, n, m, imm, 2⟩))) ∧ Below w.heap.size w w' := by
  obtain ⟨b1, b2⟩ := GrI.imm_bd hr
  obtain ⟨dn0, dn1, dn2, dn3, dn4, dn5⟩ := reg_bd hr
  simp only at b1 b2 dn0 dn1 dn2 dn3 dn4 dn5
  have TH := Lib.hid ht
  have RI := Lib.hid (fun w2 (t2 : Tab w2) => right_yes ⟨21, d, n, m, imm, 2⟩ w2 t2.sh ⟨b1, b2⟩ (by simpa [encB] using hr))
  have RG := Lib.hid (fun w2 (t2 : Tab w2) (n : Int) (h0 : 0 ≤ n) (h1 : n ≤ 31) => reg_any n w2 t2.tb (by omega) (by omega))
  obtain ⟨s0, hs0⟩ : ∃ s, s = strL (names.getD 21 []) := ⟨_, rfl⟩
  have hq0 : s0.size = 4 := by rw [hs0]; rfl
  obtain ⟨s2, hs2⟩ : ∃ s, s = strL (flushes.getD 2 []) := ⟨_, rfl⟩
  have hq2 : s2.size = 7 := by rw [hs2]; rfl
  obtain ⟨z_rd, hz_rd⟩ : ∃ zz, zz = (strL (reg d)).size := ⟨_, rfl⟩
  have e_rd : (strL (reg d)).size = z_rd := hz_rd.symm
  have l_rd : z_rd ≤ 65 := by rw [hz_rd, strL_size]; exact reg_len d
  clear hz_rd
  have N2 : ¬ 9223372036854775807 < 5 := by omega
  have N3 : ¬ 9223372036854775807 < 12 := by omega
  have M3 : ¬ 9223372036854775807 < 4 + 1 + 7 := by omega
  have N4 : ¬ 9223372036854775807 < 13 := by omega
  have M4 : ¬ 9223372036854775807 < 4 + 1 + 7 + 1 := by omega
  have N5 : ¬ 9223372036854775807 < 13 + z_rd := by omega
  have M5 : ¬ 9223372036854775807 < 4 + 1 + 7 + 1 + z_rd := by omega
  have SA := Lib.hid (show (s0 ++ ⟨#[32]⟩ ++ s2 ++ ⟨#[44]⟩ ++ strL (reg d) : ByteArray) = strL (printR ⟨21, d, n, m, imm, 2⟩) by
    rw [hs0, hs2]
    show strL (names.getD 21 []) ++ strL [32] ++ strL (flushes.getD 2 []) ++ strL [44] ++ strL (reg d) = _
    rw [strL_app, strL_app, strL_app, strL_app]
    congr 1
    all_goals simp only [printR, Int.reduceEq, or_self, or_true, true_or, or_false, false_or, if_true, if_false, false_and, true_and, and_false, and_true, Int.reduceLE, Int.reduceLT, Int.reduceMod, and_self, reduceIte]
    all_goals simp [at!])
  have C0 := Lib.hid (show w.cell? ⟨0, 21, none⟩ = some (.string (strL (names.getD 21 []))) from ht.nm 21 (by decide))
  rw [← hs0] at C0
  have C2 := Lib.hid (show w.cell? ⟨3, 2, none⟩ = some (.string (strL (flushes.getD 2 []))) from ht.fl 2 (by decide))
  rw [← hs2] at C2
  clear ht hr hs0 hs2
  go_enter Tryd.func10, Tryd.ntmps10
  go_upto_region 1 with fail
  refine to_cls ?_
  intro U0 hU0 y0
  have r_b : ∀ z : Wb U0, Row z.at (w.heap.size) [.int .i64 21, .int .i64 d, .int .i64 n, .int .i64 m, .int .i64 imm, .int .i64 2] 23 := Row.next (Row.new _ [.int .i64 21, .int .i64 d, .int .i64 n, .int .i64 m, .int .i64 imm, .int .i64 2] _) hU0
  have KK := Lib.hid (KB.next (KB.alloc (Below.refl _ _) _) hU0)
  clear hU0
  obtain ⟨c_b_0, c_b_1, c_b_2, c_b_3, c_b_4, c_b_5⟩ := six r_b
  have TZ := Lib.hid fun z => TH.out.below (KK.out z)
  have cc0 := keepc KK C0
  have cc2 := keepc KK C2
  go_wp2_with fail
  refine (RI.out _ (TZ.out y0)).mono ?_
  rintro e w1 ⟨rfl, g⟩
  obtain ⟨y1, rfl⟩ := Wb.next (x := y0) g
  clear g
  go_wp2_with fail
  refine to_pt ?_
  intro U2 hU2
  clear c_b_0 c_b_1 c_b_2 c_b_3 c_b_4 c_b_5 cc0 cc2
  have r_b : ∀ z : Wb U2, Row z.at (w.heap.size) [.int .i64 21, .int .i64 d, .int .i64 n, .int .i64 m, .int .i64 imm, .int .i64 2] 23 := Row.next (r_b y1) hU2
  have KK := Lib.hid (KB.next (KK.out y1) hU2)
  clear hU2
  obtain ⟨c_b_0, c_b_1, c_b_2, c_b_3, c_b_4, c_b_5⟩ := six r_b
  have TZ := Lib.hid fun z => TH.out.below (KK.out z)
  have cc0 := keepc KK C0
  have cc2 := keepc KK C2
  refine wp_region_wb (by kernel_rfl) (by kernel_rfl) ?_
  repeat (go_big_quiet_step ((go_at_call 18; exact Calls.wb (RG.out _ (TZ.out _) _ (by first | assumption | decide) (by first | assumption | decide)))))
  refine wpQuiet_nil ?_
  rintro _ ⟨y3, rfl⟩
  go_wp2
  go_ret
  exact ⟨by rw [← SA.out]; rfl, KK.out y3⟩

set_option maxRecDepth 100000 in
set_option maxHeartbeats 3200000 in
theorem aprint_21_3 (d n m imm : Int) (w : World) (ht : Tab w) (hr : GrI.right ⟨21, d, n, m, imm, 3⟩) : Calls Tryd.prog 10 #[.agg #[.int .i64 21, .int .i64 d, .int .i64 n, .int .i64 m, .int .i64 imm, .int .i64 3]] w fun e w' => e = .returned (.string (strL (printR ⟨21, d, n, m, imm, 3⟩))) ∧ Below w.heap.size w w' := by
  obtain ⟨b1, b2⟩ := GrI.imm_bd hr
  obtain ⟨dn0, dn1, dn2, dn3, dn4, dn5⟩ := reg_bd hr
  simp only at b1 b2 dn0 dn1 dn2 dn3 dn4 dn5
  have TH := Lib.hid ht
  have RI := Lib.hid (fun w2 (t2 : Tab w2) => right_yes ⟨21, d, n, m, imm, 3⟩ w2 t2.sh ⟨b1, b2⟩ (by simpa [encB] using hr))
  have RG := Lib.hid (fun w2 (t2 : Tab w2) (n : Int) (h0 : 0 ≤ n) (h1 : n ≤ 31) => reg_any n w2 t2.tb (by omega) (by omega))
  obtain ⟨s0, hs0⟩ : ∃ s, s = strL (names.getD 21 []) := ⟨_, rfl⟩
  have hq0 : s0.size = 4 := by rw [hs0]; rfl
  obtain ⟨s2, hs2⟩ : ∃ s, s = strL (flushes.getD 3 []) := ⟨_, rfl⟩
  have hq2 : s2.size = 8 := by rw [hs2]; rfl
  obtain ⟨z_rd, hz_rd⟩ : ∃ zz, zz = (strL (reg d)).size := ⟨_, rfl⟩
  have e_rd : (strL (reg d)).size = z_rd := hz_rd.symm
  have l_rd : z_rd ≤ 65 := by rw [hz_rd, strL_size]; exact reg_len d
  clear hz_rd
  have N2 : ¬ 9223372036854775807 < 5 := by omega
  have N3 : ¬ 9223372036854775807 < 13 := by omega
  have M3 : ¬ 9223372036854775807 < 4 + 1 + 8 := by omega
  have N4 : ¬ 9223372036854775807 < 14 := by omega
  have M4 : ¬ 9223372036854775807 < 4 + 1 + 8 + 1 := by omega
  have N5 : ¬ 9223372036854775807 < 14 + z_rd := by omega
  have M5 : ¬ 9223372036854775807 < 4 + 1 + 8 + 1 + z_rd := by omega
  have SA := Lib.hid (show (s0 ++ ⟨#[32]⟩ ++ s2 ++ ⟨#[44]⟩ ++ strL (reg d) : ByteArray) = strL (printR ⟨21, d, n, m, imm, 3⟩) by
    rw [hs0, hs2]
    show strL (names.getD 21 []) ++ strL [32] ++ strL (flushes.getD 3 []) ++ strL [44] ++ strL (reg d) = _
    rw [strL_app, strL_app, strL_app, strL_app]
    congr 1
    all_goals simp only [printR, Int.reduceEq, or_self, or_true, true_or, or_false, false_or, if_true, if_false, false_and, true_and, and_false, and_true, Int.reduceLE, Int.reduceLT, Int.reduceMod, and_self, reduceIte]
    all_goals simp [at!])
  have C0 := Lib.hid (show w.cell? ⟨0, 21, none⟩ = some (.string (strL (names.getD 21 []))) from ht.nm 21 (by decide))
  rw [← hs0] at C0
  have C2 := Lib.hid (show w.cell? ⟨3, 3, none⟩ = some (.string (strL (flushes.getD 3 []))) from ht.fl 3 (by decide))
  rw [← hs2] at C2
  clear ht hr hs0 hs2
  go_enter Tryd.func10, Tryd.ntmps10
  go_upto_region 1 with fail
  refine to_cls ?_
  intro U0 hU0 y0
  have r_b : ∀ z : Wb U0, Row z.at (w.heap.size) [.int .i64 21, .int .i64 d, .int .i64 n, .int .i64 m, .int .i64 imm, .int .i64 3] 23 := Row.next (Row.new _ [.int .i64 21, .int .i64 d, .int .i64 n, .int .i64 m, .int .i64 imm, .int .i64 3] _) hU0
  have KK := Lib.hid (KB.next (KB.alloc (Below.refl _ _) _) hU0)
  clear hU0
  obtain ⟨c_b_0, c_b_1, c_b_2, c_b_3, c_b_4, c_b_5⟩ := six r_b
  have TZ := Lib.hid fun z => TH.out.below (KK.out z)
  have cc0 := keepc KK C0
  have cc2 := keepc KK C2
  go_wp2_with fail
  refine (RI.out _ (TZ.out y0)).mono ?_
  rintro e w1 ⟨rfl, g⟩
  obtain ⟨y1, rfl⟩ := Wb.next (x := y0) g
  clear g
  go_wp2_with fail
  refine to_pt ?_
  intro U2 hU2
  clear c_b_0 c_b_1 c_b_2 c_b_3 c_b_4 c_b_5 cc0 cc2
  have r_b : ∀ z : Wb U2, Row z.at (w.heap.size) [.int .i64 21, .int .i64 d, .int .i64 n, .int .i64 m, .int .i64 imm, .int .i64 3] 23 := Row.next (r_b y1) hU2
  have KK := Lib.hid (KB.next (KK.out y1) hU2)
  clear hU2
  obtain ⟨c_b_0, c_b_1, c_b_2, c_b_3, c_b_4, c_b_5⟩ := six r_b
  have TZ := Lib.hid fun z => TH.out.below (KK.out z)
  have cc0 := keepc KK C0
  have cc2 := keepc KK C2
  refine wp_region_wb (by kernel_rfl) (by kernel_rfl) ?_
  repeat (go_big_quiet_step ((go_at_call 18; exact Calls.wb (RG.out _ (TZ.out _) _ (by first | assumption | decide) (by first | assumption | decide)))))
  refine wpQuiet_nil ?_
  rintro _ ⟨y3, rfl⟩
  go_wp2
  go_ret
  exact ⟨by rw [← SA.out]; rfl, KK.out y3⟩

set_option maxRecDepth 100000 in
set_option maxHeartbeats 3200000 in
theorem aprint_21_4 (d n m imm : Int) (w : World) (ht : Tab w) (hr : GrI.right ⟨21, d, n, m, imm, 4⟩) : Calls Tryd.prog 10 #[.agg #[.int .i64 21, .int .i64 d, .int .i64 n, .int .i64 m, .int .i64 imm, .int .i64 4]] w fun e w' => e = .returned (.string (strL (printR ⟨21, d, n, m, imm, 4⟩))) ∧ Below w.heap.size w w' := by
  obtain ⟨b1, b2⟩ := GrI.imm_bd hr
  obtain ⟨dn0, dn1, dn2, dn3, dn4, dn5⟩ := reg_bd hr
  simp only at b1 b2 dn0 dn1 dn2 dn3 dn4 dn5
  have TH := Lib.hid ht
  have RI := Lib.hid (fun w2 (t2 : Tab w2) => right_yes ⟨21, d, n, m, imm, 4⟩ w2 t2.sh ⟨b1, b2⟩ (by simpa [encB] using hr))
  have RG := Lib.hid (fun w2 (t2 : Tab w2) (n : Int) (h0 : 0 ≤ n) (h1 : n ≤ 31) => reg_any n w2 t2.tb (by omega) (by omega))
  obtain ⟨s0, hs0⟩ : ∃ s, s = strL (names.getD 21 []) := ⟨_, rfl⟩
  have hq0 : s0.size = 4 := by rw [hs0]; rfl
  obtain ⟨s2, hs2⟩ : ∃ s, s = strL (flushes.getD 4 []) := ⟨_, rfl⟩
  have hq2 : s2.size = 7 := by rw [hs2]; rfl
  have N2 : ¬ 9223372036854775807 < 5 := by omega
  have N3 : ¬ 9223372036854775807 < 12 := by omega
  have M3 : ¬ 9223372036854775807 < 4 + 1 + 7 := by omega
  have SA := Lib.hid (show (s0 ++ ⟨#[32]⟩ ++ s2 : ByteArray) = strL (printR ⟨21, d, n, m, imm, 4⟩) by
    rw [hs0, hs2]
    show strL (names.getD 21 []) ++ strL [32] ++ strL (flushes.getD 4 []) = _
    rw [strL_app, strL_app]
    congr 1
    all_goals simp only [printR, Int.reduceEq, or_self, or_true, true_or, or_false, false_or, if_true, if_false, false_and, true_and, and_false, and_true, Int.reduceLE, Int.reduceLT, Int.reduceMod, and_self, reduceIte]
    all_goals simp [at!])
  have C0 := Lib.hid (show w.cell? ⟨0, 21, none⟩ = some (.string (strL (names.getD 21 []))) from ht.nm 21 (by decide))
  rw [← hs0] at C0
  have C2 := Lib.hid (show w.cell? ⟨3, 4, none⟩ = some (.string (strL (flushes.getD 4 []))) from ht.fl 4 (by decide))
  rw [← hs2] at C2
  clear ht hr hs0 hs2
  go_enter Tryd.func10, Tryd.ntmps10
  go_upto_region 1 with fail
  refine to_cls ?_
  intro U0 hU0 y0
  have r_b : ∀ z : Wb U0, Row z.at (w.heap.size) [.int .i64 21, .int .i64 d, .int .i64 n, .int .i64 m, .int .i64 imm, .int .i64 4] 23 := Row.next (Row.new _ [.int .i64 21, .int .i64 d, .int .i64 n, .int .i64 m, .int .i64 imm, .int .i64 4] _) hU0
  have KK := Lib.hid (KB.next (KB.alloc (Below.refl _ _) _) hU0)
  clear hU0
  obtain ⟨c_b_0, c_b_1, c_b_2, c_b_3, c_b_4, c_b_5⟩ := six r_b
  have TZ := Lib.hid fun z => TH.out.below (KK.out z)
  have cc0 := keepc KK C0
  have cc2 := keepc KK C2
  go_wp2_with fail
  refine (RI.out _ (TZ.out y0)).mono ?_
  rintro e w1 ⟨rfl, g⟩
  obtain ⟨y1, rfl⟩ := Wb.next (x := y0) g
  clear g
  go_wp2_with fail
  refine to_pt ?_
  intro U2 hU2
  clear c_b_0 c_b_1 c_b_2 c_b_3 c_b_4 c_b_5 cc0 cc2
  have r_b : ∀ z : Wb U2, Row z.at (w.heap.size) [.int .i64 21, .int .i64 d, .int .i64 n, .int .i64 m, .int .i64 imm, .int .i64 4] 23 := Row.next (r_b y1) hU2
  have KK := Lib.hid (KB.next (KK.out y1) hU2)
  clear hU2
  obtain ⟨c_b_0, c_b_1, c_b_2, c_b_3, c_b_4, c_b_5⟩ := six r_b
  have TZ := Lib.hid fun z => TH.out.below (KK.out z)
  have cc0 := keepc KK C0
  have cc2 := keepc KK C2
  refine wp_region_wb (by kernel_rfl) (by kernel_rfl) ?_
  repeat (go_big_quiet_step ((go_at_call 18; exact Calls.wb (RG.out _ (TZ.out _) _ (by first | assumption | decide) (by first | assumption | decide)))))
  refine wpQuiet_nil ?_
  rintro _ ⟨y3, rfl⟩
  go_wp2
  go_ret
  exact ⟨by rw [← SA.out]; rfl, KK.out y3⟩

set_option maxRecDepth 100000 in
set_option maxHeartbeats 3200000 in
theorem aprint_21_5 (d n m imm : Int) (w : World) (ht : Tab w) (hr : GrI.right ⟨21, d, n, m, imm, 5⟩) : Calls Tryd.prog 10 #[.agg #[.int .i64 21, .int .i64 d, .int .i64 n, .int .i64 m, .int .i64 imm, .int .i64 5]] w fun e w' => e = .returned (.string (strL (printR ⟨21, d, n, m, imm, 5⟩))) ∧ Below w.heap.size w w' := by
  obtain ⟨b1, b2⟩ := GrI.imm_bd hr
  obtain ⟨dn0, dn1, dn2, dn3, dn4, dn5⟩ := reg_bd hr
  simp only at b1 b2 dn0 dn1 dn2 dn3 dn4 dn5
  have TH := Lib.hid ht
  have RI := Lib.hid (fun w2 (t2 : Tab w2) => right_yes ⟨21, d, n, m, imm, 5⟩ w2 t2.sh ⟨b1, b2⟩ (by simpa [encB] using hr))
  have RG := Lib.hid (fun w2 (t2 : Tab w2) (n : Int) (h0 : 0 ≤ n) (h1 : n ≤ 31) => reg_any n w2 t2.tb (by omega) (by omega))
  obtain ⟨s0, hs0⟩ : ∃ s, s = strL (names.getD 21 []) := ⟨_, rfl⟩
  have hq0 : s0.size = 4 := by rw [hs0]; rfl
  obtain ⟨s2, hs2⟩ : ∃ s, s = strL (flushes.getD 5 []) := ⟨_, rfl⟩
  have hq2 : s2.size = 4 := by rw [hs2]; rfl
  obtain ⟨z_rd, hz_rd⟩ : ∃ zz, zz = (strL (reg d)).size := ⟨_, rfl⟩
  have e_rd : (strL (reg d)).size = z_rd := hz_rd.symm
  have l_rd : z_rd ≤ 65 := by rw [hz_rd, strL_size]; exact reg_len d
  clear hz_rd
  have N2 : ¬ 9223372036854775807 < 5 := by omega
  have N3 : ¬ 9223372036854775807 < 9 := by omega
  have M3 : ¬ 9223372036854775807 < 4 + 1 + 4 := by omega
  have N4 : ¬ 9223372036854775807 < 10 := by omega
  have M4 : ¬ 9223372036854775807 < 4 + 1 + 4 + 1 := by omega
  have N5 : ¬ 9223372036854775807 < 10 + z_rd := by omega
  have M5 : ¬ 9223372036854775807 < 4 + 1 + 4 + 1 + z_rd := by omega
  have SA := Lib.hid (show (s0 ++ ⟨#[32]⟩ ++ s2 ++ ⟨#[44]⟩ ++ strL (reg d) : ByteArray) = strL (printR ⟨21, d, n, m, imm, 5⟩) by
    rw [hs0, hs2]
    show strL (names.getD 21 []) ++ strL [32] ++ strL (flushes.getD 5 []) ++ strL [44] ++ strL (reg d) = _
    rw [strL_app, strL_app, strL_app, strL_app]
    congr 1
    all_goals simp only [printR, Int.reduceEq, or_self, or_true, true_or, or_false, false_or, if_true, if_false, false_and, true_and, and_false, and_true, Int.reduceLE, Int.reduceLT, Int.reduceMod, and_self, reduceIte]
    all_goals simp [at!])
  have C0 := Lib.hid (show w.cell? ⟨0, 21, none⟩ = some (.string (strL (names.getD 21 []))) from ht.nm 21 (by decide))
  rw [← hs0] at C0
  have C2 := Lib.hid (show w.cell? ⟨3, 5, none⟩ = some (.string (strL (flushes.getD 5 []))) from ht.fl 5 (by decide))
  rw [← hs2] at C2
  clear ht hr hs0 hs2
  go_enter Tryd.func10, Tryd.ntmps10
  go_upto_region 1 with fail
  refine to_cls ?_
  intro U0 hU0 y0
  have r_b : ∀ z : Wb U0, Row z.at (w.heap.size) [.int .i64 21, .int .i64 d, .int .i64 n, .int .i64 m, .int .i64 imm, .int .i64 5] 23 := Row.next (Row.new _ [.int .i64 21, .int .i64 d, .int .i64 n, .int .i64 m, .int .i64 imm, .int .i64 5] _) hU0
  have KK := Lib.hid (KB.next (KB.alloc (Below.refl _ _) _) hU0)
  clear hU0
  obtain ⟨c_b_0, c_b_1, c_b_2, c_b_3, c_b_4, c_b_5⟩ := six r_b
  have TZ := Lib.hid fun z => TH.out.below (KK.out z)
  have cc0 := keepc KK C0
  have cc2 := keepc KK C2
  go_wp2_with fail
  refine (RI.out _ (TZ.out y0)).mono ?_
  rintro e w1 ⟨rfl, g⟩
  obtain ⟨y1, rfl⟩ := Wb.next (x := y0) g
  clear g
  go_wp2_with fail
  refine to_pt ?_
  intro U2 hU2
  clear c_b_0 c_b_1 c_b_2 c_b_3 c_b_4 c_b_5 cc0 cc2
  have r_b : ∀ z : Wb U2, Row z.at (w.heap.size) [.int .i64 21, .int .i64 d, .int .i64 n, .int .i64 m, .int .i64 imm, .int .i64 5] 23 := Row.next (r_b y1) hU2
  have KK := Lib.hid (KB.next (KK.out y1) hU2)
  clear hU2
  obtain ⟨c_b_0, c_b_1, c_b_2, c_b_3, c_b_4, c_b_5⟩ := six r_b
  have TZ := Lib.hid fun z => TH.out.below (KK.out z)
  have cc0 := keepc KK C0
  have cc2 := keepc KK C2
  refine wp_region_wb (by kernel_rfl) (by kernel_rfl) ?_
  repeat (go_big_quiet_step ((go_at_call 18; exact Calls.wb (RG.out _ (TZ.out _) _ (by first | assumption | decide) (by first | assumption | decide)))))
  refine wpQuiet_nil ?_
  rintro _ ⟨y3, rfl⟩
  go_wp2
  go_ret
  exact ⟨by rw [← SA.out]; rfl, KK.out y3⟩

set_option maxRecDepth 100000 in
set_option maxHeartbeats 3200000 in
theorem aprint_21_6 (d n m imm : Int) (w : World) (ht : Tab w) (hr : GrI.right ⟨21, d, n, m, imm, 6⟩) : Calls Tryd.prog 10 #[.agg #[.int .i64 21, .int .i64 d, .int .i64 n, .int .i64 m, .int .i64 imm, .int .i64 6]] w fun e w' => e = .returned (.string (strL (printR ⟨21, d, n, m, imm, 6⟩))) ∧ Below w.heap.size w w' := by
  obtain ⟨b1, b2⟩ := GrI.imm_bd hr
  obtain ⟨dn0, dn1, dn2, dn3, dn4, dn5⟩ := reg_bd hr
  simp only at b1 b2 dn0 dn1 dn2 dn3 dn4 dn5
  have TH := Lib.hid ht
  have RI := Lib.hid (fun w2 (t2 : Tab w2) => right_yes ⟨21, d, n, m, imm, 6⟩ w2 t2.sh ⟨b1, b2⟩ (by simpa [encB] using hr))
  have RG := Lib.hid (fun w2 (t2 : Tab w2) (n : Int) (h0 : 0 ≤ n) (h1 : n ≤ 31) => reg_any n w2 t2.tb (by omega) (by omega))
  obtain ⟨s0, hs0⟩ : ∃ s, s = strL (names.getD 21 []) := ⟨_, rfl⟩
  have hq0 : s0.size = 4 := by rw [hs0]; rfl
  obtain ⟨s2, hs2⟩ : ∃ s, s = strL (flushes.getD 6 []) := ⟨_, rfl⟩
  have hq2 : s2.size = 5 := by rw [hs2]; rfl
  obtain ⟨z_rd, hz_rd⟩ : ∃ zz, zz = (strL (reg d)).size := ⟨_, rfl⟩
  have e_rd : (strL (reg d)).size = z_rd := hz_rd.symm
  have l_rd : z_rd ≤ 65 := by rw [hz_rd, strL_size]; exact reg_len d
  clear hz_rd
  have N2 : ¬ 9223372036854775807 < 5 := by omega
  have N3 : ¬ 9223372036854775807 < 10 := by omega
  have M3 : ¬ 9223372036854775807 < 4 + 1 + 5 := by omega
  have N4 : ¬ 9223372036854775807 < 11 := by omega
  have M4 : ¬ 9223372036854775807 < 4 + 1 + 5 + 1 := by omega
  have N5 : ¬ 9223372036854775807 < 11 + z_rd := by omega
  have M5 : ¬ 9223372036854775807 < 4 + 1 + 5 + 1 + z_rd := by omega
  have SA := Lib.hid (show (s0 ++ ⟨#[32]⟩ ++ s2 ++ ⟨#[44]⟩ ++ strL (reg d) : ByteArray) = strL (printR ⟨21, d, n, m, imm, 6⟩) by
    rw [hs0, hs2]
    show strL (names.getD 21 []) ++ strL [32] ++ strL (flushes.getD 6 []) ++ strL [44] ++ strL (reg d) = _
    rw [strL_app, strL_app, strL_app, strL_app]
    congr 1
    all_goals simp only [printR, Int.reduceEq, or_self, or_true, true_or, or_false, false_or, if_true, if_false, false_and, true_and, and_false, and_true, Int.reduceLE, Int.reduceLT, Int.reduceMod, and_self, reduceIte]
    all_goals simp [at!])
  have C0 := Lib.hid (show w.cell? ⟨0, 21, none⟩ = some (.string (strL (names.getD 21 []))) from ht.nm 21 (by decide))
  rw [← hs0] at C0
  have C2 := Lib.hid (show w.cell? ⟨3, 6, none⟩ = some (.string (strL (flushes.getD 6 []))) from ht.fl 6 (by decide))
  rw [← hs2] at C2
  clear ht hr hs0 hs2
  go_enter Tryd.func10, Tryd.ntmps10
  go_upto_region 1 with fail
  refine to_cls ?_
  intro U0 hU0 y0
  have r_b : ∀ z : Wb U0, Row z.at (w.heap.size) [.int .i64 21, .int .i64 d, .int .i64 n, .int .i64 m, .int .i64 imm, .int .i64 6] 23 := Row.next (Row.new _ [.int .i64 21, .int .i64 d, .int .i64 n, .int .i64 m, .int .i64 imm, .int .i64 6] _) hU0
  have KK := Lib.hid (KB.next (KB.alloc (Below.refl _ _) _) hU0)
  clear hU0
  obtain ⟨c_b_0, c_b_1, c_b_2, c_b_3, c_b_4, c_b_5⟩ := six r_b
  have TZ := Lib.hid fun z => TH.out.below (KK.out z)
  have cc0 := keepc KK C0
  have cc2 := keepc KK C2
  go_wp2_with fail
  refine (RI.out _ (TZ.out y0)).mono ?_
  rintro e w1 ⟨rfl, g⟩
  obtain ⟨y1, rfl⟩ := Wb.next (x := y0) g
  clear g
  go_wp2_with fail
  refine to_pt ?_
  intro U2 hU2
  clear c_b_0 c_b_1 c_b_2 c_b_3 c_b_4 c_b_5 cc0 cc2
  have r_b : ∀ z : Wb U2, Row z.at (w.heap.size) [.int .i64 21, .int .i64 d, .int .i64 n, .int .i64 m, .int .i64 imm, .int .i64 6] 23 := Row.next (r_b y1) hU2
  have KK := Lib.hid (KB.next (KK.out y1) hU2)
  clear hU2
  obtain ⟨c_b_0, c_b_1, c_b_2, c_b_3, c_b_4, c_b_5⟩ := six r_b
  have TZ := Lib.hid fun z => TH.out.below (KK.out z)
  have cc0 := keepc KK C0
  have cc2 := keepc KK C2
  refine wp_region_wb (by kernel_rfl) (by kernel_rfl) ?_
  repeat (go_big_quiet_step ((go_at_call 18; exact Calls.wb (RG.out _ (TZ.out _) _ (by first | assumption | decide) (by first | assumption | decide)))))
  refine wpQuiet_nil ?_
  rintro _ ⟨y3, rfl⟩
  go_wp2
  go_ret
  exact ⟨by rw [← SA.out]; rfl, KK.out y3⟩

set_option maxRecDepth 100000 in
set_option maxHeartbeats 3200000 in
theorem aprint_21_7 (d n m imm : Int) (w : World) (ht : Tab w) (hr : GrI.right ⟨21, d, n, m, imm, 7⟩) : Calls Tryd.prog 10 #[.agg #[.int .i64 21, .int .i64 d, .int .i64 n, .int .i64 m, .int .i64 imm, .int .i64 7]] w fun e w' => e = .returned (.string (strL (printR ⟨21, d, n, m, imm, 7⟩))) ∧ Below w.heap.size w w' := by
  obtain ⟨b1, b2⟩ := GrI.imm_bd hr
  obtain ⟨dn0, dn1, dn2, dn3, dn4, dn5⟩ := reg_bd hr
  simp only at b1 b2 dn0 dn1 dn2 dn3 dn4 dn5
  have TH := Lib.hid ht
  have RI := Lib.hid (fun w2 (t2 : Tab w2) => right_yes ⟨21, d, n, m, imm, 7⟩ w2 t2.sh ⟨b1, b2⟩ (by simpa [encB] using hr))
  have RG := Lib.hid (fun w2 (t2 : Tab w2) (n : Int) (h0 : 0 ≤ n) (h1 : n ≤ 31) => reg_any n w2 t2.tb (by omega) (by omega))
  obtain ⟨s0, hs0⟩ : ∃ s, s = strL (names.getD 21 []) := ⟨_, rfl⟩
  have hq0 : s0.size = 4 := by rw [hs0]; rfl
  obtain ⟨s2, hs2⟩ : ∃ s, s = strL (flushes.getD 7 []) := ⟨_, rfl⟩
  have hq2 : s2.size = 6 := by rw [hs2]; rfl
  obtain ⟨z_rd, hz_rd⟩ : ∃ zz, zz = (strL (reg d)).size := ⟨_, rfl⟩
  have e_rd : (strL (reg d)).size = z_rd := hz_rd.symm
  have l_rd : z_rd ≤ 65 := by rw [hz_rd, strL_size]; exact reg_len d
  clear hz_rd
  have N2 : ¬ 9223372036854775807 < 5 := by omega
  have N3 : ¬ 9223372036854775807 < 11 := by omega
  have M3 : ¬ 9223372036854775807 < 4 + 1 + 6 := by omega
  have N4 : ¬ 9223372036854775807 < 12 := by omega
  have M4 : ¬ 9223372036854775807 < 4 + 1 + 6 + 1 := by omega
  have N5 : ¬ 9223372036854775807 < 12 + z_rd := by omega
  have M5 : ¬ 9223372036854775807 < 4 + 1 + 6 + 1 + z_rd := by omega
  have SA := Lib.hid (show (s0 ++ ⟨#[32]⟩ ++ s2 ++ ⟨#[44]⟩ ++ strL (reg d) : ByteArray) = strL (printR ⟨21, d, n, m, imm, 7⟩) by
    rw [hs0, hs2]
    show strL (names.getD 21 []) ++ strL [32] ++ strL (flushes.getD 7 []) ++ strL [44] ++ strL (reg d) = _
    rw [strL_app, strL_app, strL_app, strL_app]
    congr 1
    all_goals simp only [printR, Int.reduceEq, or_self, or_true, true_or, or_false, false_or, if_true, if_false, false_and, true_and, and_false, and_true, Int.reduceLE, Int.reduceLT, Int.reduceMod, and_self, reduceIte]
    all_goals simp [at!])
  have C0 := Lib.hid (show w.cell? ⟨0, 21, none⟩ = some (.string (strL (names.getD 21 []))) from ht.nm 21 (by decide))
  rw [← hs0] at C0
  have C2 := Lib.hid (show w.cell? ⟨3, 7, none⟩ = some (.string (strL (flushes.getD 7 []))) from ht.fl 7 (by decide))
  rw [← hs2] at C2
  clear ht hr hs0 hs2
  go_enter Tryd.func10, Tryd.ntmps10
  go_upto_region 1 with fail
  refine to_cls ?_
  intro U0 hU0 y0
  have r_b : ∀ z : Wb U0, Row z.at (w.heap.size) [.int .i64 21, .int .i64 d, .int .i64 n, .int .i64 m, .int .i64 imm, .int .i64 7] 23 := Row.next (Row.new _ [.int .i64 21, .int .i64 d, .int .i64 n, .int .i64 m, .int .i64 imm, .int .i64 7] _) hU0
  have KK := Lib.hid (KB.next (KB.alloc (Below.refl _ _) _) hU0)
  clear hU0
  obtain ⟨c_b_0, c_b_1, c_b_2, c_b_3, c_b_4, c_b_5⟩ := six r_b
  have TZ := Lib.hid fun z => TH.out.below (KK.out z)
  have cc0 := keepc KK C0
  have cc2 := keepc KK C2
  go_wp2_with fail
  refine (RI.out _ (TZ.out y0)).mono ?_
  rintro e w1 ⟨rfl, g⟩
  obtain ⟨y1, rfl⟩ := Wb.next (x := y0) g
  clear g
  go_wp2_with fail
  refine to_pt ?_
  intro U2 hU2
  clear c_b_0 c_b_1 c_b_2 c_b_3 c_b_4 c_b_5 cc0 cc2
  have r_b : ∀ z : Wb U2, Row z.at (w.heap.size) [.int .i64 21, .int .i64 d, .int .i64 n, .int .i64 m, .int .i64 imm, .int .i64 7] 23 := Row.next (r_b y1) hU2
  have KK := Lib.hid (KB.next (KK.out y1) hU2)
  clear hU2
  obtain ⟨c_b_0, c_b_1, c_b_2, c_b_3, c_b_4, c_b_5⟩ := six r_b
  have TZ := Lib.hid fun z => TH.out.below (KK.out z)
  have cc0 := keepc KK C0
  have cc2 := keepc KK C2
  refine wp_region_wb (by kernel_rfl) (by kernel_rfl) ?_
  repeat (go_big_quiet_step ((go_at_call 18; exact Calls.wb (RG.out _ (TZ.out _) _ (by first | assumption | decide) (by first | assumption | decide)))))
  refine wpQuiet_nil ?_
  rintro _ ⟨y3, rfl⟩
  go_wp2
  go_ret
  exact ⟨by rw [← SA.out]; rfl, KK.out y3⟩

set_option maxRecDepth 100000 in
set_option maxHeartbeats 3200000 in
theorem aprint_23_0 (d n m imm : Int) (w : World) (ht : Tab w) (hr : GrI.right ⟨23, d, n, m, imm, 0⟩) : Calls Tryd.prog 10 #[.agg #[.int .i64 23, .int .i64 d, .int .i64 n, .int .i64 m, .int .i64 imm, .int .i64 0]] w fun e w' => e = .returned (.string (strL (printR ⟨23, d, n, m, imm, 0⟩))) ∧ Below w.heap.size w w' := by
  obtain ⟨b1, b2⟩ := GrI.imm_bd hr
  obtain ⟨dn0, dn1, dn2, dn3, dn4, dn5⟩ := reg_bd hr
  simp only at b1 b2 dn0 dn1 dn2 dn3 dn4 dn5
  have TH := Lib.hid ht
  have RI := Lib.hid (fun w2 (t2 : Tab w2) => right_yes ⟨23, d, n, m, imm, 0⟩ w2 t2.sh ⟨b1, b2⟩ (by simpa [encB] using hr))
  have RG := Lib.hid (fun w2 (t2 : Tab w2) (n : Int) (h0 : 0 ≤ n) (h1 : n ≤ 31) => reg_any n w2 t2.tb (by omega) (by omega))
  obtain ⟨s0, hs0⟩ : ∃ s, s = strL (names.getD 23 []) := ⟨_, rfl⟩
  have hq0 : s0.size = 3 := by rw [hs0]; rfl
  obtain ⟨z_rd, hz_rd⟩ : ∃ zz, zz = (strL (reg d)).size := ⟨_, rfl⟩
  have e_rd : (strL (reg d)).size = z_rd := hz_rd.symm
  have l_rd : z_rd ≤ 65 := by rw [hz_rd, strL_size]; exact reg_len d
  clear hz_rd
  obtain ⟨s4, hs4⟩ : ∃ s, s = strL (systems.getD 0 []) := ⟨_, rfl⟩
  have hq4 : s4.size = 7 := by rw [hs4]; rfl
  have N2 : ¬ 9223372036854775807 < 4 := by omega
  have N3 : ¬ 9223372036854775807 < 4 + z_rd := by omega
  have M3 : ¬ 9223372036854775807 < 3 + 1 + z_rd := by omega
  have N4 : ¬ 9223372036854775807 < 4 + z_rd + 1 := by omega
  have M4 : ¬ 9223372036854775807 < 3 + 1 + z_rd + 1 := by omega
  have N5 : ¬ 9223372036854775807 < 4 + z_rd + 8 := by omega
  have M5 : ¬ 9223372036854775807 < 3 + 1 + z_rd + 1 + 7 := by omega
  have SA := Lib.hid (show (s0 ++ ⟨#[32]⟩ ++ strL (reg d) ++ ⟨#[44]⟩ ++ s4 : ByteArray) = strL (printR ⟨23, d, n, m, imm, 0⟩) by
    rw [hs0, hs4]
    show strL (names.getD 23 []) ++ strL [32] ++ strL (reg d) ++ strL [44] ++ strL (systems.getD 0 []) = _
    rw [strL_app, strL_app, strL_app, strL_app]
    congr 1
    all_goals simp only [printR, Int.reduceEq, or_self, or_true, true_or, or_false, false_or, if_true, if_false, false_and, true_and, and_false, and_true, Int.reduceLE, Int.reduceLT, Int.reduceMod, and_self, reduceIte]
    all_goals simp [at!])
  have C0 := Lib.hid (show w.cell? ⟨0, 23, none⟩ = some (.string (strL (names.getD 23 []))) from ht.nm 23 (by decide))
  rw [← hs0] at C0
  have C4 := Lib.hid (show w.cell? ⟨4, 0, none⟩ = some (.string (strL (systems.getD 0 []))) from ht.sy 0 (by decide))
  rw [← hs4] at C4
  clear ht hr hs0 hs4
  go_enter Tryd.func10, Tryd.ntmps10
  go_upto_region 1 with fail
  refine to_cls ?_
  intro U0 hU0 y0
  have r_b : ∀ z : Wb U0, Row z.at (w.heap.size) [.int .i64 23, .int .i64 d, .int .i64 n, .int .i64 m, .int .i64 imm, .int .i64 0] 23 := Row.next (Row.new _ [.int .i64 23, .int .i64 d, .int .i64 n, .int .i64 m, .int .i64 imm, .int .i64 0] _) hU0
  have KK := Lib.hid (KB.next (KB.alloc (Below.refl _ _) _) hU0)
  clear hU0
  obtain ⟨c_b_0, c_b_1, c_b_2, c_b_3, c_b_4, c_b_5⟩ := six r_b
  have TZ := Lib.hid fun z => TH.out.below (KK.out z)
  have cc0 := keepc KK C0
  have cc4 := keepc KK C4
  go_wp2_with fail
  refine (RI.out _ (TZ.out y0)).mono ?_
  rintro e w1 ⟨rfl, g⟩
  obtain ⟨y1, rfl⟩ := Wb.next (x := y0) g
  clear g
  go_wp2_with fail
  refine to_pt ?_
  intro U2 hU2
  clear c_b_0 c_b_1 c_b_2 c_b_3 c_b_4 c_b_5 cc0 cc4
  have r_b : ∀ z : Wb U2, Row z.at (w.heap.size) [.int .i64 23, .int .i64 d, .int .i64 n, .int .i64 m, .int .i64 imm, .int .i64 0] 23 := Row.next (r_b y1) hU2
  have KK := Lib.hid (KB.next (KK.out y1) hU2)
  clear hU2
  obtain ⟨c_b_0, c_b_1, c_b_2, c_b_3, c_b_4, c_b_5⟩ := six r_b
  have TZ := Lib.hid fun z => TH.out.below (KK.out z)
  have cc0 := keepc KK C0
  have cc4 := keepc KK C4
  refine wp_region_wb (by kernel_rfl) (by kernel_rfl) ?_
  repeat (go_big_quiet_step ((go_at_call 18; exact Calls.wb (RG.out _ (TZ.out _) _ (by first | assumption | decide) (by first | assumption | decide)))))
  refine wpQuiet_nil ?_
  rintro _ ⟨y3, rfl⟩
  go_wp2
  go_ret
  exact ⟨by rw [← SA.out]; rfl, KK.out y3⟩

set_option maxRecDepth 100000 in
set_option maxHeartbeats 3200000 in
theorem aprint_23_1 (d n m imm : Int) (w : World) (ht : Tab w) (hr : GrI.right ⟨23, d, n, m, imm, 1⟩) : Calls Tryd.prog 10 #[.agg #[.int .i64 23, .int .i64 d, .int .i64 n, .int .i64 m, .int .i64 imm, .int .i64 1]] w fun e w' => e = .returned (.string (strL (printR ⟨23, d, n, m, imm, 1⟩))) ∧ Below w.heap.size w w' := by
  obtain ⟨b1, b2⟩ := GrI.imm_bd hr
  obtain ⟨dn0, dn1, dn2, dn3, dn4, dn5⟩ := reg_bd hr
  simp only at b1 b2 dn0 dn1 dn2 dn3 dn4 dn5
  have TH := Lib.hid ht
  have RI := Lib.hid (fun w2 (t2 : Tab w2) => right_yes ⟨23, d, n, m, imm, 1⟩ w2 t2.sh ⟨b1, b2⟩ (by simpa [encB] using hr))
  have RG := Lib.hid (fun w2 (t2 : Tab w2) (n : Int) (h0 : 0 ≤ n) (h1 : n ≤ 31) => reg_any n w2 t2.tb (by omega) (by omega))
  obtain ⟨s0, hs0⟩ : ∃ s, s = strL (names.getD 23 []) := ⟨_, rfl⟩
  have hq0 : s0.size = 3 := by rw [hs0]; rfl
  obtain ⟨z_rd, hz_rd⟩ : ∃ zz, zz = (strL (reg d)).size := ⟨_, rfl⟩
  have e_rd : (strL (reg d)).size = z_rd := hz_rd.symm
  have l_rd : z_rd ≤ 65 := by rw [hz_rd, strL_size]; exact reg_len d
  clear hz_rd
  obtain ⟨s4, hs4⟩ : ∃ s, s = strL (systems.getD 1 []) := ⟨_, rfl⟩
  have hq4 : s4.size = 7 := by rw [hs4]; rfl
  have N2 : ¬ 9223372036854775807 < 4 := by omega
  have N3 : ¬ 9223372036854775807 < 4 + z_rd := by omega
  have M3 : ¬ 9223372036854775807 < 3 + 1 + z_rd := by omega
  have N4 : ¬ 9223372036854775807 < 4 + z_rd + 1 := by omega
  have M4 : ¬ 9223372036854775807 < 3 + 1 + z_rd + 1 := by omega
  have N5 : ¬ 9223372036854775807 < 4 + z_rd + 8 := by omega
  have M5 : ¬ 9223372036854775807 < 3 + 1 + z_rd + 1 + 7 := by omega
  have SA := Lib.hid (show (s0 ++ ⟨#[32]⟩ ++ strL (reg d) ++ ⟨#[44]⟩ ++ s4 : ByteArray) = strL (printR ⟨23, d, n, m, imm, 1⟩) by
    rw [hs0, hs4]
    show strL (names.getD 23 []) ++ strL [32] ++ strL (reg d) ++ strL [44] ++ strL (systems.getD 1 []) = _
    rw [strL_app, strL_app, strL_app, strL_app]
    congr 1
    all_goals simp only [printR, Int.reduceEq, or_self, or_true, true_or, or_false, false_or, if_true, if_false, false_and, true_and, and_false, and_true, Int.reduceLE, Int.reduceLT, Int.reduceMod, and_self, reduceIte]
    all_goals simp [at!])
  have C0 := Lib.hid (show w.cell? ⟨0, 23, none⟩ = some (.string (strL (names.getD 23 []))) from ht.nm 23 (by decide))
  rw [← hs0] at C0
  have C4 := Lib.hid (show w.cell? ⟨4, 1, none⟩ = some (.string (strL (systems.getD 1 []))) from ht.sy 1 (by decide))
  rw [← hs4] at C4
  clear ht hr hs0 hs4
  go_enter Tryd.func10, Tryd.ntmps10
  go_upto_region 1 with fail
  refine to_cls ?_
  intro U0 hU0 y0
  have r_b : ∀ z : Wb U0, Row z.at (w.heap.size) [.int .i64 23, .int .i64 d, .int .i64 n, .int .i64 m, .int .i64 imm, .int .i64 1] 23 := Row.next (Row.new _ [.int .i64 23, .int .i64 d, .int .i64 n, .int .i64 m, .int .i64 imm, .int .i64 1] _) hU0
  have KK := Lib.hid (KB.next (KB.alloc (Below.refl _ _) _) hU0)
  clear hU0
  obtain ⟨c_b_0, c_b_1, c_b_2, c_b_3, c_b_4, c_b_5⟩ := six r_b
  have TZ := Lib.hid fun z => TH.out.below (KK.out z)
  have cc0 := keepc KK C0
  have cc4 := keepc KK C4
  go_wp2_with fail
  refine (RI.out _ (TZ.out y0)).mono ?_
  rintro e w1 ⟨rfl, g⟩
  obtain ⟨y1, rfl⟩ := Wb.next (x := y0) g
  clear g
  go_wp2_with fail
  refine to_pt ?_
  intro U2 hU2
  clear c_b_0 c_b_1 c_b_2 c_b_3 c_b_4 c_b_5 cc0 cc4
  have r_b : ∀ z : Wb U2, Row z.at (w.heap.size) [.int .i64 23, .int .i64 d, .int .i64 n, .int .i64 m, .int .i64 imm, .int .i64 1] 23 := Row.next (r_b y1) hU2
  have KK := Lib.hid (KB.next (KK.out y1) hU2)
  clear hU2
  obtain ⟨c_b_0, c_b_1, c_b_2, c_b_3, c_b_4, c_b_5⟩ := six r_b
  have TZ := Lib.hid fun z => TH.out.below (KK.out z)
  have cc0 := keepc KK C0
  have cc4 := keepc KK C4
  refine wp_region_wb (by kernel_rfl) (by kernel_rfl) ?_
  repeat (go_big_quiet_step ((go_at_call 18; exact Calls.wb (RG.out _ (TZ.out _) _ (by first | assumption | decide) (by first | assumption | decide)))))
  refine wpQuiet_nil ?_
  rintro _ ⟨y3, rfl⟩
  go_wp2
  go_ret
  exact ⟨by rw [← SA.out]; rfl, KK.out y3⟩

set_option maxRecDepth 100000 in
set_option maxHeartbeats 3200000 in
theorem aprint_23_2 (d n m imm : Int) (w : World) (ht : Tab w) (hr : GrI.right ⟨23, d, n, m, imm, 2⟩) : Calls Tryd.prog 10 #[.agg #[.int .i64 23, .int .i64 d, .int .i64 n, .int .i64 m, .int .i64 imm, .int .i64 2]] w fun e w' => e = .returned (.string (strL (printR ⟨23, d, n, m, imm, 2⟩))) ∧ Below w.heap.size w w' := by
  obtain ⟨b1, b2⟩ := GrI.imm_bd hr
  obtain ⟨dn0, dn1, dn2, dn3, dn4, dn5⟩ := reg_bd hr
  simp only at b1 b2 dn0 dn1 dn2 dn3 dn4 dn5
  have TH := Lib.hid ht
  have RI := Lib.hid (fun w2 (t2 : Tab w2) => right_yes ⟨23, d, n, m, imm, 2⟩ w2 t2.sh ⟨b1, b2⟩ (by simpa [encB] using hr))
  have RG := Lib.hid (fun w2 (t2 : Tab w2) (n : Int) (h0 : 0 ≤ n) (h1 : n ≤ 31) => reg_any n w2 t2.tb (by omega) (by omega))
  obtain ⟨s0, hs0⟩ : ∃ s, s = strL (names.getD 23 []) := ⟨_, rfl⟩
  have hq0 : s0.size = 3 := by rw [hs0]; rfl
  obtain ⟨z_rd, hz_rd⟩ : ∃ zz, zz = (strL (reg d)).size := ⟨_, rfl⟩
  have e_rd : (strL (reg d)).size = z_rd := hz_rd.symm
  have l_rd : z_rd ≤ 65 := by rw [hz_rd, strL_size]; exact reg_len d
  clear hz_rd
  obtain ⟨s4, hs4⟩ : ∃ s, s = strL (systems.getD 2 []) := ⟨_, rfl⟩
  have hq4 : s4.size = 7 := by rw [hs4]; rfl
  have N2 : ¬ 9223372036854775807 < 4 := by omega
  have N3 : ¬ 9223372036854775807 < 4 + z_rd := by omega
  have M3 : ¬ 9223372036854775807 < 3 + 1 + z_rd := by omega
  have N4 : ¬ 9223372036854775807 < 4 + z_rd + 1 := by omega
  have M4 : ¬ 9223372036854775807 < 3 + 1 + z_rd + 1 := by omega
  have N5 : ¬ 9223372036854775807 < 4 + z_rd + 8 := by omega
  have M5 : ¬ 9223372036854775807 < 3 + 1 + z_rd + 1 + 7 := by omega
  have SA := Lib.hid (show (s0 ++ ⟨#[32]⟩ ++ strL (reg d) ++ ⟨#[44]⟩ ++ s4 : ByteArray) = strL (printR ⟨23, d, n, m, imm, 2⟩) by
    rw [hs0, hs4]
    show strL (names.getD 23 []) ++ strL [32] ++ strL (reg d) ++ strL [44] ++ strL (systems.getD 2 []) = _
    rw [strL_app, strL_app, strL_app, strL_app]
    congr 1
    all_goals simp only [printR, Int.reduceEq, or_self, or_true, true_or, or_false, false_or, if_true, if_false, false_and, true_and, and_false, and_true, Int.reduceLE, Int.reduceLT, Int.reduceMod, and_self, reduceIte]
    all_goals simp [at!])
  have C0 := Lib.hid (show w.cell? ⟨0, 23, none⟩ = some (.string (strL (names.getD 23 []))) from ht.nm 23 (by decide))
  rw [← hs0] at C0
  have C4 := Lib.hid (show w.cell? ⟨4, 2, none⟩ = some (.string (strL (systems.getD 2 []))) from ht.sy 2 (by decide))
  rw [← hs4] at C4
  clear ht hr hs0 hs4
  go_enter Tryd.func10, Tryd.ntmps10
  go_upto_region 1 with fail
  refine to_cls ?_
  intro U0 hU0 y0
  have r_b : ∀ z : Wb U0, Row z.at (w.heap.size) [.int .i64 23, .int .i64 d, .int .i64 n, .int .i64 m, .int .i64 imm, .int .i64 2] 23 := Row.next (Row.new _ [.int .i64 23, .int .i64 d, .int .i64 n, .int .i64 m, .int .i64 imm, .int .i64 2] _) hU0
  have KK := Lib.hid (KB.next (KB.alloc (Below.refl _ _) _) hU0)
  clear hU0
  obtain ⟨c_b_0, c_b_1, c_b_2, c_b_3, c_b_4, c_b_5⟩ := six r_b
  have TZ := Lib.hid fun z => TH.out.below (KK.out z)
  have cc0 := keepc KK C0
  have cc4 := keepc KK C4
  go_wp2_with fail
  refine (RI.out _ (TZ.out y0)).mono ?_
  rintro e w1 ⟨rfl, g⟩
  obtain ⟨y1, rfl⟩ := Wb.next (x := y0) g
  clear g
  go_wp2_with fail
  refine to_pt ?_
  intro U2 hU2
  clear c_b_0 c_b_1 c_b_2 c_b_3 c_b_4 c_b_5 cc0 cc4
  have r_b : ∀ z : Wb U2, Row z.at (w.heap.size) [.int .i64 23, .int .i64 d, .int .i64 n, .int .i64 m, .int .i64 imm, .int .i64 2] 23 := Row.next (r_b y1) hU2
  have KK := Lib.hid (KB.next (KK.out y1) hU2)
  clear hU2
  obtain ⟨c_b_0, c_b_1, c_b_2, c_b_3, c_b_4, c_b_5⟩ := six r_b
  have TZ := Lib.hid fun z => TH.out.below (KK.out z)
  have cc0 := keepc KK C0
  have cc4 := keepc KK C4
  refine wp_region_wb (by kernel_rfl) (by kernel_rfl) ?_
  repeat (go_big_quiet_step ((go_at_call 18; exact Calls.wb (RG.out _ (TZ.out _) _ (by first | assumption | decide) (by first | assumption | decide)))))
  refine wpQuiet_nil ?_
  rintro _ ⟨y3, rfl⟩
  go_wp2
  go_ret
  exact ⟨by rw [← SA.out]; rfl, KK.out y3⟩

set_option maxRecDepth 100000 in
set_option maxHeartbeats 3200000 in
theorem aprint_20 (d n m imm kind : Int) (w : World) (ht : Tab w) (hr : GrI.right ⟨20, d, n, m, imm, kind⟩) : Calls Tryd.prog 10 #[.agg #[.int .i64 20, .int .i64 d, .int .i64 n, .int .i64 m, .int .i64 imm, .int .i64 kind]] w fun e w' => e = .returned (.string (strL (printR ⟨20, d, n, m, imm, kind⟩))) ∧ Below w.heap.size w w' := by
  obtain ⟨b1, b2⟩ := GrI.imm_bd hr
  obtain ⟨dn0, dn1, dn2, dn3, dn4, dn5⟩ := reg_bd hr
  simp only at b1 b2 dn0 dn1 dn2 dn3 dn4 dn5
  have TH := Lib.hid ht
  have RI := Lib.hid (fun w2 (t2 : Tab w2) => right_yes ⟨20, d, n, m, imm, kind⟩ w2 t2.sh ⟨b1, b2⟩ (by simpa [encB] using hr))
  have RG := Lib.hid (fun w2 (t2 : Tab w2) (n : Int) (h0 : 0 ≤ n) (h1 : n ≤ 31) => reg_any n w2 t2.tb (by omega) (by omega))
  have NY : ¬ 9223372036854775807 < 3 + 1 := by omega
  obtain ⟨s0, hs0⟩ : ∃ s, s = strL (names.getD 20 []) := ⟨_, rfl⟩
  have hq0 : s0.size = 3 := by rw [hs0]; rfl
  have SA := Lib.hid (show (s0 : ByteArray) = strL (printR ⟨20, d, n, m, imm, kind⟩) by
    rw [hs0]
    show strL (names.getD 20 []) = _
    congr 1
    all_goals simp only [printR, Int.reduceEq, or_self, or_true, true_or, or_false, false_or, if_true, if_false, false_and, true_and, and_false, and_true, Int.reduceLE, Int.reduceLT, Int.reduceMod, and_self, reduceIte]
    all_goals simp [at!])
  have C0 := Lib.hid (show w.cell? ⟨0, 20, none⟩ = some (.string (strL (names.getD 20 []))) from ht.nm 20 (by decide))
  rw [← hs0] at C0
  clear ht hr hs0
  go_enter Tryd.func10, Tryd.ntmps10
  go_upto_region 1 with fail
  refine to_cls ?_
  intro U0 hU0 y0
  have r_b : ∀ z : Wb U0, Row z.at (w.heap.size) [.int .i64 20, .int .i64 d, .int .i64 n, .int .i64 m, .int .i64 imm, .int .i64 kind] 23 := Row.next (Row.new _ [.int .i64 20, .int .i64 d, .int .i64 n, .int .i64 m, .int .i64 imm, .int .i64 kind] _) hU0
  have KK := Lib.hid (KB.next (KB.alloc (Below.refl _ _) _) hU0)
  clear hU0
  obtain ⟨c_b_0, c_b_1, c_b_2, c_b_3, c_b_4, c_b_5⟩ := six r_b
  have TZ := Lib.hid fun z => TH.out.below (KK.out z)
  have cc0 := keepc KK C0
  go_wp2_with fail
  refine (RI.out _ (TZ.out y0)).mono ?_
  rintro e w1 ⟨rfl, g⟩
  obtain ⟨y1, rfl⟩ := Wb.next (x := y0) g
  clear g
  go_wp2_with fail
  refine to_pt ?_
  intro U2 hU2
  clear c_b_0 c_b_1 c_b_2 c_b_3 c_b_4 c_b_5 cc0
  have r_b : ∀ z : Wb U2, Row z.at (w.heap.size) [.int .i64 20, .int .i64 d, .int .i64 n, .int .i64 m, .int .i64 imm, .int .i64 kind] 23 := Row.next (r_b y1) hU2
  have KK := Lib.hid (KB.next (KK.out y1) hU2)
  clear hU2
  obtain ⟨c_b_0, c_b_1, c_b_2, c_b_3, c_b_4, c_b_5⟩ := six r_b
  have TZ := Lib.hid fun z => TH.out.below (KK.out z)
  have cc0 := keepc KK C0
  refine wp_region_wb (by kernel_rfl) (by kernel_rfl) ?_
  repeat (go_big_quiet_step ((go_at_call 18; exact Calls.wb (RG.out _ (TZ.out _) _ (by first | assumption | decide) (by first | assumption | decide)))))
  refine wpQuiet_nil ?_
  rintro _ ⟨y3, rfl⟩
  go_wp2
  go_ret
  exact ⟨by rw [← SA.out]; rfl, KK.out y3⟩

set_option maxRecDepth 100000 in
set_option maxHeartbeats 3200000 in
theorem aprint_22 (d n m imm kind : Int) (w : World) (ht : Tab w) (hr : GrI.right ⟨22, d, n, m, imm, kind⟩) : Calls Tryd.prog 10 #[.agg #[.int .i64 22, .int .i64 d, .int .i64 n, .int .i64 m, .int .i64 imm, .int .i64 kind]] w fun e w' => e = .returned (.string (strL (printR ⟨22, d, n, m, imm, kind⟩))) ∧ Below w.heap.size w w' := by
  obtain ⟨b1, b2⟩ := GrI.imm_bd hr
  obtain ⟨dn0, dn1, dn2, dn3, dn4, dn5⟩ := reg_bd hr
  simp only at b1 b2 dn0 dn1 dn2 dn3 dn4 dn5
  have TH := Lib.hid ht
  have RI := Lib.hid (fun w2 (t2 : Tab w2) => right_yes ⟨22, d, n, m, imm, kind⟩ w2 t2.sh ⟨b1, b2⟩ (by simpa [encB] using hr))
  have RG := Lib.hid (fun w2 (t2 : Tab w2) (n : Int) (h0 : 0 ≤ n) (h1 : n ≤ 31) => reg_any n w2 t2.tb (by omega) (by omega))
  have NY : ¬ 9223372036854775807 < 4 + 1 := by omega
  obtain ⟨s0, hs0⟩ : ∃ s, s = strL (names.getD 22 []) := ⟨_, rfl⟩
  have hq0 : s0.size = 4 := by rw [hs0]; rfl
  have SA := Lib.hid (show (s0 : ByteArray) = strL (printR ⟨22, d, n, m, imm, kind⟩) by
    rw [hs0]
    show strL (names.getD 22 []) = _
    congr 1
    all_goals simp only [printR, Int.reduceEq, or_self, or_true, true_or, or_false, false_or, if_true, if_false, false_and, true_and, and_false, and_true, Int.reduceLE, Int.reduceLT, Int.reduceMod, and_self, reduceIte]
    all_goals simp [at!])
  have C0 := Lib.hid (show w.cell? ⟨0, 22, none⟩ = some (.string (strL (names.getD 22 []))) from ht.nm 22 (by decide))
  rw [← hs0] at C0
  clear ht hr hs0
  go_enter Tryd.func10, Tryd.ntmps10
  go_upto_region 1 with fail
  refine to_cls ?_
  intro U0 hU0 y0
  have r_b : ∀ z : Wb U0, Row z.at (w.heap.size) [.int .i64 22, .int .i64 d, .int .i64 n, .int .i64 m, .int .i64 imm, .int .i64 kind] 23 := Row.next (Row.new _ [.int .i64 22, .int .i64 d, .int .i64 n, .int .i64 m, .int .i64 imm, .int .i64 kind] _) hU0
  have KK := Lib.hid (KB.next (KB.alloc (Below.refl _ _) _) hU0)
  clear hU0
  obtain ⟨c_b_0, c_b_1, c_b_2, c_b_3, c_b_4, c_b_5⟩ := six r_b
  have TZ := Lib.hid fun z => TH.out.below (KK.out z)
  have cc0 := keepc KK C0
  go_wp2_with fail
  refine (RI.out _ (TZ.out y0)).mono ?_
  rintro e w1 ⟨rfl, g⟩
  obtain ⟨y1, rfl⟩ := Wb.next (x := y0) g
  clear g
  go_wp2_with fail
  refine to_pt ?_
  intro U2 hU2
  clear c_b_0 c_b_1 c_b_2 c_b_3 c_b_4 c_b_5 cc0
  have r_b : ∀ z : Wb U2, Row z.at (w.heap.size) [.int .i64 22, .int .i64 d, .int .i64 n, .int .i64 m, .int .i64 imm, .int .i64 kind] 23 := Row.next (r_b y1) hU2
  have KK := Lib.hid (KB.next (KK.out y1) hU2)
  clear hU2
  obtain ⟨c_b_0, c_b_1, c_b_2, c_b_3, c_b_4, c_b_5⟩ := six r_b
  have TZ := Lib.hid fun z => TH.out.below (KK.out z)
  have cc0 := keepc KK C0
  refine wp_region_wb (by kernel_rfl) (by kernel_rfl) ?_
  repeat (go_big_quiet_step ((go_at_call 18; exact Calls.wb (RG.out _ (TZ.out _) _ (by first | assumption | decide) (by first | assumption | decide)))))
  refine wpQuiet_nil ?_
  rintro _ ⟨y3, rfl⟩
  go_wp2
  go_ret
  exact ⟨by rw [← SA.out]; rfl, KK.out y3⟩

end Go.Proofs.YtebpmngllljkaaaDoor
