/-
  Layer 4, the laws: the page's Print: 
-/
import Derived.Test.YtebpmngllljkaaaDoorYa
set_option linter.unusedSimpArgs false
set_option linter.unusedVariables false
namespace Go.Proofs.YtebpmngllljkaaaDoor
open Go.RowKit GrP GrA

set_option maxRecDepth 100000 in
set_option maxHeartbeats 6400000 in
theorem rprint_1 (d n m imm kind : Int) (w : World) (hr : GrI.right ⟨1, d, n, m, imm, kind⟩) (hi : ¬ imm < 0) : Calls Tryd.prog 11 #[.agg #[.int .i64 1, .int .i64 d, .int .i64 n, .int .i64 m, .int .i64 imm, .int .i64 kind]] w fun e w' => e = .returned (.string (strL (printR ⟨1, d, n, m, imm, kind⟩))) ∧ Below w.heap.size w w' := by
  obtain ⟨b1, b2⟩ := GrI.imm_bd hr
  obtain ⟨dn0, dn1, dn2, dn3, dn4, dn5⟩ := reg_bd hr
  simp only at b1 b2 dn0 dn1 dn2 dn3 dn4 dn5
  have RI := Lib.hid (fun w2 => pright_is ⟨1, d, n, m, imm, kind⟩ w2 true (by simpa [encB] using hr))
  unfold iv at RI
  simp only at RI
  have RG := Lib.hid (fun w2 (n : Int) (h0 : 0 ≤ n) (h1 : n ≤ 31) => rreg_any n w2 (by omega) (by omega))
  have NU := Lib.hid (fun w2 => rnum_any imm w2 b1 b2)
  have NA := Lib.hid (fun w2 => rnames_any 1 (by decide) (by decide) w2)
  obtain ⟨nm, hnm⟩ : ∃ s, s = strL (at! names 1) := ⟨_, rfl⟩
  rw [← hnm] at NA
  have znm : nm.size = 3 := by rw [hnm]; rfl
  obtain ⟨zu, hzu⟩ : ∃ z, z = (strL (num imm)).size := ⟨_, rfl⟩
  have ezu : (strL (num imm)).size = zu := hzu.symm
  have lzu : zu ≤ 65 := by rw [hzu, strL_size]; exact itoa_len64 b1 b2
  clear hzu
  obtain ⟨c0, y0z, r0, hc0, s0, l0, n0⟩ := letter (⟨#[35]⟩ : ByteArray) (strL (num imm)) 1 zu 66 rfl ezu (by omega) (by decide)
  obtain ⟨c1, y1z, r1, hc1, s1, l1, n1⟩ := letter (⟨#[46, 43]⟩ : ByteArray) (strL (num imm)) 2 zu 67 rfl ezu (by omega) (by decide)
  have SA := Lib.hid (show nm = strL (printR ⟨1, d, n, m, imm, kind⟩) by
    rw [hnm]
    show strL (at! names 1) = _
    congr 1
    all_goals simp only [printR, Int.reduceEq, or_self, or_true, true_or, or_false, false_or, if_true, if_false, false_and, true_and, and_false, and_true, Int.reduceLE, Int.reduceLT, Int.reduceMod, and_self, reduceIte]
    all_goals simp [at!, toT, cellT, num])
  clear hr hnm hc0 hc1
  have i1 : decide (imm < 0) = false := by simpa using hi
  clear hi
  go_enter Tryd.func11, Tryd.ntmps11
  go_upto_region 1 with fail
  refine to_cls ?_
  intro U0 hU0 y0
  have r_b : ∀ z : Wb U0, Row z.at (w.heap.size) [.int .i64 1, .int .i64 d, .int .i64 n, .int .i64 m, .int .i64 imm, .int .i64 kind] 23 := Row.next (Row.new _ [.int .i64 1, .int .i64 d, .int .i64 n, .int .i64 m, .int .i64 imm, .int .i64 kind] _) hU0
  have KK := Lib.hid (KB.next (KB.alloc (Below.refl _ _) _) hU0)
  clear hU0
  obtain ⟨c_b_0, c_b_1, c_b_2, c_b_3, c_b_4, c_b_5⟩ := six r_b
  go_wp2_with fail
  refine (RI.out _).mono ?_
  rintro e w1 ⟨rfl, g⟩
  obtain ⟨y1, rfl⟩ := Wb.next (x := y0) g
  clear g
  go_wp2_with fail
  refine (NU.out _).mono ?_
  rintro e w1 ⟨rfl, g⟩
  obtain ⟨y2, rfl⟩ := Wb.next (x := y1) g
  clear g
  go_wp2_with fail
  refine (NU.out _).mono ?_
  rintro e w1 ⟨rfl, g⟩
  obtain ⟨y3, rfl⟩ := Wb.next (x := y2) g
  clear g
  go_wp2_with fail
  refine (NA.out _).mono ?_
  rintro e w1 ⟨rfl, g⟩
  obtain ⟨y4, rfl⟩ := Wb.next (x := y3) g
  clear g
  go_wp2
  go_ret
  exact ⟨by rw [← SA.out]; rfl, KK.out y4⟩

set_option maxRecDepth 100000 in
set_option maxHeartbeats 6400000 in
theorem rprint_2_0 (d n m imm kind : Int) (w : World) (hr : GrI.right ⟨2, d, n, m, imm, kind⟩) (hi : ¬ imm < 0) (h0 : imm = 0) : Calls Tryd.prog 11 #[.agg #[.int .i64 2, .int .i64 d, .int .i64 n, .int .i64 m, .int .i64 imm, .int .i64 kind]] w fun e w' => e = .returned (.string (strL (printR ⟨2, d, n, m, imm, kind⟩))) ∧ Below w.heap.size w w' := by
  obtain ⟨b1, b2⟩ := GrI.imm_bd hr
  obtain ⟨dn0, dn1, dn2, dn3, dn4, dn5⟩ := reg_bd hr
  simp only at b1 b2 dn0 dn1 dn2 dn3 dn4 dn5
  have RI := Lib.hid (fun w2 => pright_is ⟨2, d, n, m, imm, kind⟩ w2 true (by simpa [encB] using hr))
  unfold iv at RI
  simp only at RI
  have RG := Lib.hid (fun w2 (n : Int) (h0 : 0 ≤ n) (h1 : n ≤ 31) => rreg_any n w2 (by omega) (by omega))
  have NU := Lib.hid (fun w2 => rnum_any imm w2 b1 b2)
  have NA := Lib.hid (fun w2 => rnames_any 2 (by decide) (by decide) w2)
  obtain ⟨nm, hnm⟩ : ∃ s, s = strL (at! names 2) := ⟨_, rfl⟩
  rw [← hnm] at NA
  have znm : nm.size = 3 := by rw [hnm]; rfl
  obtain ⟨zu, hzu⟩ : ∃ z, z = (strL (num imm)).size := ⟨_, rfl⟩
  have ezu : (strL (num imm)).size = zu := hzu.symm
  have lzu : zu ≤ 65 := by rw [hzu, strL_size]; exact itoa_len64 b1 b2
  clear hzu
  obtain ⟨zd, hzd⟩ : ∃ z, z = (strL (reg d)).size := ⟨_, rfl⟩
  have ezd : (strL (reg d)).size = zd := hzd.symm
  have lzd : zd ≤ 65 := by rw [hzd, strL_size]; exact regK d
  clear hzd
  obtain ⟨zn, hzn⟩ : ∃ z, z = (strL (reg n)).size := ⟨_, rfl⟩
  have ezn : (strL (reg n)).size = zn := hzn.symm
  have lzn : zn ≤ 65 := by rw [hzn, strL_size]; exact regK n
  clear hzn
  obtain ⟨c0, y0z, r0, hc0, s0, l0, n0⟩ := letter (⟨#[35]⟩ : ByteArray) (strL (num imm)) 1 zu 66 rfl ezu (by omega) (by decide)
  obtain ⟨c1, y1z, r1, hc1, s1, l1, n1⟩ := letter (⟨#[46, 43]⟩ : ByteArray) (strL (num imm)) 2 zu 67 rfl ezu (by omega) (by decide)
  obtain ⟨c2, y2z, r2, hc2, s2, l2, n2⟩ := letter nm (⟨#[32]⟩ : ByteArray) 3 1 4 znm rfl (by omega) (by decide)
  obtain ⟨c3, y3z, r3, hc3, s3, l3, n3⟩ := letter c2 (strL (reg d)) y2z zd 69 s2 ezd (by omega) (by decide)
  obtain ⟨c4, y4z, r4, hc4, s4, l4, n4⟩ := letter c3 (⟨#[44, 91]⟩ : ByteArray) y3z 2 71 s3 rfl (by omega) (by decide)
  obtain ⟨c5, y5z, r5, hc5, s5, l5, n5⟩ := letter c4 (strL (reg n)) y4z zn 136 s4 ezn (by omega) (by decide)
  obtain ⟨c6, y6z, r6, hc6, s6, l6, n6⟩ := letter c5 (⟨#[93]⟩ : ByteArray) y5z 1 137 s5 rfl (by omega) (by decide)
  have SA := Lib.hid (show c6 = strL (printR ⟨2, d, n, m, imm, kind⟩) by
    rw [hc6, hc5, hc4, hc3, hc2]
    rw [hnm]
    show strL (at! names 2) ++ strL [32] ++ strL (reg d) ++ strL [44, 91] ++ strL (reg n) ++ strL [93] = _
    rw [strL_app, strL_app, strL_app, strL_app, strL_app]
    congr 1
    all_goals simp only [printR, Int.reduceEq, or_self, or_true, true_or, or_false, false_or, if_true, if_false, false_and, true_and, and_false, and_true, Int.reduceLE, Int.reduceLT, Int.reduceMod, and_self, reduceIte, h0]
    all_goals simp [at!, toT, cellT, num, h0])
  clear hr hnm hc0 hc1 hc2 hc3 hc4 hc5 hc6
  have g1 : (imm == 0) = true := by simpa using h0
  have g2 : (imm != 0) = false := by simpa using h0
  clear h0
  have i1 : decide (imm < 0) = false := by simpa using hi
  clear hi
  go_enter Tryd.func11, Tryd.ntmps11
  go_upto_region 1 with fail
  refine to_cls ?_
  intro U0 hU0 y0
  have r_b : ∀ z : Wb U0, Row z.at (w.heap.size) [.int .i64 2, .int .i64 d, .int .i64 n, .int .i64 m, .int .i64 imm, .int .i64 kind] 23 := Row.next (Row.new _ [.int .i64 2, .int .i64 d, .int .i64 n, .int .i64 m, .int .i64 imm, .int .i64 kind] _) hU0
  have KK := Lib.hid (KB.next (KB.alloc (Below.refl _ _) _) hU0)
  clear hU0
  obtain ⟨c_b_0, c_b_1, c_b_2, c_b_3, c_b_4, c_b_5⟩ := six r_b
  go_wp2_with fail
  refine (RI.out _).mono ?_
  rintro e w1 ⟨rfl, g⟩
  obtain ⟨y1, rfl⟩ := Wb.next (x := y0) g
  clear g
  go_wp2_with fail
  refine (NU.out _).mono ?_
  rintro e w1 ⟨rfl, g⟩
  obtain ⟨y2, rfl⟩ := Wb.next (x := y1) g
  clear g
  go_wp2_with fail
  refine (NU.out _).mono ?_
  rintro e w1 ⟨rfl, g⟩
  obtain ⟨y3, rfl⟩ := Wb.next (x := y2) g
  clear g
  go_wp2_with fail
  refine (NA.out _).mono ?_
  rintro e w1 ⟨rfl, g⟩
  obtain ⟨y4, rfl⟩ := Wb.next (x := y3) g
  clear g
  go_wp2_with fail
  refine to_pt ?_
  intro U5 hU5
  clear c_b_0 c_b_1 c_b_2 c_b_3 c_b_4 c_b_5
  have r_b : ∀ z : Wb U5, Row z.at (w.heap.size) [.int .i64 2, .int .i64 d, .int .i64 n, .int .i64 m, .int .i64 imm, .int .i64 kind] 23 := Row.next (r_b y4) hU5
  have KK := Lib.hid (KB.next (KK.out y4) hU5)
  clear hU5
  obtain ⟨c_b_0, c_b_1, c_b_2, c_b_3, c_b_4, c_b_5⟩ := six r_b
  refine wp_region_wb (by kernel_rfl) (by kernel_rfl) ?_
  repeat (go_big_quiet_step ((go_at_call 17; exact Calls.wb (RG.out _ _ (by first | assumption | decide) (by first | assumption | decide)))))
  refine wpQuiet_nil ?_
  rintro _ ⟨x6, rfl⟩
  go_wp2
  go_ret
  exact ⟨by rw [← SA.out]; rfl, KK.out x6⟩

set_option maxRecDepth 100000 in
set_option maxHeartbeats 6400000 in
theorem rprint_2_1 (d n m imm kind : Int) (w : World) (hr : GrI.right ⟨2, d, n, m, imm, kind⟩) (hi : ¬ imm < 0) (h0 : ¬ imm = 0) : Calls Tryd.prog 11 #[.agg #[.int .i64 2, .int .i64 d, .int .i64 n, .int .i64 m, .int .i64 imm, .int .i64 kind]] w fun e w' => e = .returned (.string (strL (printR ⟨2, d, n, m, imm, kind⟩))) ∧ Below w.heap.size w w' := by
  obtain ⟨b1, b2⟩ := GrI.imm_bd hr
  obtain ⟨dn0, dn1, dn2, dn3, dn4, dn5⟩ := reg_bd hr
  simp only at b1 b2 dn0 dn1 dn2 dn3 dn4 dn5
  have RI := Lib.hid (fun w2 => pright_is ⟨2, d, n, m, imm, kind⟩ w2 true (by simpa [encB] using hr))
  unfold iv at RI
  simp only at RI
  have RG := Lib.hid (fun w2 (n : Int) (h0 : 0 ≤ n) (h1 : n ≤ 31) => rreg_any n w2 (by omega) (by omega))
  have NU := Lib.hid (fun w2 => rnum_any imm w2 b1 b2)
  have NA := Lib.hid (fun w2 => rnames_any 2 (by decide) (by decide) w2)
  obtain ⟨nm, hnm⟩ : ∃ s, s = strL (at! names 2) := ⟨_, rfl⟩
  rw [← hnm] at NA
  have znm : nm.size = 3 := by rw [hnm]; rfl
  obtain ⟨zu, hzu⟩ : ∃ z, z = (strL (num imm)).size := ⟨_, rfl⟩
  have ezu : (strL (num imm)).size = zu := hzu.symm
  have lzu : zu ≤ 65 := by rw [hzu, strL_size]; exact itoa_len64 b1 b2
  clear hzu
  obtain ⟨zd, hzd⟩ : ∃ z, z = (strL (reg d)).size := ⟨_, rfl⟩
  have ezd : (strL (reg d)).size = zd := hzd.symm
  have lzd : zd ≤ 65 := by rw [hzd, strL_size]; exact regK d
  clear hzd
  obtain ⟨zn, hzn⟩ : ∃ z, z = (strL (reg n)).size := ⟨_, rfl⟩
  have ezn : (strL (reg n)).size = zn := hzn.symm
  have lzn : zn ≤ 65 := by rw [hzn, strL_size]; exact regK n
  clear hzn
  obtain ⟨c0, y0z, r0, hc0, s0, l0, n0⟩ := letter (⟨#[35]⟩ : ByteArray) (strL (num imm)) 1 zu 66 rfl ezu (by omega) (by decide)
  obtain ⟨c1, y1z, r1, hc1, s1, l1, n1⟩ := letter (⟨#[46, 43]⟩ : ByteArray) (strL (num imm)) 2 zu 67 rfl ezu (by omega) (by decide)
  obtain ⟨c2, y2z, r2, hc2, s2, l2, n2⟩ := letter nm (⟨#[32]⟩ : ByteArray) 3 1 4 znm rfl (by omega) (by decide)
  obtain ⟨c3, y3z, r3, hc3, s3, l3, n3⟩ := letter c2 (strL (reg d)) y2z zd 69 s2 ezd (by omega) (by decide)
  obtain ⟨c4, y4z, r4, hc4, s4, l4, n4⟩ := letter c3 (⟨#[44, 91]⟩ : ByteArray) y3z 2 71 s3 rfl (by omega) (by decide)
  obtain ⟨c5, y5z, r5, hc5, s5, l5, n5⟩ := letter c4 (strL (reg n)) y4z zn 136 s4 ezn (by omega) (by decide)
  obtain ⟨c6, y6z, r6, hc6, s6, l6, n6⟩ := letter c5 (⟨#[44]⟩ : ByteArray) y5z 1 137 s5 rfl (by omega) (by decide)
  obtain ⟨c7, y7z, r7, hc7, s7, l7, n7⟩ := letter c6 c0 y6z y0z 203 s6 s0 (by omega) (by decide)
  obtain ⟨c8, y8z, r8, hc8, s8, l8, n8⟩ := letter c7 (⟨#[93]⟩ : ByteArray) y7z 1 204 s7 rfl (by omega) (by decide)
  have SA := Lib.hid (show c8 = strL (printR ⟨2, d, n, m, imm, kind⟩) by
    rw [hc8, hc7, hc6, hc5, hc4, hc3, hc2, hc0]
    rw [hnm]
    show strL (at! names 2) ++ strL [32] ++ strL (reg d) ++ strL [44, 91] ++ strL (reg n) ++ strL [44] ++ (strL [35] ++ strL (num imm)) ++ strL [93] = _
    rw [strL_app, strL_app, strL_app, strL_app, strL_app, strL_app, strL_app, strL_app]
    congr 1
    all_goals simp only [printR, Int.reduceEq, or_self, or_true, true_or, or_false, false_or, if_true, if_false, false_and, true_and, and_false, and_true, Int.reduceLE, Int.reduceLT, Int.reduceMod, and_self, reduceIte, h0]
    all_goals simp [at!, toT, cellT, num, h0])
  clear hr hnm hc0 hc1 hc2 hc3 hc4 hc5 hc6 hc7 hc8
  have g1 : (imm == 0) = false := by simpa using h0
  have g2 : (imm != 0) = true := by simpa using h0
  clear h0
  have i1 : decide (imm < 0) = false := by simpa using hi
  clear hi
  go_enter Tryd.func11, Tryd.ntmps11
  go_upto_region 1 with fail
  refine to_cls ?_
  intro U0 hU0 y0
  have r_b : ∀ z : Wb U0, Row z.at (w.heap.size) [.int .i64 2, .int .i64 d, .int .i64 n, .int .i64 m, .int .i64 imm, .int .i64 kind] 23 := Row.next (Row.new _ [.int .i64 2, .int .i64 d, .int .i64 n, .int .i64 m, .int .i64 imm, .int .i64 kind] _) hU0
  have KK := Lib.hid (KB.next (KB.alloc (Below.refl _ _) _) hU0)
  clear hU0
  obtain ⟨c_b_0, c_b_1, c_b_2, c_b_3, c_b_4, c_b_5⟩ := six r_b
  go_wp2_with fail
  refine (RI.out _).mono ?_
  rintro e w1 ⟨rfl, g⟩
  obtain ⟨y1, rfl⟩ := Wb.next (x := y0) g
  clear g
  go_wp2_with fail
  refine (NU.out _).mono ?_
  rintro e w1 ⟨rfl, g⟩
  obtain ⟨y2, rfl⟩ := Wb.next (x := y1) g
  clear g
  go_wp2_with fail
  refine (NU.out _).mono ?_
  rintro e w1 ⟨rfl, g⟩
  obtain ⟨y3, rfl⟩ := Wb.next (x := y2) g
  clear g
  go_wp2_with fail
  refine (NA.out _).mono ?_
  rintro e w1 ⟨rfl, g⟩
  obtain ⟨y4, rfl⟩ := Wb.next (x := y3) g
  clear g
  go_wp2_with fail
  refine to_pt ?_
  intro U5 hU5
  clear c_b_0 c_b_1 c_b_2 c_b_3 c_b_4 c_b_5
  have r_b : ∀ z : Wb U5, Row z.at (w.heap.size) [.int .i64 2, .int .i64 d, .int .i64 n, .int .i64 m, .int .i64 imm, .int .i64 kind] 23 := Row.next (r_b y4) hU5
  have KK := Lib.hid (KB.next (KK.out y4) hU5)
  clear hU5
  obtain ⟨c_b_0, c_b_1, c_b_2, c_b_3, c_b_4, c_b_5⟩ := six r_b
  refine wp_region_wb (by kernel_rfl) (by kernel_rfl) ?_
  repeat (go_big_quiet_step ((go_at_call 17; exact Calls.wb (RG.out _ _ (by first | assumption | decide) (by first | assumption | decide)))))
  refine wpQuiet_nil ?_
  rintro _ ⟨x6, rfl⟩
  go_wp2
  go_ret
  exact ⟨by rw [← SA.out]; rfl, KK.out x6⟩

set_option maxRecDepth 100000 in
set_option maxHeartbeats 6400000 in
theorem rprint_3_0 (d n m imm kind : Int) (w : World) (hr : GrI.right ⟨3, d, n, m, imm, kind⟩) (hi : ¬ imm < 0) (h0 : imm = 0) : Calls Tryd.prog 11 #[.agg #[.int .i64 3, .int .i64 d, .int .i64 n, .int .i64 m, .int .i64 imm, .int .i64 kind]] w fun e w' => e = .returned (.string (strL (printR ⟨3, d, n, m, imm, kind⟩))) ∧ Below w.heap.size w w' := by
  obtain ⟨b1, b2⟩ := GrI.imm_bd hr
  obtain ⟨dn0, dn1, dn2, dn3, dn4, dn5⟩ := reg_bd hr
  simp only at b1 b2 dn0 dn1 dn2 dn3 dn4 dn5
  have RI := Lib.hid (fun w2 => pright_is ⟨3, d, n, m, imm, kind⟩ w2 true (by simpa [encB] using hr))
  unfold iv at RI
  simp only at RI
  have RG := Lib.hid (fun w2 (n : Int) (h0 : 0 ≤ n) (h1 : n ≤ 31) => rreg_any n w2 (by omega) (by omega))
  have NU := Lib.hid (fun w2 => rnum_any imm w2 b1 b2)
  have NA := Lib.hid (fun w2 => rnames_any 3 (by decide) (by decide) w2)
  obtain ⟨nm, hnm⟩ : ∃ s, s = strL (at! names 3) := ⟨_, rfl⟩
  rw [← hnm] at NA
  have znm : nm.size = 3 := by rw [hnm]; rfl
  obtain ⟨zu, hzu⟩ : ∃ z, z = (strL (num imm)).size := ⟨_, rfl⟩
  have ezu : (strL (num imm)).size = zu := hzu.symm
  have lzu : zu ≤ 65 := by rw [hzu, strL_size]; exact itoa_len64 b1 b2
  clear hzu
  obtain ⟨zd, hzd⟩ : ∃ z, z = (strL (reg d)).size := ⟨_, rfl⟩
  have ezd : (strL (reg d)).size = zd := hzd.symm
  have lzd : zd ≤ 65 := by rw [hzd, strL_size]; exact regK d
  clear hzd
  obtain ⟨zn, hzn⟩ : ∃ z, z = (strL (reg n)).size := ⟨_, rfl⟩
  have ezn : (strL (reg n)).size = zn := hzn.symm
  have lzn : zn ≤ 65 := by rw [hzn, strL_size]; exact regK n
  clear hzn
  obtain ⟨c0, y0z, r0, hc0, s0, l0, n0⟩ := letter (⟨#[35]⟩ : ByteArray) (strL (num imm)) 1 zu 66 rfl ezu (by omega) (by decide)
  obtain ⟨c1, y1z, r1, hc1, s1, l1, n1⟩ := letter (⟨#[46, 43]⟩ : ByteArray) (strL (num imm)) 2 zu 67 rfl ezu (by omega) (by decide)
  obtain ⟨c2, y2z, r2, hc2, s2, l2, n2⟩ := letter nm (⟨#[32]⟩ : ByteArray) 3 1 4 znm rfl (by omega) (by decide)
  obtain ⟨c3, y3z, r3, hc3, s3, l3, n3⟩ := letter c2 (strL (reg d)) y2z zd 69 s2 ezd (by omega) (by decide)
  obtain ⟨c4, y4z, r4, hc4, s4, l4, n4⟩ := letter c3 (⟨#[44, 91]⟩ : ByteArray) y3z 2 71 s3 rfl (by omega) (by decide)
  obtain ⟨c5, y5z, r5, hc5, s5, l5, n5⟩ := letter c4 (strL (reg n)) y4z zn 136 s4 ezn (by omega) (by decide)
  obtain ⟨c6, y6z, r6, hc6, s6, l6, n6⟩ := letter c5 (⟨#[93]⟩ : ByteArray) y5z 1 137 s5 rfl (by omega) (by decide)
  have SA := Lib.hid (show c6 = strL (printR ⟨3, d, n, m, imm, kind⟩) by
    rw [hc6, hc5, hc4, hc3, hc2]
    rw [hnm]
    show strL (at! names 3) ++ strL [32] ++ strL (reg d) ++ strL [44, 91] ++ strL (reg n) ++ strL [93] = _
    rw [strL_app, strL_app, strL_app, strL_app, strL_app]
    congr 1
    all_goals simp only [printR, Int.reduceEq, or_self, or_true, true_or, or_false, false_or, if_true, if_false, false_and, true_and, and_false, and_true, Int.reduceLE, Int.reduceLT, Int.reduceMod, and_self, reduceIte, h0]
    all_goals simp [at!, toT, cellT, num, h0])
  clear hr hnm hc0 hc1 hc2 hc3 hc4 hc5 hc6
  have g1 : (imm == 0) = true := by simpa using h0
  have g2 : (imm != 0) = false := by simpa using h0
  clear h0
  have i1 : decide (imm < 0) = false := by simpa using hi
  clear hi
  go_enter Tryd.func11, Tryd.ntmps11
  go_upto_region 1 with fail
  refine to_cls ?_
  intro U0 hU0 y0
  have r_b : ∀ z : Wb U0, Row z.at (w.heap.size) [.int .i64 3, .int .i64 d, .int .i64 n, .int .i64 m, .int .i64 imm, .int .i64 kind] 23 := Row.next (Row.new _ [.int .i64 3, .int .i64 d, .int .i64 n, .int .i64 m, .int .i64 imm, .int .i64 kind] _) hU0
  have KK := Lib.hid (KB.next (KB.alloc (Below.refl _ _) _) hU0)
  clear hU0
  obtain ⟨c_b_0, c_b_1, c_b_2, c_b_3, c_b_4, c_b_5⟩ := six r_b
  go_wp2_with fail
  refine (RI.out _).mono ?_
  rintro e w1 ⟨rfl, g⟩
  obtain ⟨y1, rfl⟩ := Wb.next (x := y0) g
  clear g
  go_wp2_with fail
  refine (NU.out _).mono ?_
  rintro e w1 ⟨rfl, g⟩
  obtain ⟨y2, rfl⟩ := Wb.next (x := y1) g
  clear g
  go_wp2_with fail
  refine (NU.out _).mono ?_
  rintro e w1 ⟨rfl, g⟩
  obtain ⟨y3, rfl⟩ := Wb.next (x := y2) g
  clear g
  go_wp2_with fail
  refine (NA.out _).mono ?_
  rintro e w1 ⟨rfl, g⟩
  obtain ⟨y4, rfl⟩ := Wb.next (x := y3) g
  clear g
  go_wp2_with fail
  refine to_pt ?_
  intro U5 hU5
  clear c_b_0 c_b_1 c_b_2 c_b_3 c_b_4 c_b_5
  have r_b : ∀ z : Wb U5, Row z.at (w.heap.size) [.int .i64 3, .int .i64 d, .int .i64 n, .int .i64 m, .int .i64 imm, .int .i64 kind] 23 := Row.next (r_b y4) hU5
  have KK := Lib.hid (KB.next (KK.out y4) hU5)
  clear hU5
  obtain ⟨c_b_0, c_b_1, c_b_2, c_b_3, c_b_4, c_b_5⟩ := six r_b
  refine wp_region_wb (by kernel_rfl) (by kernel_rfl) ?_
  repeat (go_big_quiet_step ((go_at_call 17; exact Calls.wb (RG.out _ _ (by first | assumption | decide) (by first | assumption | decide)))))
  refine wpQuiet_nil ?_
  rintro _ ⟨x6, rfl⟩
  go_wp2
  go_ret
  exact ⟨by rw [← SA.out]; rfl, KK.out x6⟩

set_option maxRecDepth 100000 in
set_option maxHeartbeats 6400000 in
theorem rprint_3_1 (d n m imm kind : Int) (w : World) (hr : GrI.right ⟨3, d, n, m, imm, kind⟩) (hi : ¬ imm < 0) (h0 : ¬ imm = 0) : Calls Tryd.prog 11 #[.agg #[.int .i64 3, .int .i64 d, .int .i64 n, .int .i64 m, .int .i64 imm, .int .i64 kind]] w fun e w' => e = .returned (.string (strL (printR ⟨3, d, n, m, imm, kind⟩))) ∧ Below w.heap.size w w' := by
  obtain ⟨b1, b2⟩ := GrI.imm_bd hr
  obtain ⟨dn0, dn1, dn2, dn3, dn4, dn5⟩ := reg_bd hr
  simp only at b1 b2 dn0 dn1 dn2 dn3 dn4 dn5
  have RI := Lib.hid (fun w2 => pright_is ⟨3, d, n, m, imm, kind⟩ w2 true (by simpa [encB] using hr))
  unfold iv at RI
  simp only at RI
  have RG := Lib.hid (fun w2 (n : Int) (h0 : 0 ≤ n) (h1 : n ≤ 31) => rreg_any n w2 (by omega) (by omega))
  have NU := Lib.hid (fun w2 => rnum_any imm w2 b1 b2)
  have NA := Lib.hid (fun w2 => rnames_any 3 (by decide) (by decide) w2)
  obtain ⟨nm, hnm⟩ : ∃ s, s = strL (at! names 3) := ⟨_, rfl⟩
  rw [← hnm] at NA
  have znm : nm.size = 3 := by rw [hnm]; rfl
  obtain ⟨zu, hzu⟩ : ∃ z, z = (strL (num imm)).size := ⟨_, rfl⟩
  have ezu : (strL (num imm)).size = zu := hzu.symm
  have lzu : zu ≤ 65 := by rw [hzu, strL_size]; exact itoa_len64 b1 b2
  clear hzu
  obtain ⟨zd, hzd⟩ : ∃ z, z = (strL (reg d)).size := ⟨_, rfl⟩
  have ezd : (strL (reg d)).size = zd := hzd.symm
  have lzd : zd ≤ 65 := by rw [hzd, strL_size]; exact regK d
  clear hzd
  obtain ⟨zn, hzn⟩ : ∃ z, z = (strL (reg n)).size := ⟨_, rfl⟩
  have ezn : (strL (reg n)).size = zn := hzn.symm
  have lzn : zn ≤ 65 := by rw [hzn, strL_size]; exact regK n
  clear hzn
  obtain ⟨c0, y0z, r0, hc0, s0, l0, n0⟩ := letter (⟨#[35]⟩ : ByteArray) (strL (num imm)) 1 zu 66 rfl ezu (by omega) (by decide)
  obtain ⟨c1, y1z, r1, hc1, s1, l1, n1⟩ := letter (⟨#[46, 43]⟩ : ByteArray) (strL (num imm)) 2 zu 67 rfl ezu (by omega) (by decide)
  obtain ⟨c2, y2z, r2, hc2, s2, l2, n2⟩ := letter nm (⟨#[32]⟩ : ByteArray) 3 1 4 znm rfl (by omega) (by decide)
  obtain ⟨c3, y3z, r3, hc3, s3, l3, n3⟩ := letter c2 (strL (reg d)) y2z zd 69 s2 ezd (by omega) (by decide)
  obtain ⟨c4, y4z, r4, hc4, s4, l4, n4⟩ := letter c3 (⟨#[44, 91]⟩ : ByteArray) y3z 2 71 s3 rfl (by omega) (by decide)
  obtain ⟨c5, y5z, r5, hc5, s5, l5, n5⟩ := letter c4 (strL (reg n)) y4z zn 136 s4 ezn (by omega) (by decide)
  obtain ⟨c6, y6z, r6, hc6, s6, l6, n6⟩ := letter c5 (⟨#[44]⟩ : ByteArray) y5z 1 137 s5 rfl (by omega) (by decide)
  obtain ⟨c7, y7z, r7, hc7, s7, l7, n7⟩ := letter c6 c0 y6z y0z 203 s6 s0 (by omega) (by decide)
  obtain ⟨c8, y8z, r8, hc8, s8, l8, n8⟩ := letter c7 (⟨#[93]⟩ : ByteArray) y7z 1 204 s7 rfl (by omega) (by decide)
  have SA := Lib.hid (show c8 = strL (printR ⟨3, d, n, m, imm, kind⟩) by
    rw [hc8, hc7, hc6, hc5, hc4, hc3, hc2, hc0]
    rw [hnm]
    show strL (at! names 3) ++ strL [32] ++ strL (reg d) ++ strL [44, 91] ++ strL (reg n) ++ strL [44] ++ (strL [35] ++ strL (num imm)) ++ strL [93] = _
    rw [strL_app, strL_app, strL_app, strL_app, strL_app, strL_app, strL_app, strL_app]
    congr 1
    all_goals simp only [printR, Int.reduceEq, or_self, or_true, true_or, or_false, false_or, if_true, if_false, false_and, true_and, and_false, and_true, Int.reduceLE, Int.reduceLT, Int.reduceMod, and_self, reduceIte, h0]
    all_goals simp [at!, toT, cellT, num, h0])
  clear hr hnm hc0 hc1 hc2 hc3 hc4 hc5 hc6 hc7 hc8
  have g1 : (imm == 0) = false := by simpa using h0
  have g2 : (imm != 0) = true := by simpa using h0
  clear h0
  have i1 : decide (imm < 0) = false := by simpa using hi
  clear hi
  go_enter Tryd.func11, Tryd.ntmps11
  go_upto_region 1 with fail
  refine to_cls ?_
  intro U0 hU0 y0
  have r_b : ∀ z : Wb U0, Row z.at (w.heap.size) [.int .i64 3, .int .i64 d, .int .i64 n, .int .i64 m, .int .i64 imm, .int .i64 kind] 23 := Row.next (Row.new _ [.int .i64 3, .int .i64 d, .int .i64 n, .int .i64 m, .int .i64 imm, .int .i64 kind] _) hU0
  have KK := Lib.hid (KB.next (KB.alloc (Below.refl _ _) _) hU0)
  clear hU0
  obtain ⟨c_b_0, c_b_1, c_b_2, c_b_3, c_b_4, c_b_5⟩ := six r_b
  go_wp2_with fail
  refine (RI.out _).mono ?_
  rintro e w1 ⟨rfl, g⟩
  obtain ⟨y1, rfl⟩ := Wb.next (x := y0) g
  clear g
  go_wp2_with fail
  refine (NU.out _).mono ?_
  rintro e w1 ⟨rfl, g⟩
  obtain ⟨y2, rfl⟩ := Wb.next (x := y1) g
  clear g
  go_wp2_with fail
  refine (NU.out _).mono ?_
  rintro e w1 ⟨rfl, g⟩
  obtain ⟨y3, rfl⟩ := Wb.next (x := y2) g
  clear g
  go_wp2_with fail
  refine (NA.out _).mono ?_
  rintro e w1 ⟨rfl, g⟩
  obtain ⟨y4, rfl⟩ := Wb.next (x := y3) g
  clear g
  go_wp2_with fail
  refine to_pt ?_
  intro U5 hU5
  clear c_b_0 c_b_1 c_b_2 c_b_3 c_b_4 c_b_5
  have r_b : ∀ z : Wb U5, Row z.at (w.heap.size) [.int .i64 3, .int .i64 d, .int .i64 n, .int .i64 m, .int .i64 imm, .int .i64 kind] 23 := Row.next (r_b y4) hU5
  have KK := Lib.hid (KB.next (KK.out y4) hU5)
  clear hU5
  obtain ⟨c_b_0, c_b_1, c_b_2, c_b_3, c_b_4, c_b_5⟩ := six r_b
  refine wp_region_wb (by kernel_rfl) (by kernel_rfl) ?_
  repeat (go_big_quiet_step ((go_at_call 17; exact Calls.wb (RG.out _ _ (by first | assumption | decide) (by first | assumption | decide)))))
  refine wpQuiet_nil ?_
  rintro _ ⟨x6, rfl⟩
  go_wp2
  go_ret
  exact ⟨by rw [← SA.out]; rfl, KK.out x6⟩

set_option maxRecDepth 100000 in
set_option maxHeartbeats 6400000 in
theorem rprint_4_0 (d n m imm kind : Int) (w : World) (hr : GrI.right ⟨4, d, n, m, imm, kind⟩) (hi : ¬ imm < 0) (h0 : imm = 0) : Calls Tryd.prog 11 #[.agg #[.int .i64 4, .int .i64 d, .int .i64 n, .int .i64 m, .int .i64 imm, .int .i64 kind]] w fun e w' => e = .returned (.string (strL (printR ⟨4, d, n, m, imm, kind⟩))) ∧ Below w.heap.size w w' := by
  obtain ⟨b1, b2⟩ := GrI.imm_bd hr
  obtain ⟨dn0, dn1, dn2, dn3, dn4, dn5⟩ := reg_bd hr
  simp only at b1 b2 dn0 dn1 dn2 dn3 dn4 dn5
  have RI := Lib.hid (fun w2 => pright_is ⟨4, d, n, m, imm, kind⟩ w2 true (by simpa [encB] using hr))
  unfold iv at RI
  simp only at RI
  have RG := Lib.hid (fun w2 (n : Int) (h0 : 0 ≤ n) (h1 : n ≤ 31) => rreg_any n w2 (by omega) (by omega))
  have NU := Lib.hid (fun w2 => rnum_any imm w2 b1 b2)
  have NA := Lib.hid (fun w2 => rnames_any 4 (by decide) (by decide) w2)
  obtain ⟨nm, hnm⟩ : ∃ s, s = strL (at! names 4) := ⟨_, rfl⟩
  rw [← hnm] at NA
  have znm : nm.size = 4 := by rw [hnm]; rfl
  obtain ⟨zu, hzu⟩ : ∃ z, z = (strL (num imm)).size := ⟨_, rfl⟩
  have ezu : (strL (num imm)).size = zu := hzu.symm
  have lzu : zu ≤ 65 := by rw [hzu, strL_size]; exact itoa_len64 b1 b2
  clear hzu
  obtain ⟨zd, hzd⟩ : ∃ z, z = (strL (reg d)).size := ⟨_, rfl⟩
  have ezd : (strL (reg d)).size = zd := hzd.symm
  have lzd : zd ≤ 65 := by rw [hzd, strL_size]; exact regK d
  clear hzd
  obtain ⟨zn, hzn⟩ : ∃ z, z = (strL (reg n)).size := ⟨_, rfl⟩
  have ezn : (strL (reg n)).size = zn := hzn.symm
  have lzn : zn ≤ 65 := by rw [hzn, strL_size]; exact regK n
  clear hzn
  obtain ⟨c0, y0z, r0, hc0, s0, l0, n0⟩ := letter (⟨#[35]⟩ : ByteArray) (strL (num imm)) 1 zu 66 rfl ezu (by omega) (by decide)
  obtain ⟨c1, y1z, r1, hc1, s1, l1, n1⟩ := letter (⟨#[46, 43]⟩ : ByteArray) (strL (num imm)) 2 zu 67 rfl ezu (by omega) (by decide)
  obtain ⟨c2, y2z, r2, hc2, s2, l2, n2⟩ := letter nm (⟨#[32]⟩ : ByteArray) 4 1 5 znm rfl (by omega) (by decide)
  obtain ⟨c3, y3z, r3, hc3, s3, l3, n3⟩ := letter c2 (strL (reg d)) y2z zd 70 s2 ezd (by omega) (by decide)
  obtain ⟨c4, y4z, r4, hc4, s4, l4, n4⟩ := letter c3 (⟨#[44, 91]⟩ : ByteArray) y3z 2 72 s3 rfl (by omega) (by decide)
  obtain ⟨c5, y5z, r5, hc5, s5, l5, n5⟩ := letter c4 (strL (reg n)) y4z zn 137 s4 ezn (by omega) (by decide)
  obtain ⟨c6, y6z, r6, hc6, s6, l6, n6⟩ := letter c5 (⟨#[93]⟩ : ByteArray) y5z 1 138 s5 rfl (by omega) (by decide)
  have SA := Lib.hid (show c6 = strL (printR ⟨4, d, n, m, imm, kind⟩) by
    rw [hc6, hc5, hc4, hc3, hc2]
    rw [hnm]
    show strL (at! names 4) ++ strL [32] ++ strL (reg d) ++ strL [44, 91] ++ strL (reg n) ++ strL [93] = _
    rw [strL_app, strL_app, strL_app, strL_app, strL_app]
    congr 1
    all_goals simp only [printR, Int.reduceEq, or_self, or_true, true_or, or_false, false_or, if_true, if_false, false_and, true_and, and_false, and_true, Int.reduceLE, Int.reduceLT, Int.reduceMod, and_self, reduceIte, h0]
    all_goals simp [at!, toT, cellT, num, h0])
  clear hr hnm hc0 hc1 hc2 hc3 hc4 hc5 hc6
  have g1 : (imm == 0) = true := by simpa using h0
  have g2 : (imm != 0) = false := by simpa using h0
  clear h0
  have i1 : decide (imm < 0) = false := by simpa using hi
  clear hi
  go_enter Tryd.func11, Tryd.ntmps11
  go_upto_region 1 with fail
  refine to_cls ?_
  intro U0 hU0 y0
  have r_b : ∀ z : Wb U0, Row z.at (w.heap.size) [.int .i64 4, .int .i64 d, .int .i64 n, .int .i64 m, .int .i64 imm, .int .i64 kind] 23 := Row.next (Row.new _ [.int .i64 4, .int .i64 d, .int .i64 n, .int .i64 m, .int .i64 imm, .int .i64 kind] _) hU0
  have KK := Lib.hid (KB.next (KB.alloc (Below.refl _ _) _) hU0)
  clear hU0
  obtain ⟨c_b_0, c_b_1, c_b_2, c_b_3, c_b_4, c_b_5⟩ := six r_b
  go_wp2_with fail
  refine (RI.out _).mono ?_
  rintro e w1 ⟨rfl, g⟩
  obtain ⟨y1, rfl⟩ := Wb.next (x := y0) g
  clear g
  go_wp2_with fail
  refine (NU.out _).mono ?_
  rintro e w1 ⟨rfl, g⟩
  obtain ⟨y2, rfl⟩ := Wb.next (x := y1) g
  clear g
  go_wp2_with fail
  refine (NU.out _).mono ?_
  rintro e w1 ⟨rfl, g⟩
  obtain ⟨y3, rfl⟩ := Wb.next (x := y2) g
  clear g
  go_wp2_with fail
  refine (NA.out _).mono ?_
  rintro e w1 ⟨rfl, g⟩
  obtain ⟨y4, rfl⟩ := Wb.next (x := y3) g
  clear g
  go_wp2_with fail
  refine to_pt ?_
  intro U5 hU5
  clear c_b_0 c_b_1 c_b_2 c_b_3 c_b_4 c_b_5
  have r_b : ∀ z : Wb U5, Row z.at (w.heap.size) [.int .i64 4, .int .i64 d, .int .i64 n, .int .i64 m, .int .i64 imm, .int .i64 kind] 23 := Row.next (r_b y4) hU5
  have KK := Lib.hid (KB.next (KK.out y4) hU5)
  clear hU5
  obtain ⟨c_b_0, c_b_1, c_b_2, c_b_3, c_b_4, c_b_5⟩ := six r_b
  refine wp_region_wb (by kernel_rfl) (by kernel_rfl) ?_
  repeat (go_big_quiet_step ((go_at_call 17; exact Calls.wb (RG.out _ _ (by first | assumption | decide) (by first | assumption | decide)))))
  refine wpQuiet_nil ?_
  rintro _ ⟨x6, rfl⟩
  go_wp2
  go_ret
  exact ⟨by rw [← SA.out]; rfl, KK.out x6⟩

set_option maxRecDepth 100000 in
set_option maxHeartbeats 6400000 in
theorem rprint_4_1 (d n m imm kind : Int) (w : World) (hr : GrI.right ⟨4, d, n, m, imm, kind⟩) (hi : ¬ imm < 0) (h0 : ¬ imm = 0) : Calls Tryd.prog 11 #[.agg #[.int .i64 4, .int .i64 d, .int .i64 n, .int .i64 m, .int .i64 imm, .int .i64 kind]] w fun e w' => e = .returned (.string (strL (printR ⟨4, d, n, m, imm, kind⟩))) ∧ Below w.heap.size w w' := by
  obtain ⟨b1, b2⟩ := GrI.imm_bd hr
  obtain ⟨dn0, dn1, dn2, dn3, dn4, dn5⟩ := reg_bd hr
  simp only at b1 b2 dn0 dn1 dn2 dn3 dn4 dn5
  have RI := Lib.hid (fun w2 => pright_is ⟨4, d, n, m, imm, kind⟩ w2 true (by simpa [encB] using hr))
  unfold iv at RI
  simp only at RI
  have RG := Lib.hid (fun w2 (n : Int) (h0 : 0 ≤ n) (h1 : n ≤ 31) => rreg_any n w2 (by omega) (by omega))
  have NU := Lib.hid (fun w2 => rnum_any imm w2 b1 b2)
  have NA := Lib.hid (fun w2 => rnames_any 4 (by decide) (by decide) w2)
  obtain ⟨nm, hnm⟩ : ∃ s, s = strL (at! names 4) := ⟨_, rfl⟩
  rw [← hnm] at NA
  have znm : nm.size = 4 := by rw [hnm]; rfl
  obtain ⟨zu, hzu⟩ : ∃ z, z = (strL (num imm)).size := ⟨_, rfl⟩
  have ezu : (strL (num imm)).size = zu := hzu.symm
  have lzu : zu ≤ 65 := by rw [hzu, strL_size]; exact itoa_len64 b1 b2
  clear hzu
  obtain ⟨zd, hzd⟩ : ∃ z, z = (strL (reg d)).size := ⟨_, rfl⟩
  have ezd : (strL (reg d)).size = zd := hzd.symm
  have lzd : zd ≤ 65 := by rw [hzd, strL_size]; exact regK d
  clear hzd
  obtain ⟨zn, hzn⟩ : ∃ z, z = (strL (reg n)).size := ⟨_, rfl⟩
  have ezn : (strL (reg n)).size = zn := hzn.symm
  have lzn : zn ≤ 65 := by rw [hzn, strL_size]; exact regK n
  clear hzn
  obtain ⟨c0, y0z, r0, hc0, s0, l0, n0⟩ := letter (⟨#[35]⟩ : ByteArray) (strL (num imm)) 1 zu 66 rfl ezu (by omega) (by decide)
  obtain ⟨c1, y1z, r1, hc1, s1, l1, n1⟩ := letter (⟨#[46, 43]⟩ : ByteArray) (strL (num imm)) 2 zu 67 rfl ezu (by omega) (by decide)
  obtain ⟨c2, y2z, r2, hc2, s2, l2, n2⟩ := letter nm (⟨#[32]⟩ : ByteArray) 4 1 5 znm rfl (by omega) (by decide)
  obtain ⟨c3, y3z, r3, hc3, s3, l3, n3⟩ := letter c2 (strL (reg d)) y2z zd 70 s2 ezd (by omega) (by decide)
  obtain ⟨c4, y4z, r4, hc4, s4, l4, n4⟩ := letter c3 (⟨#[44, 91]⟩ : ByteArray) y3z 2 72 s3 rfl (by omega) (by decide)
  obtain ⟨c5, y5z, r5, hc5, s5, l5, n5⟩ := letter c4 (strL (reg n)) y4z zn 137 s4 ezn (by omega) (by decide)
  obtain ⟨c6, y6z, r6, hc6, s6, l6, n6⟩ := letter c5 (⟨#[44]⟩ : ByteArray) y5z 1 138 s5 rfl (by omega) (by decide)
  obtain ⟨c7, y7z, r7, hc7, s7, l7, n7⟩ := letter c6 c0 y6z y0z 204 s6 s0 (by omega) (by decide)
  obtain ⟨c8, y8z, r8, hc8, s8, l8, n8⟩ := letter c7 (⟨#[93]⟩ : ByteArray) y7z 1 205 s7 rfl (by omega) (by decide)
  have SA := Lib.hid (show c8 = strL (printR ⟨4, d, n, m, imm, kind⟩) by
    rw [hc8, hc7, hc6, hc5, hc4, hc3, hc2, hc0]
    rw [hnm]
    show strL (at! names 4) ++ strL [32] ++ strL (reg d) ++ strL [44, 91] ++ strL (reg n) ++ strL [44] ++ (strL [35] ++ strL (num imm)) ++ strL [93] = _
    rw [strL_app, strL_app, strL_app, strL_app, strL_app, strL_app, strL_app, strL_app]
    congr 1
    all_goals simp only [printR, Int.reduceEq, or_self, or_true, true_or, or_false, false_or, if_true, if_false, false_and, true_and, and_false, and_true, Int.reduceLE, Int.reduceLT, Int.reduceMod, and_self, reduceIte, h0]
    all_goals simp [at!, toT, cellT, num, h0])
  clear hr hnm hc0 hc1 hc2 hc3 hc4 hc5 hc6 hc7 hc8
  have g1 : (imm == 0) = false := by simpa using h0
  have g2 : (imm != 0) = true := by simpa using h0
  clear h0
  have i1 : decide (imm < 0) = false := by simpa using hi
  clear hi
  go_enter Tryd.func11, Tryd.ntmps11
  go_upto_region 1 with fail
  refine to_cls ?_
  intro U0 hU0 y0
  have r_b : ∀ z : Wb U0, Row z.at (w.heap.size) [.int .i64 4, .int .i64 d, .int .i64 n, .int .i64 m, .int .i64 imm, .int .i64 kind] 23 := Row.next (Row.new _ [.int .i64 4, .int .i64 d, .int .i64 n, .int .i64 m, .int .i64 imm, .int .i64 kind] _) hU0
  have KK := Lib.hid (KB.next (KB.alloc (Below.refl _ _) _) hU0)
  clear hU0
  obtain ⟨c_b_0, c_b_1, c_b_2, c_b_3, c_b_4, c_b_5⟩ := six r_b
  go_wp2_with fail
  refine (RI.out _).mono ?_
  rintro e w1 ⟨rfl, g⟩
  obtain ⟨y1, rfl⟩ := Wb.next (x := y0) g
  clear g
  go_wp2_with fail
  refine (NU.out _).mono ?_
  rintro e w1 ⟨rfl, g⟩
  obtain ⟨y2, rfl⟩ := Wb.next (x := y1) g
  clear g
  go_wp2_with fail
  refine (NU.out _).mono ?_
  rintro e w1 ⟨rfl, g⟩
  obtain ⟨y3, rfl⟩ := Wb.next (x := y2) g
  clear g
  go_wp2_with fail
  refine (NA.out _).mono ?_
  rintro e w1 ⟨rfl, g⟩
  obtain ⟨y4, rfl⟩ := Wb.next (x := y3) g
  clear g
  go_wp2_with fail
  refine to_pt ?_
  intro U5 hU5
  clear c_b_0 c_b_1 c_b_2 c_b_3 c_b_4 c_b_5
  have r_b : ∀ z : Wb U5, Row z.at (w.heap.size) [.int .i64 4, .int .i64 d, .int .i64 n, .int .i64 m, .int .i64 imm, .int .i64 kind] 23 := Row.next (r_b y4) hU5
  have KK := Lib.hid (KB.next (KK.out y4) hU5)
  clear hU5
  obtain ⟨c_b_0, c_b_1, c_b_2, c_b_3, c_b_4, c_b_5⟩ := six r_b
  refine wp_region_wb (by kernel_rfl) (by kernel_rfl) ?_
  repeat (go_big_quiet_step ((go_at_call 17; exact Calls.wb (RG.out _ _ (by first | assumption | decide) (by first | assumption | decide)))))
  refine wpQuiet_nil ?_
  rintro _ ⟨x6, rfl⟩
  go_wp2
  go_ret
  exact ⟨by rw [← SA.out]; rfl, KK.out x6⟩

set_option maxRecDepth 100000 in
set_option maxHeartbeats 6400000 in
theorem rprint_5_0 (d n m imm kind : Int) (w : World) (hr : GrI.right ⟨5, d, n, m, imm, kind⟩) (hi : ¬ imm < 0) (h0 : imm = 0) : Calls Tryd.prog 11 #[.agg #[.int .i64 5, .int .i64 d, .int .i64 n, .int .i64 m, .int .i64 imm, .int .i64 kind]] w fun e w' => e = .returned (.string (strL (printR ⟨5, d, n, m, imm, kind⟩))) ∧ Below w.heap.size w w' := by
  obtain ⟨b1, b2⟩ := GrI.imm_bd hr
  obtain ⟨dn0, dn1, dn2, dn3, dn4, dn5⟩ := reg_bd hr
  simp only at b1 b2 dn0 dn1 dn2 dn3 dn4 dn5
  have RI := Lib.hid (fun w2 => pright_is ⟨5, d, n, m, imm, kind⟩ w2 true (by simpa [encB] using hr))
  unfold iv at RI
  simp only at RI
  have RG := Lib.hid (fun w2 (n : Int) (h0 : 0 ≤ n) (h1 : n ≤ 31) => rreg_any n w2 (by omega) (by omega))
  have NU := Lib.hid (fun w2 => rnum_any imm w2 b1 b2)
  have NA := Lib.hid (fun w2 => rnames_any 5 (by decide) (by decide) w2)
  obtain ⟨nm, hnm⟩ : ∃ s, s = strL (at! names 5) := ⟨_, rfl⟩
  rw [← hnm] at NA
  have znm : nm.size = 4 := by rw [hnm]; rfl
  obtain ⟨zu, hzu⟩ : ∃ z, z = (strL (num imm)).size := ⟨_, rfl⟩
  have ezu : (strL (num imm)).size = zu := hzu.symm
  have lzu : zu ≤ 65 := by rw [hzu, strL_size]; exact itoa_len64 b1 b2
  clear hzu
  obtain ⟨zd, hzd⟩ : ∃ z, z = (strL (reg d)).size := ⟨_, rfl⟩
  have ezd : (strL (reg d)).size = zd := hzd.symm
  have lzd : zd ≤ 65 := by rw [hzd, strL_size]; exact regK d
  clear hzd
  obtain ⟨zn, hzn⟩ : ∃ z, z = (strL (reg n)).size := ⟨_, rfl⟩
  have ezn : (strL (reg n)).size = zn := hzn.symm
  have lzn : zn ≤ 65 := by rw [hzn, strL_size]; exact regK n
  clear hzn
  obtain ⟨c0, y0z, r0, hc0, s0, l0, n0⟩ := letter (⟨#[35]⟩ : ByteArray) (strL (num imm)) 1 zu 66 rfl ezu (by omega) (by decide)
  obtain ⟨c1, y1z, r1, hc1, s1, l1, n1⟩ := letter (⟨#[46, 43]⟩ : ByteArray) (strL (num imm)) 2 zu 67 rfl ezu (by omega) (by decide)
  obtain ⟨c2, y2z, r2, hc2, s2, l2, n2⟩ := letter nm (⟨#[32]⟩ : ByteArray) 4 1 5 znm rfl (by omega) (by decide)
  obtain ⟨c3, y3z, r3, hc3, s3, l3, n3⟩ := letter c2 (strL (reg d)) y2z zd 70 s2 ezd (by omega) (by decide)
  obtain ⟨c4, y4z, r4, hc4, s4, l4, n4⟩ := letter c3 (⟨#[44, 91]⟩ : ByteArray) y3z 2 72 s3 rfl (by omega) (by decide)
  obtain ⟨c5, y5z, r5, hc5, s5, l5, n5⟩ := letter c4 (strL (reg n)) y4z zn 137 s4 ezn (by omega) (by decide)
  obtain ⟨c6, y6z, r6, hc6, s6, l6, n6⟩ := letter c5 (⟨#[93]⟩ : ByteArray) y5z 1 138 s5 rfl (by omega) (by decide)
  have SA := Lib.hid (show c6 = strL (printR ⟨5, d, n, m, imm, kind⟩) by
    rw [hc6, hc5, hc4, hc3, hc2]
    rw [hnm]
    show strL (at! names 5) ++ strL [32] ++ strL (reg d) ++ strL [44, 91] ++ strL (reg n) ++ strL [93] = _
    rw [strL_app, strL_app, strL_app, strL_app, strL_app]
    congr 1
    all_goals simp only [printR, Int.reduceEq, or_self, or_true, true_or, or_false, false_or, if_true, if_false, false_and, true_and, and_false, and_true, Int.reduceLE, Int.reduceLT, Int.reduceMod, and_self, reduceIte, h0]
    all_goals simp [at!, toT, cellT, num, h0])
  clear hr hnm hc0 hc1 hc2 hc3 hc4 hc5 hc6
  have g1 : (imm == 0) = true := by simpa using h0
  have g2 : (imm != 0) = false := by simpa using h0
  clear h0
  have i1 : decide (imm < 0) = false := by simpa using hi
  clear hi
  go_enter Tryd.func11, Tryd.ntmps11
  go_upto_region 1 with fail
  refine to_cls ?_
  intro U0 hU0 y0
  have r_b : ∀ z : Wb U0, Row z.at (w.heap.size) [.int .i64 5, .int .i64 d, .int .i64 n, .int .i64 m, .int .i64 imm, .int .i64 kind] 23 := Row.next (Row.new _ [.int .i64 5, .int .i64 d, .int .i64 n, .int .i64 m, .int .i64 imm, .int .i64 kind] _) hU0
  have KK := Lib.hid (KB.next (KB.alloc (Below.refl _ _) _) hU0)
  clear hU0
  obtain ⟨c_b_0, c_b_1, c_b_2, c_b_3, c_b_4, c_b_5⟩ := six r_b
  go_wp2_with fail
  refine (RI.out _).mono ?_
  rintro e w1 ⟨rfl, g⟩
  obtain ⟨y1, rfl⟩ := Wb.next (x := y0) g
  clear g
  go_wp2_with fail
  refine (NU.out _).mono ?_
  rintro e w1 ⟨rfl, g⟩
  obtain ⟨y2, rfl⟩ := Wb.next (x := y1) g
  clear g
  go_wp2_with fail
  refine (NU.out _).mono ?_
  rintro e w1 ⟨rfl, g⟩
  obtain ⟨y3, rfl⟩ := Wb.next (x := y2) g
  clear g
  go_wp2_with fail
  refine (NA.out _).mono ?_
  rintro e w1 ⟨rfl, g⟩
  obtain ⟨y4, rfl⟩ := Wb.next (x := y3) g
  clear g
  go_wp2_with fail
  refine to_pt ?_
  intro U5 hU5
  clear c_b_0 c_b_1 c_b_2 c_b_3 c_b_4 c_b_5
  have r_b : ∀ z : Wb U5, Row z.at (w.heap.size) [.int .i64 5, .int .i64 d, .int .i64 n, .int .i64 m, .int .i64 imm, .int .i64 kind] 23 := Row.next (r_b y4) hU5
  have KK := Lib.hid (KB.next (KK.out y4) hU5)
  clear hU5
  obtain ⟨c_b_0, c_b_1, c_b_2, c_b_3, c_b_4, c_b_5⟩ := six r_b
  refine wp_region_wb (by kernel_rfl) (by kernel_rfl) ?_
  repeat (go_big_quiet_step ((go_at_call 17; exact Calls.wb (RG.out _ _ (by first | assumption | decide) (by first | assumption | decide)))))
  refine wpQuiet_nil ?_
  rintro _ ⟨x6, rfl⟩
  go_wp2
  go_ret
  exact ⟨by rw [← SA.out]; rfl, KK.out x6⟩

set_option maxRecDepth 100000 in
set_option maxHeartbeats 6400000 in
theorem rprint_5_1 (d n m imm kind : Int) (w : World) (hr : GrI.right ⟨5, d, n, m, imm, kind⟩) (hi : ¬ imm < 0) (h0 : ¬ imm = 0) : Calls Tryd.prog 11 #[.agg #[.int .i64 5, .int .i64 d, .int .i64 n, .int .i64 m, .int .i64 imm, .int .i64 kind]] w fun e w' => e = .returned (.string (strL (printR ⟨5, d, n, m, imm, kind⟩))) ∧ Below w.heap.size w w' := by
  obtain ⟨b1, b2⟩ := GrI.imm_bd hr
  obtain ⟨dn0, dn1, dn2, dn3, dn4, dn5⟩ := reg_bd hr
  simp only at b1 b2 dn0 dn1 dn2 dn3 dn4 dn5
  have RI := Lib.hid (fun w2 => pright_is ⟨5, d, n, m, imm, kind⟩ w2 true (by simpa [encB] using hr))
  unfold iv at RI
  simp only at RI
  have RG := Lib.hid (fun w2 (n : Int) (h0 : 0 ≤ n) (h1 : n ≤ 31) => rreg_any n w2 (by omega) (by omega))
  have NU := Lib.hid (fun w2 => rnum_any imm w2 b1 b2)
  have NA := Lib.hid (fun w2 => rnames_any 5 (by decide) (by decide) w2)
  obtain ⟨nm, hnm⟩ : ∃ s, s = strL (at! names 5) := ⟨_, rfl⟩
  rw [← hnm] at NA
  have znm : nm.size = 4 := by rw [hnm]; rfl
  obtain ⟨zu, hzu⟩ : ∃ z, z = (strL (num imm)).size := ⟨_, rfl⟩
  have ezu : (strL (num imm)).size = zu := hzu.symm
  have lzu : zu ≤ 65 := by rw [hzu, strL_size]; exact itoa_len64 b1 b2
  clear hzu
  obtain ⟨zd, hzd⟩ : ∃ z, z = (strL (reg d)).size := ⟨_, rfl⟩
  have ezd : (strL (reg d)).size = zd := hzd.symm
  have lzd : zd ≤ 65 := by rw [hzd, strL_size]; exact regK d
  clear hzd
  obtain ⟨zn, hzn⟩ : ∃ z, z = (strL (reg n)).size := ⟨_, rfl⟩
  have ezn : (strL (reg n)).size = zn := hzn.symm
  have lzn : zn ≤ 65 := by rw [hzn, strL_size]; exact regK n
  clear hzn
  obtain ⟨c0, y0z, r0, hc0, s0, l0, n0⟩ := letter (⟨#[35]⟩ : ByteArray) (strL (num imm)) 1 zu 66 rfl ezu (by omega) (by decide)
  obtain ⟨c1, y1z, r1, hc1, s1, l1, n1⟩ := letter (⟨#[46, 43]⟩ : ByteArray) (strL (num imm)) 2 zu 67 rfl ezu (by omega) (by decide)
  obtain ⟨c2, y2z, r2, hc2, s2, l2, n2⟩ := letter nm (⟨#[32]⟩ : ByteArray) 4 1 5 znm rfl (by omega) (by decide)
  obtain ⟨c3, y3z, r3, hc3, s3, l3, n3⟩ := letter c2 (strL (reg d)) y2z zd 70 s2 ezd (by omega) (by decide)
  obtain ⟨c4, y4z, r4, hc4, s4, l4, n4⟩ := letter c3 (⟨#[44, 91]⟩ : ByteArray) y3z 2 72 s3 rfl (by omega) (by decide)
  obtain ⟨c5, y5z, r5, hc5, s5, l5, n5⟩ := letter c4 (strL (reg n)) y4z zn 137 s4 ezn (by omega) (by decide)
  obtain ⟨c6, y6z, r6, hc6, s6, l6, n6⟩ := letter c5 (⟨#[44]⟩ : ByteArray) y5z 1 138 s5 rfl (by omega) (by decide)
  obtain ⟨c7, y7z, r7, hc7, s7, l7, n7⟩ := letter c6 c0 y6z y0z 204 s6 s0 (by omega) (by decide)
  obtain ⟨c8, y8z, r8, hc8, s8, l8, n8⟩ := letter c7 (⟨#[93]⟩ : ByteArray) y7z 1 205 s7 rfl (by omega) (by decide)
  have SA := Lib.hid (show c8 = strL (printR ⟨5, d, n, m, imm, kind⟩) by
    rw [hc8, hc7, hc6, hc5, hc4, hc3, hc2, hc0]
    rw [hnm]
    show strL (at! names 5) ++ strL [32] ++ strL (reg d) ++ strL [44, 91] ++ strL (reg n) ++ strL [44] ++ (strL [35] ++ strL (num imm)) ++ strL [93] = _
    rw [strL_app, strL_app, strL_app, strL_app, strL_app, strL_app, strL_app, strL_app]
    congr 1
    all_goals simp only [printR, Int.reduceEq, or_self, or_true, true_or, or_false, false_or, if_true, if_false, false_and, true_and, and_false, and_true, Int.reduceLE, Int.reduceLT, Int.reduceMod, and_self, reduceIte, h0]
    all_goals simp [at!, toT, cellT, num, h0])
  clear hr hnm hc0 hc1 hc2 hc3 hc4 hc5 hc6 hc7 hc8
  have g1 : (imm == 0) = false := by simpa using h0
  have g2 : (imm != 0) = true := by simpa using h0
  clear h0
  have i1 : decide (imm < 0) = false := by simpa using hi
  clear hi
  go_enter Tryd.func11, Tryd.ntmps11
  go_upto_region 1 with fail
  refine to_cls ?_
  intro U0 hU0 y0
  have r_b : ∀ z : Wb U0, Row z.at (w.heap.size) [.int .i64 5, .int .i64 d, .int .i64 n, .int .i64 m, .int .i64 imm, .int .i64 kind] 23 := Row.next (Row.new _ [.int .i64 5, .int .i64 d, .int .i64 n, .int .i64 m, .int .i64 imm, .int .i64 kind] _) hU0
  have KK := Lib.hid (KB.next (KB.alloc (Below.refl _ _) _) hU0)
  clear hU0
  obtain ⟨c_b_0, c_b_1, c_b_2, c_b_3, c_b_4, c_b_5⟩ := six r_b
  go_wp2_with fail
  refine (RI.out _).mono ?_
  rintro e w1 ⟨rfl, g⟩
  obtain ⟨y1, rfl⟩ := Wb.next (x := y0) g
  clear g
  go_wp2_with fail
  refine (NU.out _).mono ?_
  rintro e w1 ⟨rfl, g⟩
  obtain ⟨y2, rfl⟩ := Wb.next (x := y1) g
  clear g
  go_wp2_with fail
  refine (NU.out _).mono ?_
  rintro e w1 ⟨rfl, g⟩
  obtain ⟨y3, rfl⟩ := Wb.next (x := y2) g
  clear g
  go_wp2_with fail
  refine (NA.out _).mono ?_
  rintro e w1 ⟨rfl, g⟩
  obtain ⟨y4, rfl⟩ := Wb.next (x := y3) g
  clear g
  go_wp2_with fail
  refine to_pt ?_
  intro U5 hU5
  clear c_b_0 c_b_1 c_b_2 c_b_3 c_b_4 c_b_5
  have r_b : ∀ z : Wb U5, Row z.at (w.heap.size) [.int .i64 5, .int .i64 d, .int .i64 n, .int .i64 m, .int .i64 imm, .int .i64 kind] 23 := Row.next (r_b y4) hU5
  have KK := Lib.hid (KB.next (KK.out y4) hU5)
  clear hU5
  obtain ⟨c_b_0, c_b_1, c_b_2, c_b_3, c_b_4, c_b_5⟩ := six r_b
  refine wp_region_wb (by kernel_rfl) (by kernel_rfl) ?_
  repeat (go_big_quiet_step ((go_at_call 17; exact Calls.wb (RG.out _ _ (by first | assumption | decide) (by first | assumption | decide)))))
  refine wpQuiet_nil ?_
  rintro _ ⟨x6, rfl⟩
  go_wp2
  go_ret
  exact ⟨by rw [← SA.out]; rfl, KK.out x6⟩

set_option maxRecDepth 100000 in
set_option maxHeartbeats 6400000 in
theorem rprint_6_1 (d n m imm kind : Int) (w : World) (hr : GrI.right ⟨6, d, n, m, imm, kind⟩) (hi : ¬ imm < 0) (h0 : 0 < kind) : Calls Tryd.prog 11 #[.agg #[.int .i64 6, .int .i64 d, .int .i64 n, .int .i64 m, .int .i64 imm, .int .i64 kind]] w fun e w' => e = .returned (.string (strL (printR ⟨6, d, n, m, imm, kind⟩))) ∧ Below w.heap.size w w' := by
  obtain ⟨b1, b2⟩ := GrI.imm_bd hr
  obtain ⟨dn0, dn1, dn2, dn3, dn4, dn5⟩ := reg_bd hr
  simp only at b1 b2 dn0 dn1 dn2 dn3 dn4 dn5
  have RI := Lib.hid (fun w2 => pright_is ⟨6, d, n, m, imm, kind⟩ w2 true (by simpa [encB] using hr))
  unfold iv at RI
  simp only at RI
  have RG := Lib.hid (fun w2 (n : Int) (h0 : 0 ≤ n) (h1 : n ≤ 31) => rreg_any n w2 (by omega) (by omega))
  have NU := Lib.hid (fun w2 => rnum_any imm w2 b1 b2)
  have NA := Lib.hid (fun w2 => rnames_none 6 (by decide) w2)
  obtain ⟨nm, hnm⟩ : ∃ s, s = strL [] := ⟨_, rfl⟩
  rw [← hnm] at NA
  have znm : nm.size = 0 := by rw [hnm]; rfl
  obtain ⟨zu, hzu⟩ : ∃ z, z = (strL (num imm)).size := ⟨_, rfl⟩
  have ezu : (strL (num imm)).size = zu := hzu.symm
  have lzu : zu ≤ 65 := by rw [hzu, strL_size]; exact itoa_len64 b1 b2
  clear hzu
  obtain ⟨zd, hzd⟩ : ∃ z, z = (strL (reg d)).size := ⟨_, rfl⟩
  have ezd : (strL (reg d)).size = zd := hzd.symm
  have lzd : zd ≤ 65 := by rw [hzd, strL_size]; exact regK d
  clear hzd
  obtain ⟨c0, y0z, r0, hc0, s0, l0, n0⟩ := letter (⟨#[35]⟩ : ByteArray) (strL (num imm)) 1 zu 66 rfl ezu (by omega) (by decide)
  obtain ⟨c1, y1z, r1, hc1, s1, l1, n1⟩ := letter (⟨#[46, 43]⟩ : ByteArray) (strL (num imm)) 2 zu 67 rfl ezu (by omega) (by decide)
  have kb : 0 < kind ∧ kind ≤ 3 := by
    have := hr
    simp [GrI.right, GrI.parts, GrI.nums] at this
    omega
  obtain ⟨k1, k2⟩ := kb
  have NK := Lib.hid (fun w2 => rnum_any (16 * kind) w2 (by omega) (by omega))
  obtain ⟨zk, hzk⟩ : ∃ z, z = (strL (num (16 * kind))).size := ⟨_, rfl⟩
  have ezk : (strL (num (16 * kind))).size = zk := hzk.symm
  have lzk : zk ≤ 65 := by rw [hzk, strL_size]; exact itoa_len64 (by omega) (by omega)
  clear hzk
  have W1 : IntKind.i64.wrap (16 * kind) = 16 * kind := IntWalk.i64_in _ ⟨by omega, by omega⟩
  obtain ⟨c2, y2z, r2, hc2, s2, l2, n2⟩ := letter (⟨#[77, 79, 86, 90, 32]⟩ : ByteArray) (strL (reg d)) 5 zd 70 rfl ezd (by omega) (by decide)
  obtain ⟨c3, y3z, r3, hc3, s3, l3, n3⟩ := letter c2 (⟨#[44]⟩ : ByteArray) y2z 1 71 s2 rfl (by omega) (by decide)
  obtain ⟨c4, y4z, r4, hc4, s4, l4, n4⟩ := letter c3 c0 y3z y0z 137 s3 s0 (by omega) (by decide)
  obtain ⟨c5, y5z, r5, hc5, s5, l5, n5⟩ := letter c4 (⟨#[44, 76, 83, 76, 32, 35]⟩ : ByteArray) y4z 6 143 s4 rfl (by omega) (by decide)
  obtain ⟨c6, y6z, r6, hc6, s6, l6, n6⟩ := letter c5 (strL (num (16 * kind))) y5z zk 208 s5 ezk (by omega) (by decide)
  have SA := Lib.hid (show c6 = strL (printR ⟨6, d, n, m, imm, kind⟩) by
    rw [hc6, hc5, hc4, hc3, hc2, hc0]
    show strL [77, 79, 86, 90, 32] ++ strL (reg d) ++ strL [44] ++ (strL [35] ++ strL (num imm)) ++ strL [44, 76, 83, 76, 32, 35] ++ strL (num (16 * kind)) = _
    rw [strL_app, strL_app, strL_app, strL_app, strL_app, strL_app]
    congr 1
    all_goals simp only [printR, Int.reduceEq, or_self, or_true, true_or, or_false, false_or, if_true, if_false, false_and, true_and, and_false, and_true, Int.reduceLE, Int.reduceLT, Int.reduceMod, and_self, reduceIte, h0]
    all_goals simp [at!, toT, cellT, num, h0])
  clear hr hnm hc0 hc1 hc2 hc3 hc4 hc5 hc6
  have g1 : decide (0 < kind) = true := by simpa using h0
  have i1 : decide (imm < 0) = false := by simpa using hi
  clear hi
  go_enter Tryd.func11, Tryd.ntmps11
  go_upto_region 1 with fail
  refine to_cls ?_
  intro U0 hU0 y0
  have r_b : ∀ z : Wb U0, Row z.at (w.heap.size) [.int .i64 6, .int .i64 d, .int .i64 n, .int .i64 m, .int .i64 imm, .int .i64 kind] 23 := Row.next (Row.new _ [.int .i64 6, .int .i64 d, .int .i64 n, .int .i64 m, .int .i64 imm, .int .i64 kind] _) hU0
  have KK := Lib.hid (KB.next (KB.alloc (Below.refl _ _) _) hU0)
  clear hU0
  obtain ⟨c_b_0, c_b_1, c_b_2, c_b_3, c_b_4, c_b_5⟩ := six r_b
  go_wp2_with fail
  refine (RI.out _).mono ?_
  rintro e w1 ⟨rfl, g⟩
  obtain ⟨y1, rfl⟩ := Wb.next (x := y0) g
  clear g
  go_wp2_with fail
  refine (NU.out _).mono ?_
  rintro e w1 ⟨rfl, g⟩
  obtain ⟨y2, rfl⟩ := Wb.next (x := y1) g
  clear g
  go_wp2_with fail
  refine (NU.out _).mono ?_
  rintro e w1 ⟨rfl, g⟩
  obtain ⟨y3, rfl⟩ := Wb.next (x := y2) g
  clear g
  go_wp2_with fail
  refine (NA.out _).mono ?_
  rintro e w1 ⟨rfl, g⟩
  obtain ⟨y4, rfl⟩ := Wb.next (x := y3) g
  clear g
  go_wp2_with fail
  refine to_pt ?_
  intro U5 hU5
  clear c_b_0 c_b_1 c_b_2 c_b_3 c_b_4 c_b_5
  have r_b : ∀ z : Wb U5, Row z.at (w.heap.size) [.int .i64 6, .int .i64 d, .int .i64 n, .int .i64 m, .int .i64 imm, .int .i64 kind] 23 := Row.next (r_b y4) hU5
  have KK := Lib.hid (KB.next (KK.out y4) hU5)
  clear hU5
  obtain ⟨c_b_0, c_b_1, c_b_2, c_b_3, c_b_4, c_b_5⟩ := six r_b
  refine wp_region_wb (by kernel_rfl) (by kernel_rfl) ?_
  repeat (go_big_quiet_step ((first | (go_at_call 17; exact Calls.wb (RG.out _ _ (by first | assumption | decide) (by first | assumption | decide))) | (go_at_call 26; exact Calls.wb (NK.out _)))))
  refine wpQuiet_nil ?_
  rintro _ ⟨x6, rfl⟩
  go_wp2
  go_ret
  exact ⟨by rw [← SA.out]; rfl, KK.out x6⟩

set_option maxRecDepth 100000 in
set_option maxHeartbeats 6400000 in
theorem rprint_6_0 (d n m imm kind : Int) (w : World) (hr : GrI.right ⟨6, d, n, m, imm, kind⟩) (hi : ¬ imm < 0) (h0 : ¬ 0 < kind) : Calls Tryd.prog 11 #[.agg #[.int .i64 6, .int .i64 d, .int .i64 n, .int .i64 m, .int .i64 imm, .int .i64 kind]] w fun e w' => e = .returned (.string (strL (printR ⟨6, d, n, m, imm, kind⟩))) ∧ Below w.heap.size w w' := by
  obtain ⟨b1, b2⟩ := GrI.imm_bd hr
  obtain ⟨dn0, dn1, dn2, dn3, dn4, dn5⟩ := reg_bd hr
  simp only at b1 b2 dn0 dn1 dn2 dn3 dn4 dn5
  have RI := Lib.hid (fun w2 => pright_is ⟨6, d, n, m, imm, kind⟩ w2 true (by simpa [encB] using hr))
  unfold iv at RI
  simp only at RI
  have RG := Lib.hid (fun w2 (n : Int) (h0 : 0 ≤ n) (h1 : n ≤ 31) => rreg_any n w2 (by omega) (by omega))
  have NU := Lib.hid (fun w2 => rnum_any imm w2 b1 b2)
  have NA := Lib.hid (fun w2 => rnames_none 6 (by decide) w2)
  obtain ⟨nm, hnm⟩ : ∃ s, s = strL [] := ⟨_, rfl⟩
  rw [← hnm] at NA
  have znm : nm.size = 0 := by rw [hnm]; rfl
  obtain ⟨zu, hzu⟩ : ∃ z, z = (strL (num imm)).size := ⟨_, rfl⟩
  have ezu : (strL (num imm)).size = zu := hzu.symm
  have lzu : zu ≤ 65 := by rw [hzu, strL_size]; exact itoa_len64 b1 b2
  clear hzu
  obtain ⟨zd, hzd⟩ : ∃ z, z = (strL (reg d)).size := ⟨_, rfl⟩
  have ezd : (strL (reg d)).size = zd := hzd.symm
  have lzd : zd ≤ 65 := by rw [hzd, strL_size]; exact regK d
  clear hzd
  obtain ⟨c0, y0z, r0, hc0, s0, l0, n0⟩ := letter (⟨#[35]⟩ : ByteArray) (strL (num imm)) 1 zu 66 rfl ezu (by omega) (by decide)
  obtain ⟨c1, y1z, r1, hc1, s1, l1, n1⟩ := letter (⟨#[46, 43]⟩ : ByteArray) (strL (num imm)) 2 zu 67 rfl ezu (by omega) (by decide)
  obtain ⟨c2, y2z, r2, hc2, s2, l2, n2⟩ := letter (⟨#[77, 79, 86, 32]⟩ : ByteArray) (strL (reg d)) 4 zd 69 rfl ezd (by omega) (by decide)
  obtain ⟨c3, y3z, r3, hc3, s3, l3, n3⟩ := letter c2 (⟨#[44]⟩ : ByteArray) y2z 1 70 s2 rfl (by omega) (by decide)
  obtain ⟨c4, y4z, r4, hc4, s4, l4, n4⟩ := letter c3 c0 y3z y0z 136 s3 s0 (by omega) (by decide)
  have SA := Lib.hid (show c4 = strL (printR ⟨6, d, n, m, imm, kind⟩) by
    rw [hc4, hc3, hc2, hc0]
    show strL [77, 79, 86, 32] ++ strL (reg d) ++ strL [44] ++ (strL [35] ++ strL (num imm)) = _
    rw [strL_app, strL_app, strL_app, strL_app]
    congr 1
    all_goals simp only [printR, Int.reduceEq, or_self, or_true, true_or, or_false, false_or, if_true, if_false, false_and, true_and, and_false, and_true, Int.reduceLE, Int.reduceLT, Int.reduceMod, and_self, reduceIte, h0]
    all_goals simp [at!, toT, cellT, num, h0])
  clear hr hnm hc0 hc1 hc2 hc3 hc4
  have g1 : decide (0 < kind) = false := by simpa using h0
  have i1 : decide (imm < 0) = false := by simpa using hi
  clear hi
  go_enter Tryd.func11, Tryd.ntmps11
  go_upto_region 1 with fail
  refine to_cls ?_
  intro U0 hU0 y0
  have r_b : ∀ z : Wb U0, Row z.at (w.heap.size) [.int .i64 6, .int .i64 d, .int .i64 n, .int .i64 m, .int .i64 imm, .int .i64 kind] 23 := Row.next (Row.new _ [.int .i64 6, .int .i64 d, .int .i64 n, .int .i64 m, .int .i64 imm, .int .i64 kind] _) hU0
  have KK := Lib.hid (KB.next (KB.alloc (Below.refl _ _) _) hU0)
  clear hU0
  obtain ⟨c_b_0, c_b_1, c_b_2, c_b_3, c_b_4, c_b_5⟩ := six r_b
  go_wp2_with fail
  refine (RI.out _).mono ?_
  rintro e w1 ⟨rfl, g⟩
  obtain ⟨y1, rfl⟩ := Wb.next (x := y0) g
  clear g
  go_wp2_with fail
  refine (NU.out _).mono ?_
  rintro e w1 ⟨rfl, g⟩
  obtain ⟨y2, rfl⟩ := Wb.next (x := y1) g
  clear g
  go_wp2_with fail
  refine (NU.out _).mono ?_
  rintro e w1 ⟨rfl, g⟩
  obtain ⟨y3, rfl⟩ := Wb.next (x := y2) g
  clear g
  go_wp2_with fail
  refine (NA.out _).mono ?_
  rintro e w1 ⟨rfl, g⟩
  obtain ⟨y4, rfl⟩ := Wb.next (x := y3) g
  clear g
  go_wp2_with fail
  refine (RG.out _ _ (by first | assumption | decide) (by first | assumption | decide)).mono ?_
  rintro e w1 ⟨rfl, g⟩
  obtain ⟨y5, rfl⟩ := Wb.next (x := y4) g
  clear g
  go_wp2
  go_ret
  exact ⟨by rw [← SA.out]; rfl, KK.out y5⟩

set_option maxRecDepth 100000 in
set_option maxHeartbeats 6400000 in
theorem rprint_7 (d n m imm kind : Int) (w : World) (hr : GrI.right ⟨7, d, n, m, imm, kind⟩) (hi : ¬ imm < 0) : Calls Tryd.prog 11 #[.agg #[.int .i64 7, .int .i64 d, .int .i64 n, .int .i64 m, .int .i64 imm, .int .i64 kind]] w fun e w' => e = .returned (.string (strL (printR ⟨7, d, n, m, imm, kind⟩))) ∧ Below w.heap.size w w' := by
  obtain ⟨b1, b2⟩ := GrI.imm_bd hr
  obtain ⟨dn0, dn1, dn2, dn3, dn4, dn5⟩ := reg_bd hr
  simp only at b1 b2 dn0 dn1 dn2 dn3 dn4 dn5
  have RI := Lib.hid (fun w2 => pright_is ⟨7, d, n, m, imm, kind⟩ w2 true (by simpa [encB] using hr))
  unfold iv at RI
  simp only at RI
  have RG := Lib.hid (fun w2 (n : Int) (h0 : 0 ≤ n) (h1 : n ≤ 31) => rreg_any n w2 (by omega) (by omega))
  have NU := Lib.hid (fun w2 => rnum_any imm w2 b1 b2)
  have NA := Lib.hid (fun w2 => rnames_any 7 (by decide) (by decide) w2)
  obtain ⟨nm, hnm⟩ : ∃ s, s = strL (at! names 7) := ⟨_, rfl⟩
  rw [← hnm] at NA
  have znm : nm.size = 3 := by rw [hnm]; rfl
  obtain ⟨zu, hzu⟩ : ∃ z, z = (strL (num imm)).size := ⟨_, rfl⟩
  have ezu : (strL (num imm)).size = zu := hzu.symm
  have lzu : zu ≤ 65 := by rw [hzu, strL_size]; exact itoa_len64 b1 b2
  clear hzu
  obtain ⟨zd, hzd⟩ : ∃ z, z = (strL (reg d)).size := ⟨_, rfl⟩
  have ezd : (strL (reg d)).size = zd := hzd.symm
  have lzd : zd ≤ 65 := by rw [hzd, strL_size]; exact regK d
  clear hzd
  obtain ⟨zn, hzn⟩ : ∃ z, z = (strL (reg n)).size := ⟨_, rfl⟩
  have ezn : (strL (reg n)).size = zn := hzn.symm
  have lzn : zn ≤ 65 := by rw [hzn, strL_size]; exact regK n
  clear hzn
  obtain ⟨c0, y0z, r0, hc0, s0, l0, n0⟩ := letter (⟨#[35]⟩ : ByteArray) (strL (num imm)) 1 zu 66 rfl ezu (by omega) (by decide)
  obtain ⟨c1, y1z, r1, hc1, s1, l1, n1⟩ := letter (⟨#[46, 43]⟩ : ByteArray) (strL (num imm)) 2 zu 67 rfl ezu (by omega) (by decide)
  obtain ⟨c2, y2z, r2, hc2, s2, l2, n2⟩ := letter nm (⟨#[32]⟩ : ByteArray) 3 1 4 znm rfl (by omega) (by decide)
  obtain ⟨c3, y3z, r3, hc3, s3, l3, n3⟩ := letter c2 (strL (reg d)) y2z zd 69 s2 ezd (by omega) (by decide)
  obtain ⟨c4, y4z, r4, hc4, s4, l4, n4⟩ := letter c3 (⟨#[44]⟩ : ByteArray) y3z 1 70 s3 rfl (by omega) (by decide)
  obtain ⟨c5, y5z, r5, hc5, s5, l5, n5⟩ := letter c4 (strL (reg n)) y4z zn 135 s4 ezn (by omega) (by decide)
  obtain ⟨c6, y6z, r6, hc6, s6, l6, n6⟩ := letter c5 (⟨#[44]⟩ : ByteArray) y5z 1 136 s5 rfl (by omega) (by decide)
  obtain ⟨c7, y7z, r7, hc7, s7, l7, n7⟩ := letter c6 c0 y6z y0z 202 s6 s0 (by omega) (by decide)
  have SA := Lib.hid (show c7 = strL (printR ⟨7, d, n, m, imm, kind⟩) by
    rw [hc7, hc6, hc5, hc4, hc3, hc2, hc0]
    rw [hnm]
    show strL (at! names 7) ++ strL [32] ++ strL (reg d) ++ strL [44] ++ strL (reg n) ++ strL [44] ++ (strL [35] ++ strL (num imm)) = _
    rw [strL_app, strL_app, strL_app, strL_app, strL_app, strL_app, strL_app]
    congr 1
    all_goals simp only [printR, Int.reduceEq, or_self, or_true, true_or, or_false, false_or, if_true, if_false, false_and, true_and, and_false, and_true, Int.reduceLE, Int.reduceLT, Int.reduceMod, and_self, reduceIte]
    all_goals simp [at!, toT, cellT, num])
  clear hr hnm hc0 hc1 hc2 hc3 hc4 hc5 hc6 hc7
  have i1 : decide (imm < 0) = false := by simpa using hi
  clear hi
  go_enter Tryd.func11, Tryd.ntmps11
  go_upto_region 1 with fail
  refine to_cls ?_
  intro U0 hU0 y0
  have r_b : ∀ z : Wb U0, Row z.at (w.heap.size) [.int .i64 7, .int .i64 d, .int .i64 n, .int .i64 m, .int .i64 imm, .int .i64 kind] 23 := Row.next (Row.new _ [.int .i64 7, .int .i64 d, .int .i64 n, .int .i64 m, .int .i64 imm, .int .i64 kind] _) hU0
  have KK := Lib.hid (KB.next (KB.alloc (Below.refl _ _) _) hU0)
  clear hU0
  obtain ⟨c_b_0, c_b_1, c_b_2, c_b_3, c_b_4, c_b_5⟩ := six r_b
  go_wp2_with fail
  refine (RI.out _).mono ?_
  rintro e w1 ⟨rfl, g⟩
  obtain ⟨y1, rfl⟩ := Wb.next (x := y0) g
  clear g
  go_wp2_with fail
  refine (NU.out _).mono ?_
  rintro e w1 ⟨rfl, g⟩
  obtain ⟨y2, rfl⟩ := Wb.next (x := y1) g
  clear g
  go_wp2_with fail
  refine (NU.out _).mono ?_
  rintro e w1 ⟨rfl, g⟩
  obtain ⟨y3, rfl⟩ := Wb.next (x := y2) g
  clear g
  go_wp2_with fail
  refine (NA.out _).mono ?_
  rintro e w1 ⟨rfl, g⟩
  obtain ⟨y4, rfl⟩ := Wb.next (x := y3) g
  clear g
  go_wp2_with fail
  refine to_pt ?_
  intro U5 hU5
  clear c_b_0 c_b_1 c_b_2 c_b_3 c_b_4 c_b_5
  have r_b : ∀ z : Wb U5, Row z.at (w.heap.size) [.int .i64 7, .int .i64 d, .int .i64 n, .int .i64 m, .int .i64 imm, .int .i64 kind] 23 := Row.next (r_b y4) hU5
  have KK := Lib.hid (KB.next (KK.out y4) hU5)
  clear hU5
  obtain ⟨c_b_0, c_b_1, c_b_2, c_b_3, c_b_4, c_b_5⟩ := six r_b
  refine wp_region_wb (by kernel_rfl) (by kernel_rfl) ?_
  repeat (go_big_quiet_step ((go_at_call 17; exact Calls.wb (RG.out _ _ (by first | assumption | decide) (by first | assumption | decide)))))
  refine wpQuiet_nil ?_
  rintro _ ⟨x6, rfl⟩
  go_wp2
  go_ret
  exact ⟨by rw [← SA.out]; rfl, KK.out x6⟩

set_option maxRecDepth 100000 in
set_option maxHeartbeats 6400000 in
theorem rprint_8 (d n m imm kind : Int) (w : World) (hr : GrI.right ⟨8, d, n, m, imm, kind⟩) (hi : ¬ imm < 0) : Calls Tryd.prog 11 #[.agg #[.int .i64 8, .int .i64 d, .int .i64 n, .int .i64 m, .int .i64 imm, .int .i64 kind]] w fun e w' => e = .returned (.string (strL (printR ⟨8, d, n, m, imm, kind⟩))) ∧ Below w.heap.size w w' := by
  obtain ⟨b1, b2⟩ := GrI.imm_bd hr
  obtain ⟨dn0, dn1, dn2, dn3, dn4, dn5⟩ := reg_bd hr
  simp only at b1 b2 dn0 dn1 dn2 dn3 dn4 dn5
  have RI := Lib.hid (fun w2 => pright_is ⟨8, d, n, m, imm, kind⟩ w2 true (by simpa [encB] using hr))
  unfold iv at RI
  simp only at RI
  have RG := Lib.hid (fun w2 (n : Int) (h0 : 0 ≤ n) (h1 : n ≤ 31) => rreg_any n w2 (by omega) (by omega))
  have NU := Lib.hid (fun w2 => rnum_any imm w2 b1 b2)
  have NA := Lib.hid (fun w2 => rnames_any 8 (by decide) (by decide) w2)
  obtain ⟨nm, hnm⟩ : ∃ s, s = strL (at! names 8) := ⟨_, rfl⟩
  rw [← hnm] at NA
  have znm : nm.size = 3 := by rw [hnm]; rfl
  obtain ⟨zu, hzu⟩ : ∃ z, z = (strL (num imm)).size := ⟨_, rfl⟩
  have ezu : (strL (num imm)).size = zu := hzu.symm
  have lzu : zu ≤ 65 := by rw [hzu, strL_size]; exact itoa_len64 b1 b2
  clear hzu
  obtain ⟨zd, hzd⟩ : ∃ z, z = (strL (reg d)).size := ⟨_, rfl⟩
  have ezd : (strL (reg d)).size = zd := hzd.symm
  have lzd : zd ≤ 65 := by rw [hzd, strL_size]; exact regK d
  clear hzd
  obtain ⟨zn, hzn⟩ : ∃ z, z = (strL (reg n)).size := ⟨_, rfl⟩
  have ezn : (strL (reg n)).size = zn := hzn.symm
  have lzn : zn ≤ 65 := by rw [hzn, strL_size]; exact regK n
  clear hzn
  obtain ⟨zm, hzm⟩ : ∃ z, z = (strL (reg m)).size := ⟨_, rfl⟩
  have ezm : (strL (reg m)).size = zm := hzm.symm
  have lzm : zm ≤ 65 := by rw [hzm, strL_size]; exact regK m
  clear hzm
  obtain ⟨c0, y0z, r0, hc0, s0, l0, n0⟩ := letter (⟨#[35]⟩ : ByteArray) (strL (num imm)) 1 zu 66 rfl ezu (by omega) (by decide)
  obtain ⟨c1, y1z, r1, hc1, s1, l1, n1⟩ := letter (⟨#[46, 43]⟩ : ByteArray) (strL (num imm)) 2 zu 67 rfl ezu (by omega) (by decide)
  obtain ⟨c2, y2z, r2, hc2, s2, l2, n2⟩ := letter nm (⟨#[32]⟩ : ByteArray) 3 1 4 znm rfl (by omega) (by decide)
  obtain ⟨c3, y3z, r3, hc3, s3, l3, n3⟩ := letter c2 (strL (reg d)) y2z zd 69 s2 ezd (by omega) (by decide)
  obtain ⟨c4, y4z, r4, hc4, s4, l4, n4⟩ := letter c3 (⟨#[44]⟩ : ByteArray) y3z 1 70 s3 rfl (by omega) (by decide)
  obtain ⟨c5, y5z, r5, hc5, s5, l5, n5⟩ := letter c4 (strL (reg n)) y4z zn 135 s4 ezn (by omega) (by decide)
  obtain ⟨c6, y6z, r6, hc6, s6, l6, n6⟩ := letter c5 (⟨#[44]⟩ : ByteArray) y5z 1 136 s5 rfl (by omega) (by decide)
  obtain ⟨c7, y7z, r7, hc7, s7, l7, n7⟩ := letter c6 (strL (reg m)) y6z zm 201 s6 ezm (by omega) (by decide)
  have SA := Lib.hid (show c7 = strL (printR ⟨8, d, n, m, imm, kind⟩) by
    rw [hc7, hc6, hc5, hc4, hc3, hc2]
    rw [hnm]
    show strL (at! names 8) ++ strL [32] ++ strL (reg d) ++ strL [44] ++ strL (reg n) ++ strL [44] ++ strL (reg m) = _
    rw [strL_app, strL_app, strL_app, strL_app, strL_app, strL_app]
    congr 1
    all_goals simp only [printR, Int.reduceEq, or_self, or_true, true_or, or_false, false_or, if_true, if_false, false_and, true_and, and_false, and_true, Int.reduceLE, Int.reduceLT, Int.reduceMod, and_self, reduceIte]
    all_goals simp [at!, toT, cellT, num])
  clear hr hnm hc0 hc1 hc2 hc3 hc4 hc5 hc6 hc7
  have i1 : decide (imm < 0) = false := by simpa using hi
  clear hi
  go_enter Tryd.func11, Tryd.ntmps11
  go_upto_region 1 with fail
  refine to_cls ?_
  intro U0 hU0 y0
  have r_b : ∀ z : Wb U0, Row z.at (w.heap.size) [.int .i64 8, .int .i64 d, .int .i64 n, .int .i64 m, .int .i64 imm, .int .i64 kind] 23 := Row.next (Row.new _ [.int .i64 8, .int .i64 d, .int .i64 n, .int .i64 m, .int .i64 imm, .int .i64 kind] _) hU0
  have KK := Lib.hid (KB.next (KB.alloc (Below.refl _ _) _) hU0)
  clear hU0
  obtain ⟨c_b_0, c_b_1, c_b_2, c_b_3, c_b_4, c_b_5⟩ := six r_b
  go_wp2_with fail
  refine (RI.out _).mono ?_
  rintro e w1 ⟨rfl, g⟩
  obtain ⟨y1, rfl⟩ := Wb.next (x := y0) g
  clear g
  go_wp2_with fail
  refine (NU.out _).mono ?_
  rintro e w1 ⟨rfl, g⟩
  obtain ⟨y2, rfl⟩ := Wb.next (x := y1) g
  clear g
  go_wp2_with fail
  refine (NU.out _).mono ?_
  rintro e w1 ⟨rfl, g⟩
  obtain ⟨y3, rfl⟩ := Wb.next (x := y2) g
  clear g
  go_wp2_with fail
  refine (NA.out _).mono ?_
  rintro e w1 ⟨rfl, g⟩
  obtain ⟨y4, rfl⟩ := Wb.next (x := y3) g
  clear g
  go_wp2_with fail
  refine to_pt ?_
  intro U5 hU5
  clear c_b_0 c_b_1 c_b_2 c_b_3 c_b_4 c_b_5
  have r_b : ∀ z : Wb U5, Row z.at (w.heap.size) [.int .i64 8, .int .i64 d, .int .i64 n, .int .i64 m, .int .i64 imm, .int .i64 kind] 23 := Row.next (r_b y4) hU5
  have KK := Lib.hid (KB.next (KK.out y4) hU5)
  clear hU5
  obtain ⟨c_b_0, c_b_1, c_b_2, c_b_3, c_b_4, c_b_5⟩ := six r_b
  refine wp_region_wb (by kernel_rfl) (by kernel_rfl) ?_
  repeat (go_big_quiet_step ((go_at_call 17; exact Calls.wb (RG.out _ _ (by first | assumption | decide) (by first | assumption | decide)))))
  refine wpQuiet_nil ?_
  rintro _ ⟨x6, rfl⟩
  go_wp2
  go_ret
  exact ⟨by rw [← SA.out]; rfl, KK.out x6⟩

set_option maxRecDepth 100000 in
set_option maxHeartbeats 6400000 in
theorem rprint_9 (d n m imm kind : Int) (w : World) (hr : GrI.right ⟨9, d, n, m, imm, kind⟩) (hi : ¬ imm < 0) : Calls Tryd.prog 11 #[.agg #[.int .i64 9, .int .i64 d, .int .i64 n, .int .i64 m, .int .i64 imm, .int .i64 kind]] w fun e w' => e = .returned (.string (strL (printR ⟨9, d, n, m, imm, kind⟩))) ∧ Below w.heap.size w w' := by
  obtain ⟨b1, b2⟩ := GrI.imm_bd hr
  obtain ⟨dn0, dn1, dn2, dn3, dn4, dn5⟩ := reg_bd hr
  simp only at b1 b2 dn0 dn1 dn2 dn3 dn4 dn5
  have RI := Lib.hid (fun w2 => pright_is ⟨9, d, n, m, imm, kind⟩ w2 true (by simpa [encB] using hr))
  unfold iv at RI
  simp only at RI
  have RG := Lib.hid (fun w2 (n : Int) (h0 : 0 ≤ n) (h1 : n ≤ 31) => rreg_any n w2 (by omega) (by omega))
  have NU := Lib.hid (fun w2 => rnum_any imm w2 b1 b2)
  have NA := Lib.hid (fun w2 => rnames_any 9 (by decide) (by decide) w2)
  obtain ⟨nm, hnm⟩ : ∃ s, s = strL (at! names 9) := ⟨_, rfl⟩
  rw [← hnm] at NA
  have znm : nm.size = 3 := by rw [hnm]; rfl
  obtain ⟨zu, hzu⟩ : ∃ z, z = (strL (num imm)).size := ⟨_, rfl⟩
  have ezu : (strL (num imm)).size = zu := hzu.symm
  have lzu : zu ≤ 65 := by rw [hzu, strL_size]; exact itoa_len64 b1 b2
  clear hzu
  obtain ⟨zd, hzd⟩ : ∃ z, z = (strL (reg d)).size := ⟨_, rfl⟩
  have ezd : (strL (reg d)).size = zd := hzd.symm
  have lzd : zd ≤ 65 := by rw [hzd, strL_size]; exact regK d
  clear hzd
  obtain ⟨zn, hzn⟩ : ∃ z, z = (strL (reg n)).size := ⟨_, rfl⟩
  have ezn : (strL (reg n)).size = zn := hzn.symm
  have lzn : zn ≤ 65 := by rw [hzn, strL_size]; exact regK n
  clear hzn
  obtain ⟨zm, hzm⟩ : ∃ z, z = (strL (reg m)).size := ⟨_, rfl⟩
  have ezm : (strL (reg m)).size = zm := hzm.symm
  have lzm : zm ≤ 65 := by rw [hzm, strL_size]; exact regK m
  clear hzm
  obtain ⟨c0, y0z, r0, hc0, s0, l0, n0⟩ := letter (⟨#[35]⟩ : ByteArray) (strL (num imm)) 1 zu 66 rfl ezu (by omega) (by decide)
  obtain ⟨c1, y1z, r1, hc1, s1, l1, n1⟩ := letter (⟨#[46, 43]⟩ : ByteArray) (strL (num imm)) 2 zu 67 rfl ezu (by omega) (by decide)
  obtain ⟨c2, y2z, r2, hc2, s2, l2, n2⟩ := letter nm (⟨#[32]⟩ : ByteArray) 3 1 4 znm rfl (by omega) (by decide)
  obtain ⟨c3, y3z, r3, hc3, s3, l3, n3⟩ := letter c2 (strL (reg d)) y2z zd 69 s2 ezd (by omega) (by decide)
  obtain ⟨c4, y4z, r4, hc4, s4, l4, n4⟩ := letter c3 (⟨#[44]⟩ : ByteArray) y3z 1 70 s3 rfl (by omega) (by decide)
  obtain ⟨c5, y5z, r5, hc5, s5, l5, n5⟩ := letter c4 (strL (reg n)) y4z zn 135 s4 ezn (by omega) (by decide)
  obtain ⟨c6, y6z, r6, hc6, s6, l6, n6⟩ := letter c5 (⟨#[44]⟩ : ByteArray) y5z 1 136 s5 rfl (by omega) (by decide)
  obtain ⟨c7, y7z, r7, hc7, s7, l7, n7⟩ := letter c6 (strL (reg m)) y6z zm 201 s6 ezm (by omega) (by decide)
  have SA := Lib.hid (show c7 = strL (printR ⟨9, d, n, m, imm, kind⟩) by
    rw [hc7, hc6, hc5, hc4, hc3, hc2]
    rw [hnm]
    show strL (at! names 9) ++ strL [32] ++ strL (reg d) ++ strL [44] ++ strL (reg n) ++ strL [44] ++ strL (reg m) = _
    rw [strL_app, strL_app, strL_app, strL_app, strL_app, strL_app]
    congr 1
    all_goals simp only [printR, Int.reduceEq, or_self, or_true, true_or, or_false, false_or, if_true, if_false, false_and, true_and, and_false, and_true, Int.reduceLE, Int.reduceLT, Int.reduceMod, and_self, reduceIte]
    all_goals simp [at!, toT, cellT, num])
  clear hr hnm hc0 hc1 hc2 hc3 hc4 hc5 hc6 hc7
  have i1 : decide (imm < 0) = false := by simpa using hi
  clear hi
  go_enter Tryd.func11, Tryd.ntmps11
  go_upto_region 1 with fail
  refine to_cls ?_
  intro U0 hU0 y0
  have r_b : ∀ z : Wb U0, Row z.at (w.heap.size) [.int .i64 9, .int .i64 d, .int .i64 n, .int .i64 m, .int .i64 imm, .int .i64 kind] 23 := Row.next (Row.new _ [.int .i64 9, .int .i64 d, .int .i64 n, .int .i64 m, .int .i64 imm, .int .i64 kind] _) hU0
  have KK := Lib.hid (KB.next (KB.alloc (Below.refl _ _) _) hU0)
  clear hU0
  obtain ⟨c_b_0, c_b_1, c_b_2, c_b_3, c_b_4, c_b_5⟩ := six r_b
  go_wp2_with fail
  refine (RI.out _).mono ?_
  rintro e w1 ⟨rfl, g⟩
  obtain ⟨y1, rfl⟩ := Wb.next (x := y0) g
  clear g
  go_wp2_with fail
  refine (NU.out _).mono ?_
  rintro e w1 ⟨rfl, g⟩
  obtain ⟨y2, rfl⟩ := Wb.next (x := y1) g
  clear g
  go_wp2_with fail
  refine (NU.out _).mono ?_
  rintro e w1 ⟨rfl, g⟩
  obtain ⟨y3, rfl⟩ := Wb.next (x := y2) g
  clear g
  go_wp2_with fail
  refine (NA.out _).mono ?_
  rintro e w1 ⟨rfl, g⟩
  obtain ⟨y4, rfl⟩ := Wb.next (x := y3) g
  clear g
  go_wp2_with fail
  refine to_pt ?_
  intro U5 hU5
  clear c_b_0 c_b_1 c_b_2 c_b_3 c_b_4 c_b_5
  have r_b : ∀ z : Wb U5, Row z.at (w.heap.size) [.int .i64 9, .int .i64 d, .int .i64 n, .int .i64 m, .int .i64 imm, .int .i64 kind] 23 := Row.next (r_b y4) hU5
  have KK := Lib.hid (KB.next (KK.out y4) hU5)
  clear hU5
  obtain ⟨c_b_0, c_b_1, c_b_2, c_b_3, c_b_4, c_b_5⟩ := six r_b
  refine wp_region_wb (by kernel_rfl) (by kernel_rfl) ?_
  repeat (go_big_quiet_step ((go_at_call 17; exact Calls.wb (RG.out _ _ (by first | assumption | decide) (by first | assumption | decide)))))
  refine wpQuiet_nil ?_
  rintro _ ⟨x6, rfl⟩
  go_wp2
  go_ret
  exact ⟨by rw [← SA.out]; rfl, KK.out x6⟩

set_option maxRecDepth 100000 in
set_option maxHeartbeats 6400000 in
theorem rprint_10 (d n m imm kind : Int) (w : World) (hr : GrI.right ⟨10, d, n, m, imm, kind⟩) (hi : ¬ imm < 0) : Calls Tryd.prog 11 #[.agg #[.int .i64 10, .int .i64 d, .int .i64 n, .int .i64 m, .int .i64 imm, .int .i64 kind]] w fun e w' => e = .returned (.string (strL (printR ⟨10, d, n, m, imm, kind⟩))) ∧ Below w.heap.size w w' := by
  obtain ⟨b1, b2⟩ := GrI.imm_bd hr
  obtain ⟨dn0, dn1, dn2, dn3, dn4, dn5⟩ := reg_bd hr
  simp only at b1 b2 dn0 dn1 dn2 dn3 dn4 dn5
  have RI := Lib.hid (fun w2 => pright_is ⟨10, d, n, m, imm, kind⟩ w2 true (by simpa [encB] using hr))
  unfold iv at RI
  simp only at RI
  have RG := Lib.hid (fun w2 (n : Int) (h0 : 0 ≤ n) (h1 : n ≤ 31) => rreg_any n w2 (by omega) (by omega))
  have NU := Lib.hid (fun w2 => rnum_any imm w2 b1 b2)
  have NA := Lib.hid (fun w2 => rnames_any 10 (by decide) (by decide) w2)
  obtain ⟨nm, hnm⟩ : ∃ s, s = strL (at! names 10) := ⟨_, rfl⟩
  rw [← hnm] at NA
  have znm : nm.size = 3 := by rw [hnm]; rfl
  obtain ⟨zu, hzu⟩ : ∃ z, z = (strL (num imm)).size := ⟨_, rfl⟩
  have ezu : (strL (num imm)).size = zu := hzu.symm
  have lzu : zu ≤ 65 := by rw [hzu, strL_size]; exact itoa_len64 b1 b2
  clear hzu
  obtain ⟨zd, hzd⟩ : ∃ z, z = (strL (reg d)).size := ⟨_, rfl⟩
  have ezd : (strL (reg d)).size = zd := hzd.symm
  have lzd : zd ≤ 65 := by rw [hzd, strL_size]; exact regK d
  clear hzd
  obtain ⟨zn, hzn⟩ : ∃ z, z = (strL (reg n)).size := ⟨_, rfl⟩
  have ezn : (strL (reg n)).size = zn := hzn.symm
  have lzn : zn ≤ 65 := by rw [hzn, strL_size]; exact regK n
  clear hzn
  obtain ⟨zm, hzm⟩ : ∃ z, z = (strL (reg m)).size := ⟨_, rfl⟩
  have ezm : (strL (reg m)).size = zm := hzm.symm
  have lzm : zm ≤ 65 := by rw [hzm, strL_size]; exact regK m
  clear hzm
  obtain ⟨c0, y0z, r0, hc0, s0, l0, n0⟩ := letter (⟨#[35]⟩ : ByteArray) (strL (num imm)) 1 zu 66 rfl ezu (by omega) (by decide)
  obtain ⟨c1, y1z, r1, hc1, s1, l1, n1⟩ := letter (⟨#[46, 43]⟩ : ByteArray) (strL (num imm)) 2 zu 67 rfl ezu (by omega) (by decide)
  obtain ⟨c2, y2z, r2, hc2, s2, l2, n2⟩ := letter nm (⟨#[32]⟩ : ByteArray) 3 1 4 znm rfl (by omega) (by decide)
  obtain ⟨c3, y3z, r3, hc3, s3, l3, n3⟩ := letter c2 (strL (reg d)) y2z zd 69 s2 ezd (by omega) (by decide)
  obtain ⟨c4, y4z, r4, hc4, s4, l4, n4⟩ := letter c3 (⟨#[44]⟩ : ByteArray) y3z 1 70 s3 rfl (by omega) (by decide)
  obtain ⟨c5, y5z, r5, hc5, s5, l5, n5⟩ := letter c4 (strL (reg n)) y4z zn 135 s4 ezn (by omega) (by decide)
  obtain ⟨c6, y6z, r6, hc6, s6, l6, n6⟩ := letter c5 (⟨#[44]⟩ : ByteArray) y5z 1 136 s5 rfl (by omega) (by decide)
  obtain ⟨c7, y7z, r7, hc7, s7, l7, n7⟩ := letter c6 (strL (reg m)) y6z zm 201 s6 ezm (by omega) (by decide)
  have SA := Lib.hid (show c7 = strL (printR ⟨10, d, n, m, imm, kind⟩) by
    rw [hc7, hc6, hc5, hc4, hc3, hc2]
    rw [hnm]
    show strL (at! names 10) ++ strL [32] ++ strL (reg d) ++ strL [44] ++ strL (reg n) ++ strL [44] ++ strL (reg m) = _
    rw [strL_app, strL_app, strL_app, strL_app, strL_app, strL_app]
    congr 1
    all_goals simp only [printR, Int.reduceEq, or_self, or_true, true_or, or_false, false_or, if_true, if_false, false_and, true_and, and_false, and_true, Int.reduceLE, Int.reduceLT, Int.reduceMod, and_self, reduceIte]
    all_goals simp [at!, toT, cellT, num])
  clear hr hnm hc0 hc1 hc2 hc3 hc4 hc5 hc6 hc7
  have i1 : decide (imm < 0) = false := by simpa using hi
  clear hi
  go_enter Tryd.func11, Tryd.ntmps11
  go_upto_region 1 with fail
  refine to_cls ?_
  intro U0 hU0 y0
  have r_b : ∀ z : Wb U0, Row z.at (w.heap.size) [.int .i64 10, .int .i64 d, .int .i64 n, .int .i64 m, .int .i64 imm, .int .i64 kind] 23 := Row.next (Row.new _ [.int .i64 10, .int .i64 d, .int .i64 n, .int .i64 m, .int .i64 imm, .int .i64 kind] _) hU0
  have KK := Lib.hid (KB.next (KB.alloc (Below.refl _ _) _) hU0)
  clear hU0
  obtain ⟨c_b_0, c_b_1, c_b_2, c_b_3, c_b_4, c_b_5⟩ := six r_b
  go_wp2_with fail
  refine (RI.out _).mono ?_
  rintro e w1 ⟨rfl, g⟩
  obtain ⟨y1, rfl⟩ := Wb.next (x := y0) g
  clear g
  go_wp2_with fail
  refine (NU.out _).mono ?_
  rintro e w1 ⟨rfl, g⟩
  obtain ⟨y2, rfl⟩ := Wb.next (x := y1) g
  clear g
  go_wp2_with fail
  refine (NU.out _).mono ?_
  rintro e w1 ⟨rfl, g⟩
  obtain ⟨y3, rfl⟩ := Wb.next (x := y2) g
  clear g
  go_wp2_with fail
  refine (NA.out _).mono ?_
  rintro e w1 ⟨rfl, g⟩
  obtain ⟨y4, rfl⟩ := Wb.next (x := y3) g
  clear g
  go_wp2_with fail
  refine to_pt ?_
  intro U5 hU5
  clear c_b_0 c_b_1 c_b_2 c_b_3 c_b_4 c_b_5
  have r_b : ∀ z : Wb U5, Row z.at (w.heap.size) [.int .i64 10, .int .i64 d, .int .i64 n, .int .i64 m, .int .i64 imm, .int .i64 kind] 23 := Row.next (r_b y4) hU5
  have KK := Lib.hid (KB.next (KK.out y4) hU5)
  clear hU5
  obtain ⟨c_b_0, c_b_1, c_b_2, c_b_3, c_b_4, c_b_5⟩ := six r_b
  refine wp_region_wb (by kernel_rfl) (by kernel_rfl) ?_
  repeat (go_big_quiet_step ((go_at_call 17; exact Calls.wb (RG.out _ _ (by first | assumption | decide) (by first | assumption | decide)))))
  refine wpQuiet_nil ?_
  rintro _ ⟨x6, rfl⟩
  go_wp2
  go_ret
  exact ⟨by rw [← SA.out]; rfl, KK.out x6⟩

set_option maxRecDepth 100000 in
set_option maxHeartbeats 6400000 in
theorem rprint_11 (d n m imm kind : Int) (w : World) (hr : GrI.right ⟨11, d, n, m, imm, kind⟩) (hi : ¬ imm < 0) : Calls Tryd.prog 11 #[.agg #[.int .i64 11, .int .i64 d, .int .i64 n, .int .i64 m, .int .i64 imm, .int .i64 kind]] w fun e w' => e = .returned (.string (strL (printR ⟨11, d, n, m, imm, kind⟩))) ∧ Below w.heap.size w w' := by
  obtain ⟨b1, b2⟩ := GrI.imm_bd hr
  obtain ⟨dn0, dn1, dn2, dn3, dn4, dn5⟩ := reg_bd hr
  simp only at b1 b2 dn0 dn1 dn2 dn3 dn4 dn5
  have RI := Lib.hid (fun w2 => pright_is ⟨11, d, n, m, imm, kind⟩ w2 true (by simpa [encB] using hr))
  unfold iv at RI
  simp only at RI
  have RG := Lib.hid (fun w2 (n : Int) (h0 : 0 ≤ n) (h1 : n ≤ 31) => rreg_any n w2 (by omega) (by omega))
  have NU := Lib.hid (fun w2 => rnum_any imm w2 b1 b2)
  have NA := Lib.hid (fun w2 => rnames_any 11 (by decide) (by decide) w2)
  obtain ⟨nm, hnm⟩ : ∃ s, s = strL (at! names 11) := ⟨_, rfl⟩
  rw [← hnm] at NA
  have znm : nm.size = 3 := by rw [hnm]; rfl
  obtain ⟨zu, hzu⟩ : ∃ z, z = (strL (num imm)).size := ⟨_, rfl⟩
  have ezu : (strL (num imm)).size = zu := hzu.symm
  have lzu : zu ≤ 65 := by rw [hzu, strL_size]; exact itoa_len64 b1 b2
  clear hzu
  obtain ⟨zd, hzd⟩ : ∃ z, z = (strL (reg d)).size := ⟨_, rfl⟩
  have ezd : (strL (reg d)).size = zd := hzd.symm
  have lzd : zd ≤ 65 := by rw [hzd, strL_size]; exact regK d
  clear hzd
  obtain ⟨zn, hzn⟩ : ∃ z, z = (strL (reg n)).size := ⟨_, rfl⟩
  have ezn : (strL (reg n)).size = zn := hzn.symm
  have lzn : zn ≤ 65 := by rw [hzn, strL_size]; exact regK n
  clear hzn
  obtain ⟨zm, hzm⟩ : ∃ z, z = (strL (reg m)).size := ⟨_, rfl⟩
  have ezm : (strL (reg m)).size = zm := hzm.symm
  have lzm : zm ≤ 65 := by rw [hzm, strL_size]; exact regK m
  clear hzm
  obtain ⟨c0, y0z, r0, hc0, s0, l0, n0⟩ := letter (⟨#[35]⟩ : ByteArray) (strL (num imm)) 1 zu 66 rfl ezu (by omega) (by decide)
  obtain ⟨c1, y1z, r1, hc1, s1, l1, n1⟩ := letter (⟨#[46, 43]⟩ : ByteArray) (strL (num imm)) 2 zu 67 rfl ezu (by omega) (by decide)
  obtain ⟨c2, y2z, r2, hc2, s2, l2, n2⟩ := letter nm (⟨#[32]⟩ : ByteArray) 3 1 4 znm rfl (by omega) (by decide)
  obtain ⟨c3, y3z, r3, hc3, s3, l3, n3⟩ := letter c2 (strL (reg d)) y2z zd 69 s2 ezd (by omega) (by decide)
  obtain ⟨c4, y4z, r4, hc4, s4, l4, n4⟩ := letter c3 (⟨#[44]⟩ : ByteArray) y3z 1 70 s3 rfl (by omega) (by decide)
  obtain ⟨c5, y5z, r5, hc5, s5, l5, n5⟩ := letter c4 (strL (reg n)) y4z zn 135 s4 ezn (by omega) (by decide)
  obtain ⟨c6, y6z, r6, hc6, s6, l6, n6⟩ := letter c5 (⟨#[44]⟩ : ByteArray) y5z 1 136 s5 rfl (by omega) (by decide)
  obtain ⟨c7, y7z, r7, hc7, s7, l7, n7⟩ := letter c6 (strL (reg m)) y6z zm 201 s6 ezm (by omega) (by decide)
  have SA := Lib.hid (show c7 = strL (printR ⟨11, d, n, m, imm, kind⟩) by
    rw [hc7, hc6, hc5, hc4, hc3, hc2]
    rw [hnm]
    show strL (at! names 11) ++ strL [32] ++ strL (reg d) ++ strL [44] ++ strL (reg n) ++ strL [44] ++ strL (reg m) = _
    rw [strL_app, strL_app, strL_app, strL_app, strL_app, strL_app]
    congr 1
    all_goals simp only [printR, Int.reduceEq, or_self, or_true, true_or, or_false, false_or, if_true, if_false, false_and, true_and, and_false, and_true, Int.reduceLE, Int.reduceLT, Int.reduceMod, and_self, reduceIte]
    all_goals simp [at!, toT, cellT, num])
  clear hr hnm hc0 hc1 hc2 hc3 hc4 hc5 hc6 hc7
  have i1 : decide (imm < 0) = false := by simpa using hi
  clear hi
  go_enter Tryd.func11, Tryd.ntmps11
  go_upto_region 1 with fail
  refine to_cls ?_
  intro U0 hU0 y0
  have r_b : ∀ z : Wb U0, Row z.at (w.heap.size) [.int .i64 11, .int .i64 d, .int .i64 n, .int .i64 m, .int .i64 imm, .int .i64 kind] 23 := Row.next (Row.new _ [.int .i64 11, .int .i64 d, .int .i64 n, .int .i64 m, .int .i64 imm, .int .i64 kind] _) hU0
  have KK := Lib.hid (KB.next (KB.alloc (Below.refl _ _) _) hU0)
  clear hU0
  obtain ⟨c_b_0, c_b_1, c_b_2, c_b_3, c_b_4, c_b_5⟩ := six r_b
  go_wp2_with fail
  refine (RI.out _).mono ?_
  rintro e w1 ⟨rfl, g⟩
  obtain ⟨y1, rfl⟩ := Wb.next (x := y0) g
  clear g
  go_wp2_with fail
  refine (NU.out _).mono ?_
  rintro e w1 ⟨rfl, g⟩
  obtain ⟨y2, rfl⟩ := Wb.next (x := y1) g
  clear g
  go_wp2_with fail
  refine (NU.out _).mono ?_
  rintro e w1 ⟨rfl, g⟩
  obtain ⟨y3, rfl⟩ := Wb.next (x := y2) g
  clear g
  go_wp2_with fail
  refine (NA.out _).mono ?_
  rintro e w1 ⟨rfl, g⟩
  obtain ⟨y4, rfl⟩ := Wb.next (x := y3) g
  clear g
  go_wp2_with fail
  refine to_pt ?_
  intro U5 hU5
  clear c_b_0 c_b_1 c_b_2 c_b_3 c_b_4 c_b_5
  have r_b : ∀ z : Wb U5, Row z.at (w.heap.size) [.int .i64 11, .int .i64 d, .int .i64 n, .int .i64 m, .int .i64 imm, .int .i64 kind] 23 := Row.next (r_b y4) hU5
  have KK := Lib.hid (KB.next (KK.out y4) hU5)
  clear hU5
  obtain ⟨c_b_0, c_b_1, c_b_2, c_b_3, c_b_4, c_b_5⟩ := six r_b
  refine wp_region_wb (by kernel_rfl) (by kernel_rfl) ?_
  repeat (go_big_quiet_step ((go_at_call 17; exact Calls.wb (RG.out _ _ (by first | assumption | decide) (by first | assumption | decide)))))
  refine wpQuiet_nil ?_
  rintro _ ⟨x6, rfl⟩
  go_wp2
  go_ret
  exact ⟨by rw [← SA.out]; rfl, KK.out x6⟩

set_option maxRecDepth 100000 in
set_option maxHeartbeats 6400000 in
theorem rprint_12 (d n m imm kind : Int) (w : World) (hr : GrI.right ⟨12, d, n, m, imm, kind⟩) (hi : ¬ imm < 0) : Calls Tryd.prog 11 #[.agg #[.int .i64 12, .int .i64 d, .int .i64 n, .int .i64 m, .int .i64 imm, .int .i64 kind]] w fun e w' => e = .returned (.string (strL (printR ⟨12, d, n, m, imm, kind⟩))) ∧ Below w.heap.size w w' := by
  obtain ⟨b1, b2⟩ := GrI.imm_bd hr
  obtain ⟨dn0, dn1, dn2, dn3, dn4, dn5⟩ := reg_bd hr
  simp only at b1 b2 dn0 dn1 dn2 dn3 dn4 dn5
  have RI := Lib.hid (fun w2 => pright_is ⟨12, d, n, m, imm, kind⟩ w2 true (by simpa [encB] using hr))
  unfold iv at RI
  simp only at RI
  have RG := Lib.hid (fun w2 (n : Int) (h0 : 0 ≤ n) (h1 : n ≤ 31) => rreg_any n w2 (by omega) (by omega))
  have NU := Lib.hid (fun w2 => rnum_any imm w2 b1 b2)
  have NA := Lib.hid (fun w2 => rnames_any 12 (by decide) (by decide) w2)
  obtain ⟨nm, hnm⟩ : ∃ s, s = strL (at! names 12) := ⟨_, rfl⟩
  rw [← hnm] at NA
  have znm : nm.size = 3 := by rw [hnm]; rfl
  obtain ⟨zu, hzu⟩ : ∃ z, z = (strL (num imm)).size := ⟨_, rfl⟩
  have ezu : (strL (num imm)).size = zu := hzu.symm
  have lzu : zu ≤ 65 := by rw [hzu, strL_size]; exact itoa_len64 b1 b2
  clear hzu
  obtain ⟨zd, hzd⟩ : ∃ z, z = (strL (reg d)).size := ⟨_, rfl⟩
  have ezd : (strL (reg d)).size = zd := hzd.symm
  have lzd : zd ≤ 65 := by rw [hzd, strL_size]; exact regK d
  clear hzd
  obtain ⟨zn, hzn⟩ : ∃ z, z = (strL (reg n)).size := ⟨_, rfl⟩
  have ezn : (strL (reg n)).size = zn := hzn.symm
  have lzn : zn ≤ 65 := by rw [hzn, strL_size]; exact regK n
  clear hzn
  obtain ⟨zm, hzm⟩ : ∃ z, z = (strL (reg m)).size := ⟨_, rfl⟩
  have ezm : (strL (reg m)).size = zm := hzm.symm
  have lzm : zm ≤ 65 := by rw [hzm, strL_size]; exact regK m
  clear hzm
  obtain ⟨c0, y0z, r0, hc0, s0, l0, n0⟩ := letter (⟨#[35]⟩ : ByteArray) (strL (num imm)) 1 zu 66 rfl ezu (by omega) (by decide)
  obtain ⟨c1, y1z, r1, hc1, s1, l1, n1⟩ := letter (⟨#[46, 43]⟩ : ByteArray) (strL (num imm)) 2 zu 67 rfl ezu (by omega) (by decide)
  obtain ⟨c2, y2z, r2, hc2, s2, l2, n2⟩ := letter nm (⟨#[32]⟩ : ByteArray) 3 1 4 znm rfl (by omega) (by decide)
  obtain ⟨c3, y3z, r3, hc3, s3, l3, n3⟩ := letter c2 (strL (reg d)) y2z zd 69 s2 ezd (by omega) (by decide)
  obtain ⟨c4, y4z, r4, hc4, s4, l4, n4⟩ := letter c3 (⟨#[44]⟩ : ByteArray) y3z 1 70 s3 rfl (by omega) (by decide)
  obtain ⟨c5, y5z, r5, hc5, s5, l5, n5⟩ := letter c4 (strL (reg n)) y4z zn 135 s4 ezn (by omega) (by decide)
  obtain ⟨c6, y6z, r6, hc6, s6, l6, n6⟩ := letter c5 (⟨#[44]⟩ : ByteArray) y5z 1 136 s5 rfl (by omega) (by decide)
  obtain ⟨c7, y7z, r7, hc7, s7, l7, n7⟩ := letter c6 (strL (reg m)) y6z zm 201 s6 ezm (by omega) (by decide)
  have SA := Lib.hid (show c7 = strL (printR ⟨12, d, n, m, imm, kind⟩) by
    rw [hc7, hc6, hc5, hc4, hc3, hc2]
    rw [hnm]
    show strL (at! names 12) ++ strL [32] ++ strL (reg d) ++ strL [44] ++ strL (reg n) ++ strL [44] ++ strL (reg m) = _
    rw [strL_app, strL_app, strL_app, strL_app, strL_app, strL_app]
    congr 1
    all_goals simp only [printR, Int.reduceEq, or_self, or_true, true_or, or_false, false_or, if_true, if_false, false_and, true_and, and_false, and_true, Int.reduceLE, Int.reduceLT, Int.reduceMod, and_self, reduceIte]
    all_goals simp [at!, toT, cellT, num])
  clear hr hnm hc0 hc1 hc2 hc3 hc4 hc5 hc6 hc7
  have i1 : decide (imm < 0) = false := by simpa using hi
  clear hi
  go_enter Tryd.func11, Tryd.ntmps11
  go_upto_region 1 with fail
  refine to_cls ?_
  intro U0 hU0 y0
  have r_b : ∀ z : Wb U0, Row z.at (w.heap.size) [.int .i64 12, .int .i64 d, .int .i64 n, .int .i64 m, .int .i64 imm, .int .i64 kind] 23 := Row.next (Row.new _ [.int .i64 12, .int .i64 d, .int .i64 n, .int .i64 m, .int .i64 imm, .int .i64 kind] _) hU0
  have KK := Lib.hid (KB.next (KB.alloc (Below.refl _ _) _) hU0)
  clear hU0
  obtain ⟨c_b_0, c_b_1, c_b_2, c_b_3, c_b_4, c_b_5⟩ := six r_b
  go_wp2_with fail
  refine (RI.out _).mono ?_
  rintro e w1 ⟨rfl, g⟩
  obtain ⟨y1, rfl⟩ := Wb.next (x := y0) g
  clear g
  go_wp2_with fail
  refine (NU.out _).mono ?_
  rintro e w1 ⟨rfl, g⟩
  obtain ⟨y2, rfl⟩ := Wb.next (x := y1) g
  clear g
  go_wp2_with fail
  refine (NU.out _).mono ?_
  rintro e w1 ⟨rfl, g⟩
  obtain ⟨y3, rfl⟩ := Wb.next (x := y2) g
  clear g
  go_wp2_with fail
  refine (NA.out _).mono ?_
  rintro e w1 ⟨rfl, g⟩
  obtain ⟨y4, rfl⟩ := Wb.next (x := y3) g
  clear g
  go_wp2_with fail
  refine to_pt ?_
  intro U5 hU5
  clear c_b_0 c_b_1 c_b_2 c_b_3 c_b_4 c_b_5
  have r_b : ∀ z : Wb U5, Row z.at (w.heap.size) [.int .i64 12, .int .i64 d, .int .i64 n, .int .i64 m, .int .i64 imm, .int .i64 kind] 23 := Row.next (r_b y4) hU5
  have KK := Lib.hid (KB.next (KK.out y4) hU5)
  clear hU5
  obtain ⟨c_b_0, c_b_1, c_b_2, c_b_3, c_b_4, c_b_5⟩ := six r_b
  refine wp_region_wb (by kernel_rfl) (by kernel_rfl) ?_
  repeat (go_big_quiet_step ((go_at_call 17; exact Calls.wb (RG.out _ _ (by first | assumption | decide) (by first | assumption | decide)))))
  refine wpQuiet_nil ?_
  rintro _ ⟨x6, rfl⟩
  go_wp2
  go_ret
  exact ⟨by rw [← SA.out]; rfl, KK.out x6⟩

set_option maxRecDepth 100000 in
set_option maxHeartbeats 6400000 in
theorem rprint_13_n (d n m imm kind : Int) (w : World) (hr : GrI.right ⟨13, d, n, m, imm, kind⟩) (hi : ¬ imm < 0) (h31 : ¬ d = 31) : Calls Tryd.prog 11 #[.agg #[.int .i64 13, .int .i64 d, .int .i64 n, .int .i64 m, .int .i64 imm, .int .i64 kind]] w fun e w' => e = .returned (.string (strL (printR ⟨13, d, n, m, imm, kind⟩))) ∧ Below w.heap.size w w' := by
  obtain ⟨b1, b2⟩ := GrI.imm_bd hr
  obtain ⟨dn0, dn1, dn2, dn3, dn4, dn5⟩ := reg_bd hr
  simp only at b1 b2 dn0 dn1 dn2 dn3 dn4 dn5
  have RI := Lib.hid (fun w2 => pright_is ⟨13, d, n, m, imm, kind⟩ w2 true (by simpa [encB] using hr))
  unfold iv at RI
  simp only at RI
  have RG := Lib.hid (fun w2 (n : Int) (h0 : 0 ≤ n) (h1 : n ≤ 31) => rreg_any n w2 (by omega) (by omega))
  have NU := Lib.hid (fun w2 => rnum_any imm w2 b1 b2)
  have NA := Lib.hid (fun w2 => rnames_any 13 (by decide) (by decide) w2)
  obtain ⟨nm, hnm⟩ : ∃ s, s = strL (at! names 13) := ⟨_, rfl⟩
  rw [← hnm] at NA
  have znm : nm.size = 4 := by rw [hnm]; rfl
  obtain ⟨zu, hzu⟩ : ∃ z, z = (strL (num imm)).size := ⟨_, rfl⟩
  have ezu : (strL (num imm)).size = zu := hzu.symm
  have lzu : zu ≤ 65 := by rw [hzu, strL_size]; exact itoa_len64 b1 b2
  clear hzu
  obtain ⟨zd, hzd⟩ : ∃ z, z = (strL (reg d)).size := ⟨_, rfl⟩
  have ezd : (strL (reg d)).size = zd := hzd.symm
  have lzd : zd ≤ 65 := by rw [hzd, strL_size]; exact regK d
  clear hzd
  obtain ⟨zn, hzn⟩ : ∃ z, z = (strL (reg n)).size := ⟨_, rfl⟩
  have ezn : (strL (reg n)).size = zn := hzn.symm
  have lzn : zn ≤ 65 := by rw [hzn, strL_size]; exact regK n
  clear hzn
  obtain ⟨zm, hzm⟩ : ∃ z, z = (strL (reg m)).size := ⟨_, rfl⟩
  have ezm : (strL (reg m)).size = zm := hzm.symm
  have lzm : zm ≤ 65 := by rw [hzm, strL_size]; exact regK m
  clear hzm
  obtain ⟨c0, y0z, r0, hc0, s0, l0, n0⟩ := letter (⟨#[35]⟩ : ByteArray) (strL (num imm)) 1 zu 66 rfl ezu (by omega) (by decide)
  obtain ⟨c1, y1z, r1, hc1, s1, l1, n1⟩ := letter (⟨#[46, 43]⟩ : ByteArray) (strL (num imm)) 2 zu 67 rfl ezu (by omega) (by decide)
  obtain ⟨c2, y2z, r2, hc2, s2, l2, n2⟩ := letter nm (⟨#[32]⟩ : ByteArray) 4 1 5 znm rfl (by omega) (by decide)
  obtain ⟨c3, y3z, r3, hc3, s3, l3, n3⟩ := letter c2 (strL (reg d)) y2z zd 70 s2 ezd (by omega) (by decide)
  obtain ⟨c4, y4z, r4, hc4, s4, l4, n4⟩ := letter c3 (⟨#[44]⟩ : ByteArray) y3z 1 71 s3 rfl (by omega) (by decide)
  obtain ⟨c5, y5z, r5, hc5, s5, l5, n5⟩ := letter c4 (strL (reg n)) y4z zn 136 s4 ezn (by omega) (by decide)
  obtain ⟨c6, y6z, r6, hc6, s6, l6, n6⟩ := letter c5 (⟨#[44]⟩ : ByteArray) y5z 1 137 s5 rfl (by omega) (by decide)
  obtain ⟨c7, y7z, r7, hc7, s7, l7, n7⟩ := letter c6 (strL (reg m)) y6z zm 202 s6 ezm (by omega) (by decide)
  have SA := Lib.hid (show c7 = strL (printR ⟨13, d, n, m, imm, kind⟩) by
    rw [hc7, hc6, hc5, hc4, hc3, hc2]
    rw [hnm]
    show strL (at! names 13) ++ strL [32] ++ strL (reg d) ++ strL [44] ++ strL (reg n) ++ strL [44] ++ strL (reg m) = _
    rw [strL_app, strL_app, strL_app, strL_app, strL_app, strL_app]
    congr 1
    all_goals simp only [printR, Int.reduceEq, or_self, or_true, true_or, or_false, false_or, if_true, if_false, false_and, true_and, and_false, and_true, Int.reduceLE, Int.reduceLT, Int.reduceMod, and_self, reduceIte, h31]
    all_goals simp [at!, toT, cellT, num, h31])
  clear hr hnm hc0 hc1 hc2 hc3 hc4 hc5 hc6 hc7
  have g1 : (d == 31) = false := by simpa using h31
  have i1 : decide (imm < 0) = false := by simpa using hi
  clear hi
  go_enter Tryd.func11, Tryd.ntmps11
  go_upto_region 1 with fail
  refine to_cls ?_
  intro U0 hU0 y0
  have r_b : ∀ z : Wb U0, Row z.at (w.heap.size) [.int .i64 13, .int .i64 d, .int .i64 n, .int .i64 m, .int .i64 imm, .int .i64 kind] 23 := Row.next (Row.new _ [.int .i64 13, .int .i64 d, .int .i64 n, .int .i64 m, .int .i64 imm, .int .i64 kind] _) hU0
  have KK := Lib.hid (KB.next (KB.alloc (Below.refl _ _) _) hU0)
  clear hU0
  obtain ⟨c_b_0, c_b_1, c_b_2, c_b_3, c_b_4, c_b_5⟩ := six r_b
  go_wp2_with fail
  refine (RI.out _).mono ?_
  rintro e w1 ⟨rfl, g⟩
  obtain ⟨y1, rfl⟩ := Wb.next (x := y0) g
  clear g
  go_wp2_with fail
  refine (NU.out _).mono ?_
  rintro e w1 ⟨rfl, g⟩
  obtain ⟨y2, rfl⟩ := Wb.next (x := y1) g
  clear g
  go_wp2_with fail
  refine (NU.out _).mono ?_
  rintro e w1 ⟨rfl, g⟩
  obtain ⟨y3, rfl⟩ := Wb.next (x := y2) g
  clear g
  go_wp2_with fail
  refine (NA.out _).mono ?_
  rintro e w1 ⟨rfl, g⟩
  obtain ⟨y4, rfl⟩ := Wb.next (x := y3) g
  clear g
  go_wp2_with fail
  refine to_pt ?_
  intro U5 hU5
  clear c_b_0 c_b_1 c_b_2 c_b_3 c_b_4 c_b_5
  have r_b : ∀ z : Wb U5, Row z.at (w.heap.size) [.int .i64 13, .int .i64 d, .int .i64 n, .int .i64 m, .int .i64 imm, .int .i64 kind] 23 := Row.next (r_b y4) hU5
  have KK := Lib.hid (KB.next (KK.out y4) hU5)
  clear hU5
  obtain ⟨c_b_0, c_b_1, c_b_2, c_b_3, c_b_4, c_b_5⟩ := six r_b
  refine wp_region_wb (by kernel_rfl) (by kernel_rfl) ?_
  repeat (go_big_quiet_step ((go_at_call 17; exact Calls.wb (RG.out _ _ (by first | assumption | decide) (by first | assumption | decide)))))
  refine wpQuiet_nil ?_
  rintro _ ⟨x6, rfl⟩
  go_wp2
  go_ret
  exact ⟨by rw [← SA.out]; rfl, KK.out x6⟩

set_option maxRecDepth 100000 in
set_option maxHeartbeats 6400000 in
theorem rprint_13_c (n m imm kind : Int) (w : World) (hr : GrI.right ⟨13, 31, n, m, imm, kind⟩) (hi : ¬ imm < 0) : Calls Tryd.prog 11 #[.agg #[.int .i64 13, .int .i64 31, .int .i64 n, .int .i64 m, .int .i64 imm, .int .i64 kind]] w fun e w' => e = .returned (.string (strL (printR ⟨13, 31, n, m, imm, kind⟩))) ∧ Below w.heap.size w w' := by
  obtain ⟨b1, b2⟩ := GrI.imm_bd hr
  obtain ⟨dn0, dn1, dn2, dn3, dn4, dn5⟩ := reg_bd hr
  simp only at b1 b2 dn2 dn3 dn4 dn5
  have RI := Lib.hid (fun w2 => pright_is ⟨13, 31, n, m, imm, kind⟩ w2 true (by simpa [encB] using hr))
  unfold iv at RI
  simp only at RI
  have RG := Lib.hid (fun w2 (n : Int) (h0 : 0 ≤ n) (h1 : n ≤ 31) => rreg_any n w2 (by omega) (by omega))
  have NU := Lib.hid (fun w2 => rnum_any imm w2 b1 b2)
  have NA := Lib.hid (fun w2 => rnames_any 13 (by decide) (by decide) w2)
  obtain ⟨nm, hnm⟩ : ∃ s, s = strL (at! names 13) := ⟨_, rfl⟩
  rw [← hnm] at NA
  have znm : nm.size = 4 := by rw [hnm]; rfl
  obtain ⟨zu, hzu⟩ : ∃ z, z = (strL (num imm)).size := ⟨_, rfl⟩
  have ezu : (strL (num imm)).size = zu := hzu.symm
  have lzu : zu ≤ 65 := by rw [hzu, strL_size]; exact itoa_len64 b1 b2
  clear hzu
  obtain ⟨zn, hzn⟩ : ∃ z, z = (strL (reg n)).size := ⟨_, rfl⟩
  have ezn : (strL (reg n)).size = zn := hzn.symm
  have lzn : zn ≤ 65 := by rw [hzn, strL_size]; exact regK n
  clear hzn
  obtain ⟨zm, hzm⟩ : ∃ z, z = (strL (reg m)).size := ⟨_, rfl⟩
  have ezm : (strL (reg m)).size = zm := hzm.symm
  have lzm : zm ≤ 65 := by rw [hzm, strL_size]; exact regK m
  clear hzm
  obtain ⟨c0, y0z, r0, hc0, s0, l0, n0⟩ := letter (⟨#[35]⟩ : ByteArray) (strL (num imm)) 1 zu 66 rfl ezu (by omega) (by decide)
  obtain ⟨c1, y1z, r1, hc1, s1, l1, n1⟩ := letter (⟨#[46, 43]⟩ : ByteArray) (strL (num imm)) 2 zu 67 rfl ezu (by omega) (by decide)
  obtain ⟨c2, y2z, r2, hc2, s2, l2, n2⟩ := letter (⟨#[67, 77, 80, 32]⟩ : ByteArray) (strL (reg n)) 4 zn 69 rfl ezn (by omega) (by decide)
  obtain ⟨c3, y3z, r3, hc3, s3, l3, n3⟩ := letter c2 (⟨#[44]⟩ : ByteArray) y2z 1 70 s2 rfl (by omega) (by decide)
  obtain ⟨c4, y4z, r4, hc4, s4, l4, n4⟩ := letter c3 (strL (reg m)) y3z zm 135 s3 ezm (by omega) (by decide)
  have SA := Lib.hid (show c4 = strL (printR ⟨13, 31, n, m, imm, kind⟩) by
    rw [hc4, hc3, hc2]
    show strL [67, 77, 80, 32] ++ strL (reg n) ++ strL [44] ++ strL (reg m) = _
    rw [strL_app, strL_app, strL_app]
    congr 1
    all_goals simp only [printR, Int.reduceEq, or_self, or_true, true_or, or_false, false_or, if_true, if_false, false_and, true_and, and_false, and_true, Int.reduceLE, Int.reduceLT, Int.reduceMod, and_self, reduceIte]
    all_goals simp [at!, toT, cellT, num])
  clear hr hnm hc0 hc1 hc2 hc3 hc4
  have i1 : decide (imm < 0) = false := by simpa using hi
  clear hi
  go_enter Tryd.func11, Tryd.ntmps11
  go_upto_region 1 with fail
  refine to_cls ?_
  intro U0 hU0 y0
  have r_b : ∀ z : Wb U0, Row z.at (w.heap.size) [.int .i64 13, .int .i64 31, .int .i64 n, .int .i64 m, .int .i64 imm, .int .i64 kind] 23 := Row.next (Row.new _ [.int .i64 13, .int .i64 31, .int .i64 n, .int .i64 m, .int .i64 imm, .int .i64 kind] _) hU0
  have KK := Lib.hid (KB.next (KB.alloc (Below.refl _ _) _) hU0)
  clear hU0
  obtain ⟨c_b_0, c_b_1, c_b_2, c_b_3, c_b_4, c_b_5⟩ := six r_b
  go_wp2_with fail
  refine (RI.out _).mono ?_
  rintro e w1 ⟨rfl, g⟩
  obtain ⟨y1, rfl⟩ := Wb.next (x := y0) g
  clear g
  go_wp2_with fail
  refine (NU.out _).mono ?_
  rintro e w1 ⟨rfl, g⟩
  obtain ⟨y2, rfl⟩ := Wb.next (x := y1) g
  clear g
  go_wp2_with fail
  refine (NU.out _).mono ?_
  rintro e w1 ⟨rfl, g⟩
  obtain ⟨y3, rfl⟩ := Wb.next (x := y2) g
  clear g
  go_wp2_with fail
  refine (NA.out _).mono ?_
  rintro e w1 ⟨rfl, g⟩
  obtain ⟨y4, rfl⟩ := Wb.next (x := y3) g
  clear g
  go_wp2_with fail
  refine to_pt ?_
  intro U5 hU5
  clear c_b_0 c_b_1 c_b_2 c_b_3 c_b_4 c_b_5
  have r_b : ∀ z : Wb U5, Row z.at (w.heap.size) [.int .i64 13, .int .i64 31, .int .i64 n, .int .i64 m, .int .i64 imm, .int .i64 kind] 23 := Row.next (r_b y4) hU5
  have KK := Lib.hid (KB.next (KK.out y4) hU5)
  clear hU5
  obtain ⟨c_b_0, c_b_1, c_b_2, c_b_3, c_b_4, c_b_5⟩ := six r_b
  refine wp_region_wb (by kernel_rfl) (by kernel_rfl) ?_
  repeat (go_big_quiet_step ((go_at_call 17; exact Calls.wb (RG.out _ _ (by first | assumption | decide) (by first | assumption | decide)))))
  refine wpQuiet_nil ?_
  rintro _ ⟨x6, rfl⟩
  go_wp2
  go_ret
  exact ⟨by rw [← SA.out]; rfl, KK.out x6⟩

set_option maxRecDepth 100000 in
set_option maxHeartbeats 6400000 in
theorem rprint_14_p (d n m imm kind : Int) (w : World) (hr : GrI.right ⟨14, d, n, m, imm, kind⟩) (hi : ¬ imm < 0) : Calls Tryd.prog 11 #[.agg #[.int .i64 14, .int .i64 d, .int .i64 n, .int .i64 m, .int .i64 imm, .int .i64 kind]] w fun e w' => e = .returned (.string (strL (printR ⟨14, d, n, m, imm, kind⟩))) ∧ Below w.heap.size w w' := by
  obtain ⟨b1, b2⟩ := GrI.imm_bd hr
  obtain ⟨dn0, dn1, dn2, dn3, dn4, dn5⟩ := reg_bd hr
  simp only at b1 b2 dn0 dn1 dn2 dn3 dn4 dn5
  have RI := Lib.hid (fun w2 => pright_is ⟨14, d, n, m, imm, kind⟩ w2 true (by simpa [encB] using hr))
  unfold iv at RI
  simp only at RI
  have RG := Lib.hid (fun w2 (n : Int) (h0 : 0 ≤ n) (h1 : n ≤ 31) => rreg_any n w2 (by omega) (by omega))
  have NU := Lib.hid (fun w2 => rnum_any imm w2 b1 b2)
  have NA := Lib.hid (fun w2 => rnames_any 14 (by decide) (by decide) w2)
  obtain ⟨nm, hnm⟩ : ∃ s, s = strL (at! names 14) := ⟨_, rfl⟩
  rw [← hnm] at NA
  have znm : nm.size = 1 := by rw [hnm]; rfl
  obtain ⟨zu, hzu⟩ : ∃ z, z = (strL (num imm)).size := ⟨_, rfl⟩
  have ezu : (strL (num imm)).size = zu := hzu.symm
  have lzu : zu ≤ 65 := by rw [hzu, strL_size]; exact itoa_len64 b1 b2
  clear hzu
  obtain ⟨c0, y0z, r0, hc0, s0, l0, n0⟩ := letter (⟨#[35]⟩ : ByteArray) (strL (num imm)) 1 zu 66 rfl ezu (by omega) (by decide)
  obtain ⟨c1, y1z, r1, hc1, s1, l1, n1⟩ := letter (⟨#[46, 43]⟩ : ByteArray) (strL (num imm)) 2 zu 67 rfl ezu (by omega) (by decide)
  obtain ⟨c2, y2z, r2, hc2, s2, l2, n2⟩ := letter nm (⟨#[32]⟩ : ByteArray) 1 1 2 znm rfl (by omega) (by decide)
  obtain ⟨c3, y3z, r3, hc3, s3, l3, n3⟩ := letter c2 c1 y2z y1z 69 s2 s1 (by omega) (by decide)
  have SA := Lib.hid (show c3 = strL (printR ⟨14, d, n, m, imm, kind⟩) by
    rw [hc3, hc2, hc1]
    rw [hnm]
    show strL (at! names 14) ++ strL [32] ++ (strL [46, 43] ++ strL (num imm)) = _
    rw [strL_app, strL_app, strL_app]
    congr 1
    all_goals simp only [printR, Int.reduceEq, or_self, or_true, true_or, or_false, false_or, if_true, if_false, false_and, true_and, and_false, and_true, Int.reduceLE, Int.reduceLT, Int.reduceMod, and_self, reduceIte, hi]
    all_goals simp [at!, toT, cellT, num, hi])
  clear hr hnm hc0 hc1 hc2 hc3
  have i1 : decide (imm < 0) = false := by simpa using hi
  clear hi
  go_enter Tryd.func11, Tryd.ntmps11
  go_upto_region 1 with fail
  refine to_cls ?_
  intro U0 hU0 y0
  have r_b : ∀ z : Wb U0, Row z.at (w.heap.size) [.int .i64 14, .int .i64 d, .int .i64 n, .int .i64 m, .int .i64 imm, .int .i64 kind] 23 := Row.next (Row.new _ [.int .i64 14, .int .i64 d, .int .i64 n, .int .i64 m, .int .i64 imm, .int .i64 kind] _) hU0
  have KK := Lib.hid (KB.next (KB.alloc (Below.refl _ _) _) hU0)
  clear hU0
  obtain ⟨c_b_0, c_b_1, c_b_2, c_b_3, c_b_4, c_b_5⟩ := six r_b
  go_wp2_with fail
  refine (RI.out _).mono ?_
  rintro e w1 ⟨rfl, g⟩
  obtain ⟨y1, rfl⟩ := Wb.next (x := y0) g
  clear g
  go_wp2_with fail
  refine (NU.out _).mono ?_
  rintro e w1 ⟨rfl, g⟩
  obtain ⟨y2, rfl⟩ := Wb.next (x := y1) g
  clear g
  go_wp2_with fail
  refine (NU.out _).mono ?_
  rintro e w1 ⟨rfl, g⟩
  obtain ⟨y3, rfl⟩ := Wb.next (x := y2) g
  clear g
  go_wp2_with fail
  refine (NA.out _).mono ?_
  rintro e w1 ⟨rfl, g⟩
  obtain ⟨y4, rfl⟩ := Wb.next (x := y3) g
  clear g
  go_wp2
  go_ret
  exact ⟨by rw [← SA.out]; rfl, KK.out y4⟩

set_option maxRecDepth 100000 in
set_option maxHeartbeats 6400000 in
theorem rprint_14_n (d n m imm kind : Int) (w : World) (hr : GrI.right ⟨14, d, n, m, imm, kind⟩) (hi : imm < 0) : Calls Tryd.prog 11 #[.agg #[.int .i64 14, .int .i64 d, .int .i64 n, .int .i64 m, .int .i64 imm, .int .i64 kind]] w fun e w' => e = .returned (.string (strL (printR ⟨14, d, n, m, imm, kind⟩))) ∧ Below w.heap.size w w' := by
  obtain ⟨b1, b2⟩ := GrI.imm_bd hr
  obtain ⟨dn0, dn1, dn2, dn3, dn4, dn5⟩ := reg_bd hr
  simp only at b1 b2 dn0 dn1 dn2 dn3 dn4 dn5
  have RI := Lib.hid (fun w2 => pright_is ⟨14, d, n, m, imm, kind⟩ w2 true (by simpa [encB] using hr))
  unfold iv at RI
  simp only at RI
  have RG := Lib.hid (fun w2 (n : Int) (h0 : 0 ≤ n) (h1 : n ≤ 31) => rreg_any n w2 (by omega) (by omega))
  have NU := Lib.hid (fun w2 => rnum_any imm w2 b1 b2)
  have NA := Lib.hid (fun w2 => rnames_any 14 (by decide) (by decide) w2)
  obtain ⟨nm, hnm⟩ : ∃ s, s = strL (at! names 14) := ⟨_, rfl⟩
  rw [← hnm] at NA
  have znm : nm.size = 1 := by rw [hnm]; rfl
  obtain ⟨zu, hzu⟩ : ∃ z, z = (strL (num imm)).size := ⟨_, rfl⟩
  have ezu : (strL (num imm)).size = zu := hzu.symm
  have lzu : zu ≤ 65 := by rw [hzu, strL_size]; exact itoa_len64 b1 b2
  clear hzu
  obtain ⟨c0, y0z, r0, hc0, s0, l0, n0⟩ := letter (⟨#[35]⟩ : ByteArray) (strL (num imm)) 1 zu 66 rfl ezu (by omega) (by decide)
  obtain ⟨c1, y1z, r1, hc1, s1, l1, n1⟩ := letter (⟨#[46, 43]⟩ : ByteArray) (strL (num imm)) 2 zu 67 rfl ezu (by omega) (by decide)
  obtain ⟨c2, y2z, r2, hc2, s2, l2, n2⟩ := letter (⟨#[46]⟩ : ByteArray) (strL (num imm)) 1 zu 66 rfl ezu (by omega) (by decide)
  obtain ⟨c3, y3z, r3, hc3, s3, l3, n3⟩ := letter nm (⟨#[32]⟩ : ByteArray) 1 1 2 znm rfl (by omega) (by decide)
  obtain ⟨c4, y4z, r4, hc4, s4, l4, n4⟩ := letter c3 c2 y3z y2z 68 s3 s2 (by omega) (by decide)
  have SA := Lib.hid (show c4 = strL (printR ⟨14, d, n, m, imm, kind⟩) by
    rw [hc4, hc3, hc2]
    rw [hnm]
    show strL (at! names 14) ++ strL [32] ++ (strL [46] ++ strL (num imm)) = _
    rw [strL_app, strL_app, strL_app]
    congr 1
    all_goals simp only [printR, Int.reduceEq, or_self, or_true, true_or, or_false, false_or, if_true, if_false, false_and, true_and, and_false, and_true, Int.reduceLE, Int.reduceLT, Int.reduceMod, and_self, reduceIte, hi]
    all_goals simp [at!, toT, cellT, num, hi])
  clear hr hnm hc0 hc1 hc2 hc3 hc4
  have i1 : decide (imm < 0) = true := by simpa using hi
  clear hi
  go_enter Tryd.func11, Tryd.ntmps11
  go_upto_region 1 with fail
  refine to_cls ?_
  intro U0 hU0 y0
  have r_b : ∀ z : Wb U0, Row z.at (w.heap.size) [.int .i64 14, .int .i64 d, .int .i64 n, .int .i64 m, .int .i64 imm, .int .i64 kind] 23 := Row.next (Row.new _ [.int .i64 14, .int .i64 d, .int .i64 n, .int .i64 m, .int .i64 imm, .int .i64 kind] _) hU0
  have KK := Lib.hid (KB.next (KB.alloc (Below.refl _ _) _) hU0)
  clear hU0
  obtain ⟨c_b_0, c_b_1, c_b_2, c_b_3, c_b_4, c_b_5⟩ := six r_b
  go_wp2_with fail
  refine (RI.out _).mono ?_
  rintro e w1 ⟨rfl, g⟩
  obtain ⟨y1, rfl⟩ := Wb.next (x := y0) g
  clear g
  go_wp2_with fail
  refine (NU.out _).mono ?_
  rintro e w1 ⟨rfl, g⟩
  obtain ⟨y2, rfl⟩ := Wb.next (x := y1) g
  clear g
  go_wp2_with fail
  refine (NU.out _).mono ?_
  rintro e w1 ⟨rfl, g⟩
  obtain ⟨y3, rfl⟩ := Wb.next (x := y2) g
  clear g
  go_wp2_with fail
  refine (NU.out _).mono ?_
  rintro e w1 ⟨rfl, g⟩
  obtain ⟨y4, rfl⟩ := Wb.next (x := y3) g
  clear g
  go_wp2_with fail
  refine (NA.out _).mono ?_
  rintro e w1 ⟨rfl, g⟩
  obtain ⟨y5, rfl⟩ := Wb.next (x := y4) g
  clear g
  go_wp2
  go_ret
  exact ⟨by rw [← SA.out]; rfl, KK.out y5⟩

end Go.Proofs.YtebpmngllljkaaaDoor
