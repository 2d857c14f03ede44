/-
  Layer 4, the laws: the page's Print: 
-/
import Derived.Test.YtebpmngllljkaaaDoorYa
set_option linter.unusedSimpArgs false
set_option linter.unusedVariables false
namespace Go.Proofs.YtebpmngllljkaaaDoor
open Go.RowKit GrP GrA

set_option maxRecDepth 100000 in
set_option maxHeartbeats 6400000 in
theorem rprint_20 (d n m imm kind : Int) (w : World) (hr : GrI.right ⟨20, d, n, m, imm, kind⟩) (hi : ¬ imm < 0) : Calls Tryd.prog 11 #[.agg #[.int .i64 20, .int .i64 d, .int .i64 n, .int .i64 m, .int .i64 imm, .int .i64 kind]] w fun e w' => e = .returned (.string (strL (printR ⟨20, d, n, m, imm, kind⟩))) ∧ Below w.heap.size w w' := by
  obtain ⟨b1, b2⟩ := GrI.imm_bd hr
  obtain ⟨dn0, dn1, dn2, dn3, dn4, dn5⟩ := reg_bd hr
  simp only at b1 b2 dn0 dn1 dn2 dn3 dn4 dn5
  have RI := Lib.hid (fun w2 => pright_is ⟨20, d, n, m, imm, kind⟩ w2 true (by simpa [encB] using hr))
  unfold iv at RI
  simp only at RI
  have RG := Lib.hid (fun w2 (n : Int) (h0 : 0 ≤ n) (h1 : n ≤ 31) => rreg_any n w2 (by omega) (by omega))
  have NU := Lib.hid (fun w2 => rnum_any imm w2 b1 b2)
  have NA := Lib.hid (fun w2 => rnames_any 20 (by decide) (by decide) w2)
  obtain ⟨nm, hnm⟩ : ∃ s, s = strL (at! names 20) := ⟨_, rfl⟩
  rw [← hnm] at NA
  have znm : nm.size = 3 := by rw [hnm]; rfl
  obtain ⟨zu, hzu⟩ : ∃ z, z = (strL (num imm)).size := ⟨_, rfl⟩
  have ezu : (strL (num imm)).size = zu := hzu.symm
  have lzu : zu ≤ 65 := by rw [hzu, strL_size]; exact itoa_len64 b1 b2
  clear hzu
  obtain ⟨c0, y0z, r0, hc0, s0, l0, n0⟩ := letter (⟨#[35]⟩ : ByteArray) (strL (num imm)) 1 zu 66 rfl ezu (by omega) (by decide)
  obtain ⟨c1, y1z, r1, hc1, s1, l1, n1⟩ := letter (⟨#[46, 43]⟩ : ByteArray) (strL (num imm)) 2 zu 67 rfl ezu (by omega) (by decide)
  have SA := Lib.hid (show nm = strL (printR ⟨20, d, n, m, imm, kind⟩) by
    rw [hnm]
    show strL (at! names 20) = _
    congr 1
    all_goals simp only [printR, Int.reduceEq, or_self, or_true, true_or, or_false, false_or, if_true, if_false, false_and, true_and, and_false, and_true, Int.reduceLE, Int.reduceLT, Int.reduceMod, and_self, reduceIte]
    all_goals simp [at!, toT, cellT, num])
  clear hr hnm hc0 hc1
  have i1 : decide (imm < 0) = false := by simpa using hi
  clear hi
  go_enter Tryd.func11, Tryd.ntmps11
  go_upto_region 1 with fail
  refine to_cls ?_
  intro U0 hU0 y0
  have r_b : ∀ z : Wb U0, Row z.at (w.heap.size) [.int .i64 20, .int .i64 d, .int .i64 n, .int .i64 m, .int .i64 imm, .int .i64 kind] 23 := Row.next (Row.new _ [.int .i64 20, .int .i64 d, .int .i64 n, .int .i64 m, .int .i64 imm, .int .i64 kind] _) hU0
  have KK := Lib.hid (KB.next (KB.alloc (Below.refl _ _) _) hU0)
  clear hU0
  obtain ⟨c_b_0, c_b_1, c_b_2, c_b_3, c_b_4, c_b_5⟩ := six r_b
  go_wp2_with fail
  refine (RI.out _).mono ?_
  rintro e w1 ⟨rfl, g⟩
  obtain ⟨y1, rfl⟩ := Wb.next (x := y0) g
  clear g
  go_wp2_with fail
  refine (NU.out _).mono ?_
  rintro e w1 ⟨rfl, g⟩
  obtain ⟨y2, rfl⟩ := Wb.next (x := y1) g
  clear g
  go_wp2_with fail
  refine (NU.out _).mono ?_
  rintro e w1 ⟨rfl, g⟩
  obtain ⟨y3, rfl⟩ := Wb.next (x := y2) g
  clear g
  go_wp2_with fail
  refine (NA.out _).mono ?_
  rintro e w1 ⟨rfl, g⟩
  obtain ⟨y4, rfl⟩ := Wb.next (x := y3) g
  clear g
  go_wp2
  go_ret
  exact ⟨by rw [← SA.out]; rfl, KK.out y4⟩

set_option maxRecDepth 100000 in
set_option maxHeartbeats 6400000 in
theorem rprint_22 (d n m imm kind : Int) (w : World) (hr : GrI.right ⟨22, d, n, m, imm, kind⟩) (hi : ¬ imm < 0) : Calls Tryd.prog 11 #[.agg #[.int .i64 22, .int .i64 d, .int .i64 n, .int .i64 m, .int .i64 imm, .int .i64 kind]] w fun e w' => e = .returned (.string (strL (printR ⟨22, d, n, m, imm, kind⟩))) ∧ Below w.heap.size w w' := by
  obtain ⟨b1, b2⟩ := GrI.imm_bd hr
  obtain ⟨dn0, dn1, dn2, dn3, dn4, dn5⟩ := reg_bd hr
  simp only at b1 b2 dn0 dn1 dn2 dn3 dn4 dn5
  have RI := Lib.hid (fun w2 => pright_is ⟨22, d, n, m, imm, kind⟩ w2 true (by simpa [encB] using hr))
  unfold iv at RI
  simp only at RI
  have RG := Lib.hid (fun w2 (n : Int) (h0 : 0 ≤ n) (h1 : n ≤ 31) => rreg_any n w2 (by omega) (by omega))
  have NU := Lib.hid (fun w2 => rnum_any imm w2 b1 b2)
  have NA := Lib.hid (fun w2 => rnames_any 22 (by decide) (by decide) w2)
  obtain ⟨nm, hnm⟩ : ∃ s, s = strL (at! names 22) := ⟨_, rfl⟩
  rw [← hnm] at NA
  have znm : nm.size = 4 := by rw [hnm]; rfl
  obtain ⟨zu, hzu⟩ : ∃ z, z = (strL (num imm)).size := ⟨_, rfl⟩
  have ezu : (strL (num imm)).size = zu := hzu.symm
  have lzu : zu ≤ 65 := by rw [hzu, strL_size]; exact itoa_len64 b1 b2
  clear hzu
  obtain ⟨c0, y0z, r0, hc0, s0, l0, n0⟩ := letter (⟨#[35]⟩ : ByteArray) (strL (num imm)) 1 zu 66 rfl ezu (by omega) (by decide)
  obtain ⟨c1, y1z, r1, hc1, s1, l1, n1⟩ := letter (⟨#[46, 43]⟩ : ByteArray) (strL (num imm)) 2 zu 67 rfl ezu (by omega) (by decide)
  have SA := Lib.hid (show nm = strL (printR ⟨22, d, n, m, imm, kind⟩) by
    rw [hnm]
    show strL (at! names 22) = _
    congr 1
    all_goals simp only [printR, Int.reduceEq, or_self, or_true, true_or, or_false, false_or, if_true, if_false, false_and, true_and, and_false, and_true, Int.reduceLE, Int.reduceLT, Int.reduceMod, and_self, reduceIte]
    all_goals simp [at!, toT, cellT, num])
  clear hr hnm hc0 hc1
  have i1 : decide (imm < 0) = false := by simpa using hi
  clear hi
  go_enter Tryd.func11, Tryd.ntmps11
  go_upto_region 1 with fail
  refine to_cls ?_
  intro U0 hU0 y0
  have r_b : ∀ z : Wb U0, Row z.at (w.heap.size) [.int .i64 22, .int .i64 d, .int .i64 n, .int .i64 m, .int .i64 imm, .int .i64 kind] 23 := Row.next (Row.new _ [.int .i64 22, .int .i64 d, .int .i64 n, .int .i64 m, .int .i64 imm, .int .i64 kind] _) hU0
  have KK := Lib.hid (KB.next (KB.alloc (Below.refl _ _) _) hU0)
  clear hU0
  obtain ⟨c_b_0, c_b_1, c_b_2, c_b_3, c_b_4, c_b_5⟩ := six r_b
  go_wp2_with fail
  refine (RI.out _).mono ?_
  rintro e w1 ⟨rfl, g⟩
  obtain ⟨y1, rfl⟩ := Wb.next (x := y0) g
  clear g
  go_wp2_with fail
  refine (NU.out _).mono ?_
  rintro e w1 ⟨rfl, g⟩
  obtain ⟨y2, rfl⟩ := Wb.next (x := y1) g
  clear g
  go_wp2_with fail
  refine (NU.out _).mono ?_
  rintro e w1 ⟨rfl, g⟩
  obtain ⟨y3, rfl⟩ := Wb.next (x := y2) g
  clear g
  go_wp2_with fail
  refine (NA.out _).mono ?_
  rintro e w1 ⟨rfl, g⟩
  obtain ⟨y4, rfl⟩ := Wb.next (x := y3) g
  clear g
  go_wp2
  go_ret
  exact ⟨by rw [← SA.out]; rfl, KK.out y4⟩

set_option maxRecDepth 100000 in
set_option maxHeartbeats 6400000 in
theorem rprint_15_p (d n m imm kind : Int) (w : World) (hr : GrI.right ⟨15, d, n, m, imm, kind⟩) (hi : ¬ imm < 0) : Calls Tryd.prog 11 #[.agg #[.int .i64 15, .int .i64 d, .int .i64 n, .int .i64 m, .int .i64 imm, .int .i64 kind]] w fun e w' => e = .returned (.string (strL (printR ⟨15, d, n, m, imm, kind⟩))) ∧ Below w.heap.size w w' := by
  obtain ⟨b1, b2⟩ := GrI.imm_bd hr
  obtain ⟨dn0, dn1, dn2, dn3, dn4, dn5⟩ := reg_bd hr
  simp only at b1 b2 dn0 dn1 dn2 dn3 dn4 dn5
  have RI := Lib.hid (fun w2 => pright_is ⟨15, d, n, m, imm, kind⟩ w2 true (by simpa [encB] using hr))
  unfold iv at RI
  simp only at RI
  have RG := Lib.hid (fun w2 (n : Int) (h0 : 0 ≤ n) (h1 : n ≤ 31) => rreg_any n w2 (by omega) (by omega))
  have NU := Lib.hid (fun w2 => rnum_any imm w2 b1 b2)
  have NA := Lib.hid (fun w2 => rnames_any 15 (by decide) (by decide) w2)
  obtain ⟨nm, hnm⟩ : ∃ s, s = strL (at! names 15) := ⟨_, rfl⟩
  rw [← hnm] at NA
  have znm : nm.size = 3 := by rw [hnm]; rfl
  obtain ⟨zu, hzu⟩ : ∃ z, z = (strL (num imm)).size := ⟨_, rfl⟩
  have ezu : (strL (num imm)).size = zu := hzu.symm
  have lzu : zu ≤ 65 := by rw [hzu, strL_size]; exact itoa_len64 b1 b2
  clear hzu
  obtain ⟨zd, hzd⟩ : ∃ z, z = (strL (reg d)).size := ⟨_, rfl⟩
  have ezd : (strL (reg d)).size = zd := hzd.symm
  have lzd : zd ≤ 65 := by rw [hzd, strL_size]; exact regK d
  clear hzd
  obtain ⟨c0, y0z, r0, hc0, s0, l0, n0⟩ := letter (⟨#[35]⟩ : ByteArray) (strL (num imm)) 1 zu 66 rfl ezu (by omega) (by decide)
  obtain ⟨c1, y1z, r1, hc1, s1, l1, n1⟩ := letter (⟨#[46, 43]⟩ : ByteArray) (strL (num imm)) 2 zu 67 rfl ezu (by omega) (by decide)
  obtain ⟨c2, y2z, r2, hc2, s2, l2, n2⟩ := letter nm (⟨#[32]⟩ : ByteArray) 3 1 4 znm rfl (by omega) (by decide)
  obtain ⟨c3, y3z, r3, hc3, s3, l3, n3⟩ := letter c2 (strL (reg d)) y2z zd 69 s2 ezd (by omega) (by decide)
  obtain ⟨c4, y4z, r4, hc4, s4, l4, n4⟩ := letter c3 (⟨#[44]⟩ : ByteArray) y3z 1 70 s3 rfl (by omega) (by decide)
  obtain ⟨c5, y5z, r5, hc5, s5, l5, n5⟩ := letter c4 c1 y4z y1z 137 s4 s1 (by omega) (by decide)
  have SA := Lib.hid (show c5 = strL (printR ⟨15, d, n, m, imm, kind⟩) by
    rw [hc5, hc4, hc3, hc2, hc1]
    rw [hnm]
    show strL (at! names 15) ++ strL [32] ++ strL (reg d) ++ strL [44] ++ (strL [46, 43] ++ strL (num imm)) = _
    rw [strL_app, strL_app, strL_app, strL_app, strL_app]
    congr 1
    all_goals simp only [printR, Int.reduceEq, or_self, or_true, true_or, or_false, false_or, if_true, if_false, false_and, true_and, and_false, and_true, Int.reduceLE, Int.reduceLT, Int.reduceMod, and_self, reduceIte, hi]
    all_goals simp [at!, toT, cellT, num, hi])
  clear hr hnm hc0 hc1 hc2 hc3 hc4 hc5
  have i1 : decide (imm < 0) = false := by simpa using hi
  clear hi
  go_enter Tryd.func11, Tryd.ntmps11
  go_upto_region 1 with fail
  refine to_cls ?_
  intro U0 hU0 y0
  have r_b : ∀ z : Wb U0, Row z.at (w.heap.size) [.int .i64 15, .int .i64 d, .int .i64 n, .int .i64 m, .int .i64 imm, .int .i64 kind] 23 := Row.next (Row.new _ [.int .i64 15, .int .i64 d, .int .i64 n, .int .i64 m, .int .i64 imm, .int .i64 kind] _) hU0
  have KK := Lib.hid (KB.next (KB.alloc (Below.refl _ _) _) hU0)
  clear hU0
  obtain ⟨c_b_0, c_b_1, c_b_2, c_b_3, c_b_4, c_b_5⟩ := six r_b
  go_wp2_with fail
  refine (RI.out _).mono ?_
  rintro e w1 ⟨rfl, g⟩
  obtain ⟨y1, rfl⟩ := Wb.next (x := y0) g
  clear g
  go_wp2_with fail
  refine (NU.out _).mono ?_
  rintro e w1 ⟨rfl, g⟩
  obtain ⟨y2, rfl⟩ := Wb.next (x := y1) g
  clear g
  go_wp2_with fail
  refine (NU.out _).mono ?_
  rintro e w1 ⟨rfl, g⟩
  obtain ⟨y3, rfl⟩ := Wb.next (x := y2) g
  clear g
  go_wp2_with fail
  refine (NA.out _).mono ?_
  rintro e w1 ⟨rfl, g⟩
  obtain ⟨y4, rfl⟩ := Wb.next (x := y3) g
  clear g
  go_wp2_with fail
  refine (RG.out _ _ (by first | assumption | decide) (by first | assumption | decide)).mono ?_
  rintro e w1 ⟨rfl, g⟩
  obtain ⟨y5, rfl⟩ := Wb.next (x := y4) g
  clear g
  go_wp2
  go_ret
  exact ⟨by rw [← SA.out]; rfl, KK.out y5⟩

set_option maxRecDepth 100000 in
set_option maxHeartbeats 6400000 in
theorem rprint_16_p (d n m imm kind : Int) (w : World) (hr : GrI.right ⟨16, d, n, m, imm, kind⟩) (hi : ¬ imm < 0) : Calls Tryd.prog 11 #[.agg #[.int .i64 16, .int .i64 d, .int .i64 n, .int .i64 m, .int .i64 imm, .int .i64 kind]] w fun e w' => e = .returned (.string (strL (printR ⟨16, d, n, m, imm, kind⟩))) ∧ Below w.heap.size w w' := by
  obtain ⟨b1, b2⟩ := GrI.imm_bd hr
  obtain ⟨dn0, dn1, dn2, dn3, dn4, dn5⟩ := reg_bd hr
  simp only at b1 b2 dn0 dn1 dn2 dn3 dn4 dn5
  have RI := Lib.hid (fun w2 => pright_is ⟨16, d, n, m, imm, kind⟩ w2 true (by simpa [encB] using hr))
  unfold iv at RI
  simp only at RI
  have RG := Lib.hid (fun w2 (n : Int) (h0 : 0 ≤ n) (h1 : n ≤ 31) => rreg_any n w2 (by omega) (by omega))
  have NU := Lib.hid (fun w2 => rnum_any imm w2 b1 b2)
  have NA := Lib.hid (fun w2 => rnames_any 16 (by decide) (by decide) w2)
  obtain ⟨nm, hnm⟩ : ∃ s, s = strL (at! names 16) := ⟨_, rfl⟩
  rw [← hnm] at NA
  have znm : nm.size = 4 := by rw [hnm]; rfl
  obtain ⟨zu, hzu⟩ : ∃ z, z = (strL (num imm)).size := ⟨_, rfl⟩
  have ezu : (strL (num imm)).size = zu := hzu.symm
  have lzu : zu ≤ 65 := by rw [hzu, strL_size]; exact itoa_len64 b1 b2
  clear hzu
  obtain ⟨zd, hzd⟩ : ∃ z, z = (strL (reg d)).size := ⟨_, rfl⟩
  have ezd : (strL (reg d)).size = zd := hzd.symm
  have lzd : zd ≤ 65 := by rw [hzd, strL_size]; exact regK d
  clear hzd
  obtain ⟨c0, y0z, r0, hc0, s0, l0, n0⟩ := letter (⟨#[35]⟩ : ByteArray) (strL (num imm)) 1 zu 66 rfl ezu (by omega) (by decide)
  obtain ⟨c1, y1z, r1, hc1, s1, l1, n1⟩ := letter (⟨#[46, 43]⟩ : ByteArray) (strL (num imm)) 2 zu 67 rfl ezu (by omega) (by decide)
  obtain ⟨c2, y2z, r2, hc2, s2, l2, n2⟩ := letter nm (⟨#[32]⟩ : ByteArray) 4 1 5 znm rfl (by omega) (by decide)
  obtain ⟨c3, y3z, r3, hc3, s3, l3, n3⟩ := letter c2 (strL (reg d)) y2z zd 70 s2 ezd (by omega) (by decide)
  obtain ⟨c4, y4z, r4, hc4, s4, l4, n4⟩ := letter c3 (⟨#[44]⟩ : ByteArray) y3z 1 71 s3 rfl (by omega) (by decide)
  obtain ⟨c5, y5z, r5, hc5, s5, l5, n5⟩ := letter c4 c1 y4z y1z 138 s4 s1 (by omega) (by decide)
  have SA := Lib.hid (show c5 = strL (printR ⟨16, d, n, m, imm, kind⟩) by
    rw [hc5, hc4, hc3, hc2, hc1]
    rw [hnm]
    show strL (at! names 16) ++ strL [32] ++ strL (reg d) ++ strL [44] ++ (strL [46, 43] ++ strL (num imm)) = _
    rw [strL_app, strL_app, strL_app, strL_app, strL_app]
    congr 1
    all_goals simp only [printR, Int.reduceEq, or_self, or_true, true_or, or_false, false_or, if_true, if_false, false_and, true_and, and_false, and_true, Int.reduceLE, Int.reduceLT, Int.reduceMod, and_self, reduceIte, hi]
    all_goals simp [at!, toT, cellT, num, hi])
  clear hr hnm hc0 hc1 hc2 hc3 hc4 hc5
  have i1 : decide (imm < 0) = false := by simpa using hi
  clear hi
  go_enter Tryd.func11, Tryd.ntmps11
  go_upto_region 1 with fail
  refine to_cls ?_
  intro U0 hU0 y0
  have r_b : ∀ z : Wb U0, Row z.at (w.heap.size) [.int .i64 16, .int .i64 d, .int .i64 n, .int .i64 m, .int .i64 imm, .int .i64 kind] 23 := Row.next (Row.new _ [.int .i64 16, .int .i64 d, .int .i64 n, .int .i64 m, .int .i64 imm, .int .i64 kind] _) hU0
  have KK := Lib.hid (KB.next (KB.alloc (Below.refl _ _) _) hU0)
  clear hU0
  obtain ⟨c_b_0, c_b_1, c_b_2, c_b_3, c_b_4, c_b_5⟩ := six r_b
  go_wp2_with fail
  refine (RI.out _).mono ?_
  rintro e w1 ⟨rfl, g⟩
  obtain ⟨y1, rfl⟩ := Wb.next (x := y0) g
  clear g
  go_wp2_with fail
  refine (NU.out _).mono ?_
  rintro e w1 ⟨rfl, g⟩
  obtain ⟨y2, rfl⟩ := Wb.next (x := y1) g
  clear g
  go_wp2_with fail
  refine (NU.out _).mono ?_
  rintro e w1 ⟨rfl, g⟩
  obtain ⟨y3, rfl⟩ := Wb.next (x := y2) g
  clear g
  go_wp2_with fail
  refine (NA.out _).mono ?_
  rintro e w1 ⟨rfl, g⟩
  obtain ⟨y4, rfl⟩ := Wb.next (x := y3) g
  clear g
  go_wp2_with fail
  refine (RG.out _ _ (by first | assumption | decide) (by first | assumption | decide)).mono ?_
  rintro e w1 ⟨rfl, g⟩
  obtain ⟨y5, rfl⟩ := Wb.next (x := y4) g
  clear g
  go_wp2
  go_ret
  exact ⟨by rw [← SA.out]; rfl, KK.out y5⟩

set_option maxRecDepth 100000 in
set_option maxHeartbeats 6400000 in
theorem rprint_17_0p (d n m imm : Int) (w : World) (hr : GrI.right ⟨17, d, n, m, imm, 0⟩) (hi : ¬ imm < 0) : Calls Tryd.prog 11 #[.agg #[.int .i64 17, .int .i64 d, .int .i64 n, .int .i64 m, .int .i64 imm, .int .i64 0]] w fun e w' => e = .returned (.string (strL (printR ⟨17, d, n, m, imm, 0⟩))) ∧ Below w.heap.size w w' := by
  obtain ⟨b1, b2⟩ := GrI.imm_bd hr
  obtain ⟨dn0, dn1, dn2, dn3, dn4, dn5⟩ := reg_bd hr
  simp only at b1 b2 dn0 dn1 dn2 dn3 dn4 dn5
  have RI := Lib.hid (fun w2 => pright_is ⟨17, d, n, m, imm, 0⟩ w2 true (by simpa [encB] using hr))
  unfold iv at RI
  simp only at RI
  have RG := Lib.hid (fun w2 (n : Int) (h0 : 0 ≤ n) (h1 : n ≤ 31) => rreg_any n w2 (by omega) (by omega))
  have NU := Lib.hid (fun w2 => rnum_any imm w2 b1 b2)
  have NA := Lib.hid (fun w2 => rnames_none 17 (by decide) w2)
  obtain ⟨nm, hnm⟩ : ∃ s, s = strL [] := ⟨_, rfl⟩
  rw [← hnm] at NA
  have znm : nm.size = 0 := by rw [hnm]; rfl
  obtain ⟨zu, hzu⟩ : ∃ z, z = (strL (num imm)).size := ⟨_, rfl⟩
  have ezu : (strL (num imm)).size = zu := hzu.symm
  have lzu : zu ≤ 65 := by rw [hzu, strL_size]; exact itoa_len64 b1 b2
  clear hzu
  obtain ⟨c0, y0z, r0, hc0, s0, l0, n0⟩ := letter (⟨#[35]⟩ : ByteArray) (strL (num imm)) 1 zu 66 rfl ezu (by omega) (by decide)
  obtain ⟨c1, y1z, r1, hc1, s1, l1, n1⟩ := letter (⟨#[46, 43]⟩ : ByteArray) (strL (num imm)) 2 zu 67 rfl ezu (by omega) (by decide)
  obtain ⟨c2, y2z, r2, hc2, s2, l2, n2⟩ := letter (⟨#[66, 46, 69, 81, 32]⟩ : ByteArray) c1 5 y1z 72 rfl s1 (by omega) (by decide)
  have SA := Lib.hid (show c2 = strL (printR ⟨17, d, n, m, imm, 0⟩) by
    rw [hc2, hc1]
    show strL [66, 46, 69, 81, 32] ++ (strL [46, 43] ++ strL (num imm)) = _
    rw [strL_app, strL_app]
    congr 1
    all_goals simp only [printR, Int.reduceEq, or_self, or_true, true_or, or_false, false_or, if_true, if_false, false_and, true_and, and_false, and_true, Int.reduceLE, Int.reduceLT, Int.reduceMod, and_self, reduceIte, hi, conds]
    all_goals simp [at!, toT, cellT, num, hi, conds])
  clear hr hnm hc0 hc1 hc2
  have i1 : decide (imm < 0) = false := by simpa using hi
  clear hi
  go_enter Tryd.func11, Tryd.ntmps11
  go_upto_region 1 with fail
  refine to_cls ?_
  intro U0 hU0 y0
  have r_b : ∀ z : Wb U0, Row z.at (w.heap.size) [.int .i64 17, .int .i64 d, .int .i64 n, .int .i64 m, .int .i64 imm, .int .i64 0] 23 := Row.next (Row.new _ [.int .i64 17, .int .i64 d, .int .i64 n, .int .i64 m, .int .i64 imm, .int .i64 0] _) hU0
  have KK := Lib.hid (KB.next (KB.alloc (Below.refl _ _) _) hU0)
  clear hU0
  obtain ⟨c_b_0, c_b_1, c_b_2, c_b_3, c_b_4, c_b_5⟩ := six r_b
  go_wp2_with fail
  refine (RI.out _).mono ?_
  rintro e w1 ⟨rfl, g⟩
  obtain ⟨y1, rfl⟩ := Wb.next (x := y0) g
  clear g
  go_wp2_with fail
  refine (NU.out _).mono ?_
  rintro e w1 ⟨rfl, g⟩
  obtain ⟨y2, rfl⟩ := Wb.next (x := y1) g
  clear g
  go_wp2_with fail
  refine (NU.out _).mono ?_
  rintro e w1 ⟨rfl, g⟩
  obtain ⟨y3, rfl⟩ := Wb.next (x := y2) g
  clear g
  go_wp2_with fail
  refine (NA.out _).mono ?_
  rintro e w1 ⟨rfl, g⟩
  obtain ⟨y4, rfl⟩ := Wb.next (x := y3) g
  clear g
  go_wp2
  go_ret
  exact ⟨by rw [← SA.out]; rfl, KK.out y4⟩

set_option maxRecDepth 100000 in
set_option maxHeartbeats 6400000 in
theorem rprint_17_1p (d n m imm : Int) (w : World) (hr : GrI.right ⟨17, d, n, m, imm, 1⟩) (hi : ¬ imm < 0) : Calls Tryd.prog 11 #[.agg #[.int .i64 17, .int .i64 d, .int .i64 n, .int .i64 m, .int .i64 imm, .int .i64 1]] w fun e w' => e = .returned (.string (strL (printR ⟨17, d, n, m, imm, 1⟩))) ∧ Below w.heap.size w w' := by
  obtain ⟨b1, b2⟩ := GrI.imm_bd hr
  obtain ⟨dn0, dn1, dn2, dn3, dn4, dn5⟩ := reg_bd hr
  simp only at b1 b2 dn0 dn1 dn2 dn3 dn4 dn5
  have RI := Lib.hid (fun w2 => pright_is ⟨17, d, n, m, imm, 1⟩ w2 true (by simpa [encB] using hr))
  unfold iv at RI
  simp only at RI
  have RG := Lib.hid (fun w2 (n : Int) (h0 : 0 ≤ n) (h1 : n ≤ 31) => rreg_any n w2 (by omega) (by omega))
  have NU := Lib.hid (fun w2 => rnum_any imm w2 b1 b2)
  have NA := Lib.hid (fun w2 => rnames_none 17 (by decide) w2)
  obtain ⟨nm, hnm⟩ : ∃ s, s = strL [] := ⟨_, rfl⟩
  rw [← hnm] at NA
  have znm : nm.size = 0 := by rw [hnm]; rfl
  obtain ⟨zu, hzu⟩ : ∃ z, z = (strL (num imm)).size := ⟨_, rfl⟩
  have ezu : (strL (num imm)).size = zu := hzu.symm
  have lzu : zu ≤ 65 := by rw [hzu, strL_size]; exact itoa_len64 b1 b2
  clear hzu
  obtain ⟨c0, y0z, r0, hc0, s0, l0, n0⟩ := letter (⟨#[35]⟩ : ByteArray) (strL (num imm)) 1 zu 66 rfl ezu (by omega) (by decide)
  obtain ⟨c1, y1z, r1, hc1, s1, l1, n1⟩ := letter (⟨#[46, 43]⟩ : ByteArray) (strL (num imm)) 2 zu 67 rfl ezu (by omega) (by decide)
  obtain ⟨c2, y2z, r2, hc2, s2, l2, n2⟩ := letter (⟨#[66, 46, 78, 69, 32]⟩ : ByteArray) c1 5 y1z 72 rfl s1 (by omega) (by decide)
  have SA := Lib.hid (show c2 = strL (printR ⟨17, d, n, m, imm, 1⟩) by
    rw [hc2, hc1]
    show strL [66, 46, 78, 69, 32] ++ (strL [46, 43] ++ strL (num imm)) = _
    rw [strL_app, strL_app]
    congr 1
    all_goals simp only [printR, Int.reduceEq, or_self, or_true, true_or, or_false, false_or, if_true, if_false, false_and, true_and, and_false, and_true, Int.reduceLE, Int.reduceLT, Int.reduceMod, and_self, reduceIte, hi, conds]
    all_goals simp [at!, toT, cellT, num, hi, conds])
  clear hr hnm hc0 hc1 hc2
  have i1 : decide (imm < 0) = false := by simpa using hi
  clear hi
  go_enter Tryd.func11, Tryd.ntmps11
  go_upto_region 1 with fail
  refine to_cls ?_
  intro U0 hU0 y0
  have r_b : ∀ z : Wb U0, Row z.at (w.heap.size) [.int .i64 17, .int .i64 d, .int .i64 n, .int .i64 m, .int .i64 imm, .int .i64 1] 23 := Row.next (Row.new _ [.int .i64 17, .int .i64 d, .int .i64 n, .int .i64 m, .int .i64 imm, .int .i64 1] _) hU0
  have KK := Lib.hid (KB.next (KB.alloc (Below.refl _ _) _) hU0)
  clear hU0
  obtain ⟨c_b_0, c_b_1, c_b_2, c_b_3, c_b_4, c_b_5⟩ := six r_b
  go_wp2_with fail
  refine (RI.out _).mono ?_
  rintro e w1 ⟨rfl, g⟩
  obtain ⟨y1, rfl⟩ := Wb.next (x := y0) g
  clear g
  go_wp2_with fail
  refine (NU.out _).mono ?_
  rintro e w1 ⟨rfl, g⟩
  obtain ⟨y2, rfl⟩ := Wb.next (x := y1) g
  clear g
  go_wp2_with fail
  refine (NU.out _).mono ?_
  rintro e w1 ⟨rfl, g⟩
  obtain ⟨y3, rfl⟩ := Wb.next (x := y2) g
  clear g
  go_wp2_with fail
  refine (NA.out _).mono ?_
  rintro e w1 ⟨rfl, g⟩
  obtain ⟨y4, rfl⟩ := Wb.next (x := y3) g
  clear g
  go_wp2
  go_ret
  exact ⟨by rw [← SA.out]; rfl, KK.out y4⟩

set_option maxRecDepth 100000 in
set_option maxHeartbeats 6400000 in
theorem rprint_15_n (d n m imm kind : Int) (w : World) (hr : GrI.right ⟨15, d, n, m, imm, kind⟩) (hi : imm < 0) : Calls Tryd.prog 11 #[.agg #[.int .i64 15, .int .i64 d, .int .i64 n, .int .i64 m, .int .i64 imm, .int .i64 kind]] w fun e w' => e = .returned (.string (strL (printR ⟨15, d, n, m, imm, kind⟩))) ∧ Below w.heap.size w w' := by
  obtain ⟨b1, b2⟩ := GrI.imm_bd hr
  obtain ⟨dn0, dn1, dn2, dn3, dn4, dn5⟩ := reg_bd hr
  simp only at b1 b2 dn0 dn1 dn2 dn3 dn4 dn5
  have RI := Lib.hid (fun w2 => pright_is ⟨15, d, n, m, imm, kind⟩ w2 true (by simpa [encB] using hr))
  unfold iv at RI
  simp only at RI
  have RG := Lib.hid (fun w2 (n : Int) (h0 : 0 ≤ n) (h1 : n ≤ 31) => rreg_any n w2 (by omega) (by omega))
  have NU := Lib.hid (fun w2 => rnum_any imm w2 b1 b2)
  have NA := Lib.hid (fun w2 => rnames_any 15 (by decide) (by decide) w2)
  obtain ⟨nm, hnm⟩ : ∃ s, s = strL (at! names 15) := ⟨_, rfl⟩
  rw [← hnm] at NA
  have znm : nm.size = 3 := by rw [hnm]; rfl
  obtain ⟨zu, hzu⟩ : ∃ z, z = (strL (num imm)).size := ⟨_, rfl⟩
  have ezu : (strL (num imm)).size = zu := hzu.symm
  have lzu : zu ≤ 65 := by rw [hzu, strL_size]; exact itoa_len64 b1 b2
  clear hzu
  obtain ⟨zd, hzd⟩ : ∃ z, z = (strL (reg d)).size := ⟨_, rfl⟩
  have ezd : (strL (reg d)).size = zd := hzd.symm
  have lzd : zd ≤ 65 := by rw [hzd, strL_size]; exact regK d
  clear hzd
  obtain ⟨c0, y0z, r0, hc0, s0, l0, n0⟩ := letter (⟨#[35]⟩ : ByteArray) (strL (num imm)) 1 zu 66 rfl ezu (by omega) (by decide)
  obtain ⟨c1, y1z, r1, hc1, s1, l1, n1⟩ := letter (⟨#[46, 43]⟩ : ByteArray) (strL (num imm)) 2 zu 67 rfl ezu (by omega) (by decide)
  obtain ⟨c2, y2z, r2, hc2, s2, l2, n2⟩ := letter (⟨#[46]⟩ : ByteArray) (strL (num imm)) 1 zu 66 rfl ezu (by omega) (by decide)
  obtain ⟨c3, y3z, r3, hc3, s3, l3, n3⟩ := letter nm (⟨#[32]⟩ : ByteArray) 3 1 4 znm rfl (by omega) (by decide)
  obtain ⟨c4, y4z, r4, hc4, s4, l4, n4⟩ := letter c3 (strL (reg d)) y3z zd 69 s3 ezd (by omega) (by decide)
  obtain ⟨c5, y5z, r5, hc5, s5, l5, n5⟩ := letter c4 (⟨#[44]⟩ : ByteArray) y4z 1 70 s4 rfl (by omega) (by decide)
  obtain ⟨c6, y6z, r6, hc6, s6, l6, n6⟩ := letter c5 c2 y5z y2z 136 s5 s2 (by omega) (by decide)
  have SA := Lib.hid (show c6 = strL (printR ⟨15, d, n, m, imm, kind⟩) by
    rw [hc6, hc5, hc4, hc3, hc2]
    rw [hnm]
    show strL (at! names 15) ++ strL [32] ++ strL (reg d) ++ strL [44] ++ (strL [46] ++ strL (num imm)) = _
    rw [strL_app, strL_app, strL_app, strL_app, strL_app]
    congr 1
    all_goals simp only [printR, Int.reduceEq, or_self, or_true, true_or, or_false, false_or, if_true, if_false, false_and, true_and, and_false, and_true, Int.reduceLE, Int.reduceLT, Int.reduceMod, and_self, reduceIte, hi]
    all_goals simp [at!, toT, cellT, num, hi])
  clear hr hnm hc0 hc1 hc2 hc3 hc4 hc5 hc6
  have i1 : decide (imm < 0) = true := by simpa using hi
  clear hi
  go_enter Tryd.func11, Tryd.ntmps11
  go_upto_region 1 with fail
  refine to_cls ?_
  intro U0 hU0 y0
  have r_b : ∀ z : Wb U0, Row z.at (w.heap.size) [.int .i64 15, .int .i64 d, .int .i64 n, .int .i64 m, .int .i64 imm, .int .i64 kind] 23 := Row.next (Row.new _ [.int .i64 15, .int .i64 d, .int .i64 n, .int .i64 m, .int .i64 imm, .int .i64 kind] _) hU0
  have KK := Lib.hid (KB.next (KB.alloc (Below.refl _ _) _) hU0)
  clear hU0
  obtain ⟨c_b_0, c_b_1, c_b_2, c_b_3, c_b_4, c_b_5⟩ := six r_b
  go_wp2_with fail
  refine (RI.out _).mono ?_
  rintro e w1 ⟨rfl, g⟩
  obtain ⟨y1, rfl⟩ := Wb.next (x := y0) g
  clear g
  go_wp2_with fail
  refine (NU.out _).mono ?_
  rintro e w1 ⟨rfl, g⟩
  obtain ⟨y2, rfl⟩ := Wb.next (x := y1) g
  clear g
  go_wp2_with fail
  refine (NU.out _).mono ?_
  rintro e w1 ⟨rfl, g⟩
  obtain ⟨y3, rfl⟩ := Wb.next (x := y2) g
  clear g
  go_wp2_with fail
  refine (NU.out _).mono ?_
  rintro e w1 ⟨rfl, g⟩
  obtain ⟨y4, rfl⟩ := Wb.next (x := y3) g
  clear g
  go_wp2_with fail
  refine (NA.out _).mono ?_
  rintro e w1 ⟨rfl, g⟩
  obtain ⟨y5, rfl⟩ := Wb.next (x := y4) g
  clear g
  go_wp2_with fail
  refine (RG.out _ _ (by first | assumption | decide) (by first | assumption | decide)).mono ?_
  rintro e w1 ⟨rfl, g⟩
  obtain ⟨y6, rfl⟩ := Wb.next (x := y5) g
  clear g
  go_wp2
  go_ret
  exact ⟨by rw [← SA.out]; rfl, KK.out y6⟩

set_option maxRecDepth 100000 in
set_option maxHeartbeats 6400000 in
theorem rprint_16_n (d n m imm kind : Int) (w : World) (hr : GrI.right ⟨16, d, n, m, imm, kind⟩) (hi : imm < 0) : Calls Tryd.prog 11 #[.agg #[.int .i64 16, .int .i64 d, .int .i64 n, .int .i64 m, .int .i64 imm, .int .i64 kind]] w fun e w' => e = .returned (.string (strL (printR ⟨16, d, n, m, imm, kind⟩))) ∧ Below w.heap.size w w' := by
  obtain ⟨b1, b2⟩ := GrI.imm_bd hr
  obtain ⟨dn0, dn1, dn2, dn3, dn4, dn5⟩ := reg_bd hr
  simp only at b1 b2 dn0 dn1 dn2 dn3 dn4 dn5
  have RI := Lib.hid (fun w2 => pright_is ⟨16, d, n, m, imm, kind⟩ w2 true (by simpa [encB] using hr))
  unfold iv at RI
  simp only at RI
  have RG := Lib.hid (fun w2 (n : Int) (h0 : 0 ≤ n) (h1 : n ≤ 31) => rreg_any n w2 (by omega) (by omega))
  have NU := Lib.hid (fun w2 => rnum_any imm w2 b1 b2)
  have NA := Lib.hid (fun w2 => rnames_any 16 (by decide) (by decide) w2)
  obtain ⟨nm, hnm⟩ : ∃ s, s = strL (at! names 16) := ⟨_, rfl⟩
  rw [← hnm] at NA
  have znm : nm.size = 4 := by rw [hnm]; rfl
  obtain ⟨zu, hzu⟩ : ∃ z, z = (strL (num imm)).size := ⟨_, rfl⟩
  have ezu : (strL (num imm)).size = zu := hzu.symm
  have lzu : zu ≤ 65 := by rw [hzu, strL_size]; exact itoa_len64 b1 b2
  clear hzu
  obtain ⟨zd, hzd⟩ : ∃ z, z = (strL (reg d)).size := ⟨_, rfl⟩
  have ezd : (strL (reg d)).size = zd := hzd.symm
  have lzd : zd ≤ 65 := by rw [hzd, strL_size]; exact regK d
  clear hzd
  obtain ⟨c0, y0z, r0, hc0, s0, l0, n0⟩ := letter (⟨#[35]⟩ : ByteArray) (strL (num imm)) 1 zu 66 rfl ezu (by omega) (by decide)
  obtain ⟨c1, y1z, r1, hc1, s1, l1, n1⟩ := letter (⟨#[46, 43]⟩ : ByteArray) (strL (num imm)) 2 zu 67 rfl ezu (by omega) (by decide)
  obtain ⟨c2, y2z, r2, hc2, s2, l2, n2⟩ := letter (⟨#[46]⟩ : ByteArray) (strL (num imm)) 1 zu 66 rfl ezu (by omega) (by decide)
  obtain ⟨c3, y3z, r3, hc3, s3, l3, n3⟩ := letter nm (⟨#[32]⟩ : ByteArray) 4 1 5 znm rfl (by omega) (by decide)
  obtain ⟨c4, y4z, r4, hc4, s4, l4, n4⟩ := letter c3 (strL (reg d)) y3z zd 70 s3 ezd (by omega) (by decide)
  obtain ⟨c5, y5z, r5, hc5, s5, l5, n5⟩ := letter c4 (⟨#[44]⟩ : ByteArray) y4z 1 71 s4 rfl (by omega) (by decide)
  obtain ⟨c6, y6z, r6, hc6, s6, l6, n6⟩ := letter c5 c2 y5z y2z 137 s5 s2 (by omega) (by decide)
  have SA := Lib.hid (show c6 = strL (printR ⟨16, d, n, m, imm, kind⟩) by
    rw [hc6, hc5, hc4, hc3, hc2]
    rw [hnm]
    show strL (at! names 16) ++ strL [32] ++ strL (reg d) ++ strL [44] ++ (strL [46] ++ strL (num imm)) = _
    rw [strL_app, strL_app, strL_app, strL_app, strL_app]
    congr 1
    all_goals simp only [printR, Int.reduceEq, or_self, or_true, true_or, or_false, false_or, if_true, if_false, false_and, true_and, and_false, and_true, Int.reduceLE, Int.reduceLT, Int.reduceMod, and_self, reduceIte, hi]
    all_goals simp [at!, toT, cellT, num, hi])
  clear hr hnm hc0 hc1 hc2 hc3 hc4 hc5 hc6
  have i1 : decide (imm < 0) = true := by simpa using hi
  clear hi
  go_enter Tryd.func11, Tryd.ntmps11
  go_upto_region 1 with fail
  refine to_cls ?_
  intro U0 hU0 y0
  have r_b : ∀ z : Wb U0, Row z.at (w.heap.size) [.int .i64 16, .int .i64 d, .int .i64 n, .int .i64 m, .int .i64 imm, .int .i64 kind] 23 := Row.next (Row.new _ [.int .i64 16, .int .i64 d, .int .i64 n, .int .i64 m, .int .i64 imm, .int .i64 kind] _) hU0
  have KK := Lib.hid (KB.next (KB.alloc (Below.refl _ _) _) hU0)
  clear hU0
  obtain ⟨c_b_0, c_b_1, c_b_2, c_b_3, c_b_4, c_b_5⟩ := six r_b
  go_wp2_with fail
  refine (RI.out _).mono ?_
  rintro e w1 ⟨rfl, g⟩
  obtain ⟨y1, rfl⟩ := Wb.next (x := y0) g
  clear g
  go_wp2_with fail
  refine (NU.out _).mono ?_
  rintro e w1 ⟨rfl, g⟩
  obtain ⟨y2, rfl⟩ := Wb.next (x := y1) g
  clear g
  go_wp2_with fail
  refine (NU.out _).mono ?_
  rintro e w1 ⟨rfl, g⟩
  obtain ⟨y3, rfl⟩ := Wb.next (x := y2) g
  clear g
  go_wp2_with fail
  refine (NU.out _).mono ?_
  rintro e w1 ⟨rfl, g⟩
  obtain ⟨y4, rfl⟩ := Wb.next (x := y3) g
  clear g
  go_wp2_with fail
  refine (NA.out _).mono ?_
  rintro e w1 ⟨rfl, g⟩
  obtain ⟨y5, rfl⟩ := Wb.next (x := y4) g
  clear g
  go_wp2_with fail
  refine (RG.out _ _ (by first | assumption | decide) (by first | assumption | decide)).mono ?_
  rintro e w1 ⟨rfl, g⟩
  obtain ⟨y6, rfl⟩ := Wb.next (x := y5) g
  clear g
  go_wp2
  go_ret
  exact ⟨by rw [← SA.out]; rfl, KK.out y6⟩

set_option maxRecDepth 100000 in
set_option maxHeartbeats 6400000 in
theorem rprint_17_0n (d n m imm : Int) (w : World) (hr : GrI.right ⟨17, d, n, m, imm, 0⟩) (hi : imm < 0) : Calls Tryd.prog 11 #[.agg #[.int .i64 17, .int .i64 d, .int .i64 n, .int .i64 m, .int .i64 imm, .int .i64 0]] w fun e w' => e = .returned (.string (strL (printR ⟨17, d, n, m, imm, 0⟩))) ∧ Below w.heap.size w w' := by
  obtain ⟨b1, b2⟩ := GrI.imm_bd hr
  obtain ⟨dn0, dn1, dn2, dn3, dn4, dn5⟩ := reg_bd hr
  simp only at b1 b2 dn0 dn1 dn2 dn3 dn4 dn5
  have RI := Lib.hid (fun w2 => pright_is ⟨17, d, n, m, imm, 0⟩ w2 true (by simpa [encB] using hr))
  unfold iv at RI
  simp only at RI
  have RG := Lib.hid (fun w2 (n : Int) (h0 : 0 ≤ n) (h1 : n ≤ 31) => rreg_any n w2 (by omega) (by omega))
  have NU := Lib.hid (fun w2 => rnum_any imm w2 b1 b2)
  have NA := Lib.hid (fun w2 => rnames_none 17 (by decide) w2)
  obtain ⟨nm, hnm⟩ : ∃ s, s = strL [] := ⟨_, rfl⟩
  rw [← hnm] at NA
  have znm : nm.size = 0 := by rw [hnm]; rfl
  obtain ⟨zu, hzu⟩ : ∃ z, z = (strL (num imm)).size := ⟨_, rfl⟩
  have ezu : (strL (num imm)).size = zu := hzu.symm
  have lzu : zu ≤ 65 := by rw [hzu, strL_size]; exact itoa_len64 b1 b2
  clear hzu
  obtain ⟨c0, y0z, r0, hc0, s0, l0, n0⟩ := letter (⟨#[35]⟩ : ByteArray) (strL (num imm)) 1 zu 66 rfl ezu (by omega) (by decide)
  obtain ⟨c1, y1z, r1, hc1, s1, l1, n1⟩ := letter (⟨#[46, 43]⟩ : ByteArray) (strL (num imm)) 2 zu 67 rfl ezu (by omega) (by decide)
  obtain ⟨c2, y2z, r2, hc2, s2, l2, n2⟩ := letter (⟨#[46]⟩ : ByteArray) (strL (num imm)) 1 zu 66 rfl ezu (by omega) (by decide)
  obtain ⟨c3, y3z, r3, hc3, s3, l3, n3⟩ := letter (⟨#[66, 46, 69, 81, 32]⟩ : ByteArray) c2 5 y2z 71 rfl s2 (by omega) (by decide)
  have SA := Lib.hid (show c3 = strL (printR ⟨17, d, n, m, imm, 0⟩) by
    rw [hc3, hc2]
    show strL [66, 46, 69, 81, 32] ++ (strL [46] ++ strL (num imm)) = _
    rw [strL_app, strL_app]
    congr 1
    all_goals simp only [printR, Int.reduceEq, or_self, or_true, true_or, or_false, false_or, if_true, if_false, false_and, true_and, and_false, and_true, Int.reduceLE, Int.reduceLT, Int.reduceMod, and_self, reduceIte, hi, conds]
    all_goals simp [at!, toT, cellT, num, hi, conds])
  clear hr hnm hc0 hc1 hc2 hc3
  have i1 : decide (imm < 0) = true := by simpa using hi
  clear hi
  go_enter Tryd.func11, Tryd.ntmps11
  go_upto_region 1 with fail
  refine to_cls ?_
  intro U0 hU0 y0
  have r_b : ∀ z : Wb U0, Row z.at (w.heap.size) [.int .i64 17, .int .i64 d, .int .i64 n, .int .i64 m, .int .i64 imm, .int .i64 0] 23 := Row.next (Row.new _ [.int .i64 17, .int .i64 d, .int .i64 n, .int .i64 m, .int .i64 imm, .int .i64 0] _) hU0
  have KK := Lib.hid (KB.next (KB.alloc (Below.refl _ _) _) hU0)
  clear hU0
  obtain ⟨c_b_0, c_b_1, c_b_2, c_b_3, c_b_4, c_b_5⟩ := six r_b
  go_wp2_with fail
  refine (RI.out _).mono ?_
  rintro e w1 ⟨rfl, g⟩
  obtain ⟨y1, rfl⟩ := Wb.next (x := y0) g
  clear g
  go_wp2_with fail
  refine (NU.out _).mono ?_
  rintro e w1 ⟨rfl, g⟩
  obtain ⟨y2, rfl⟩ := Wb.next (x := y1) g
  clear g
  go_wp2_with fail
  refine (NU.out _).mono ?_
  rintro e w1 ⟨rfl, g⟩
  obtain ⟨y3, rfl⟩ := Wb.next (x := y2) g
  clear g
  go_wp2_with fail
  refine (NU.out _).mono ?_
  rintro e w1 ⟨rfl, g⟩
  obtain ⟨y4, rfl⟩ := Wb.next (x := y3) g
  clear g
  go_wp2_with fail
  refine (NA.out _).mono ?_
  rintro e w1 ⟨rfl, g⟩
  obtain ⟨y5, rfl⟩ := Wb.next (x := y4) g
  clear g
  go_wp2
  go_ret
  exact ⟨by rw [← SA.out]; rfl, KK.out y5⟩

set_option maxRecDepth 100000 in
set_option maxHeartbeats 6400000 in
theorem rprint_17_1n (d n m imm : Int) (w : World) (hr : GrI.right ⟨17, d, n, m, imm, 1⟩) (hi : imm < 0) : Calls Tryd.prog 11 #[.agg #[.int .i64 17, .int .i64 d, .int .i64 n, .int .i64 m, .int .i64 imm, .int .i64 1]] w fun e w' => e = .returned (.string (strL (printR ⟨17, d, n, m, imm, 1⟩))) ∧ Below w.heap.size w w' := by
  obtain ⟨b1, b2⟩ := GrI.imm_bd hr
  obtain ⟨dn0, dn1, dn2, dn3, dn4, dn5⟩ := reg_bd hr
  simp only at b1 b2 dn0 dn1 dn2 dn3 dn4 dn5
  have RI := Lib.hid (fun w2 => pright_is ⟨17, d, n, m, imm, 1⟩ w2 true (by simpa [encB] using hr))
  unfold iv at RI
  simp only at RI
  have RG := Lib.hid (fun w2 (n : Int) (h0 : 0 ≤ n) (h1 : n ≤ 31) => rreg_any n w2 (by omega) (by omega))
  have NU := Lib.hid (fun w2 => rnum_any imm w2 b1 b2)
  have NA := Lib.hid (fun w2 => rnames_none 17 (by decide) w2)
  obtain ⟨nm, hnm⟩ : ∃ s, s = strL [] := ⟨_, rfl⟩
  rw [← hnm] at NA
  have znm : nm.size = 0 := by rw [hnm]; rfl
  obtain ⟨zu, hzu⟩ : ∃ z, z = (strL (num imm)).size := ⟨_, rfl⟩
  have ezu : (strL (num imm)).size = zu := hzu.symm
  have lzu : zu ≤ 65 := by rw [hzu, strL_size]; exact itoa_len64 b1 b2
  clear hzu
  obtain ⟨c0, y0z, r0, hc0, s0, l0, n0⟩ := letter (⟨#[35]⟩ : ByteArray) (strL (num imm)) 1 zu 66 rfl ezu (by omega) (by decide)
  obtain ⟨c1, y1z, r1, hc1, s1, l1, n1⟩ := letter (⟨#[46, 43]⟩ : ByteArray) (strL (num imm)) 2 zu 67 rfl ezu (by omega) (by decide)
  obtain ⟨c2, y2z, r2, hc2, s2, l2, n2⟩ := letter (⟨#[46]⟩ : ByteArray) (strL (num imm)) 1 zu 66 rfl ezu (by omega) (by decide)
  obtain ⟨c3, y3z, r3, hc3, s3, l3, n3⟩ := letter (⟨#[66, 46, 78, 69, 32]⟩ : ByteArray) c2 5 y2z 71 rfl s2 (by omega) (by decide)
  have SA := Lib.hid (show c3 = strL (printR ⟨17, d, n, m, imm, 1⟩) by
    rw [hc3, hc2]
    show strL [66, 46, 78, 69, 32] ++ (strL [46] ++ strL (num imm)) = _
    rw [strL_app, strL_app]
    congr 1
    all_goals simp only [printR, Int.reduceEq, or_self, or_true, true_or, or_false, false_or, if_true, if_false, false_and, true_and, and_false, and_true, Int.reduceLE, Int.reduceLT, Int.reduceMod, and_self, reduceIte, hi, conds]
    all_goals simp [at!, toT, cellT, num, hi, conds])
  clear hr hnm hc0 hc1 hc2 hc3
  have i1 : decide (imm < 0) = true := by simpa using hi
  clear hi
  go_enter Tryd.func11, Tryd.ntmps11
  go_upto_region 1 with fail
  refine to_cls ?_
  intro U0 hU0 y0
  have r_b : ∀ z : Wb U0, Row z.at (w.heap.size) [.int .i64 17, .int .i64 d, .int .i64 n, .int .i64 m, .int .i64 imm, .int .i64 1] 23 := Row.next (Row.new _ [.int .i64 17, .int .i64 d, .int .i64 n, .int .i64 m, .int .i64 imm, .int .i64 1] _) hU0
  have KK := Lib.hid (KB.next (KB.alloc (Below.refl _ _) _) hU0)
  clear hU0
  obtain ⟨c_b_0, c_b_1, c_b_2, c_b_3, c_b_4, c_b_5⟩ := six r_b
  go_wp2_with fail
  refine (RI.out _).mono ?_
  rintro e w1 ⟨rfl, g⟩
  obtain ⟨y1, rfl⟩ := Wb.next (x := y0) g
  clear g
  go_wp2_with fail
  refine (NU.out _).mono ?_
  rintro e w1 ⟨rfl, g⟩
  obtain ⟨y2, rfl⟩ := Wb.next (x := y1) g
  clear g
  go_wp2_with fail
  refine (NU.out _).mono ?_
  rintro e w1 ⟨rfl, g⟩
  obtain ⟨y3, rfl⟩ := Wb.next (x := y2) g
  clear g
  go_wp2_with fail
  refine (NU.out _).mono ?_
  rintro e w1 ⟨rfl, g⟩
  obtain ⟨y4, rfl⟩ := Wb.next (x := y3) g
  clear g
  go_wp2_with fail
  refine (NA.out _).mono ?_
  rintro e w1 ⟨rfl, g⟩
  obtain ⟨y5, rfl⟩ := Wb.next (x := y4) g
  clear g
  go_wp2
  go_ret
  exact ⟨by rw [← SA.out]; rfl, KK.out y5⟩

set_option maxRecDepth 100000 in
set_option maxHeartbeats 6400000 in
theorem rprint_18_9 (d n m imm : Int) (w : World) (hr : GrI.right ⟨18, d, n, m, imm, 9⟩) (hi : ¬ imm < 0) : Calls Tryd.prog 11 #[.agg #[.int .i64 18, .int .i64 d, .int .i64 n, .int .i64 m, .int .i64 imm, .int .i64 9]] w fun e w' => e = .returned (.string (strL (printR ⟨18, d, n, m, imm, 9⟩))) ∧ Below w.heap.size w w' := by
  obtain ⟨b1, b2⟩ := GrI.imm_bd hr
  obtain ⟨dn0, dn1, dn2, dn3, dn4, dn5⟩ := reg_bd hr
  simp only at b1 b2 dn0 dn1 dn2 dn3 dn4 dn5
  have RI := Lib.hid (fun w2 => pright_is ⟨18, d, n, m, imm, 9⟩ w2 true (by simpa [encB] using hr))
  unfold iv at RI
  simp only at RI
  have RG := Lib.hid (fun w2 (n : Int) (h0 : 0 ≤ n) (h1 : n ≤ 31) => rreg_any n w2 (by omega) (by omega))
  have NU := Lib.hid (fun w2 => rnum_any imm w2 b1 b2)
  have NA := Lib.hid (fun w2 => rnames_any 18 (by decide) (by decide) w2)
  obtain ⟨nm, hnm⟩ : ∃ s, s = strL (at! names 18) := ⟨_, rfl⟩
  rw [← hnm] at NA
  have znm : nm.size = 3 := by rw [hnm]; rfl
  obtain ⟨zu, hzu⟩ : ∃ z, z = (strL (num imm)).size := ⟨_, rfl⟩
  have ezu : (strL (num imm)).size = zu := hzu.symm
  have lzu : zu ≤ 65 := by rw [hzu, strL_size]; exact itoa_len64 b1 b2
  clear hzu
  obtain ⟨c0, y0z, r0, hc0, s0, l0, n0⟩ := letter (⟨#[35]⟩ : ByteArray) (strL (num imm)) 1 zu 66 rfl ezu (by omega) (by decide)
  obtain ⟨c1, y1z, r1, hc1, s1, l1, n1⟩ := letter (⟨#[46, 43]⟩ : ByteArray) (strL (num imm)) 2 zu 67 rfl ezu (by omega) (by decide)
  have TK := Lib.hid (fun w2 => rbarrier_any 9 (by decide) w2)
  obtain ⟨tk, htk⟩ : ∃ s, s = strL (at! bars 9) := ⟨_, rfl⟩
  rw [← htk] at TK
  have ztk : tk.size = 5 := by rw [htk]; rfl
  obtain ⟨c2, y2z, r2, hc2, s2, l2, n2⟩ := letter nm (⟨#[32]⟩ : ByteArray) 3 1 4 znm rfl (by omega) (by decide)
  obtain ⟨c3, y3z, r3, hc3, s3, l3, n3⟩ := letter c2 tk y2z 5 9 s2 ztk (by omega) (by decide)
  have SA := Lib.hid (show c3 = strL (printR ⟨18, d, n, m, imm, 9⟩) by
    rw [hc3, hc2]
    rw [htk]
    rw [hnm]
    show strL (at! names 18) ++ strL [32] ++ strL (at! bars 9) = _
    rw [strL_app, strL_app]
    congr 1
    all_goals simp only [printR, Int.reduceEq, or_self, or_true, true_or, or_false, false_or, if_true, if_false, false_and, true_and, and_false, and_true, Int.reduceLE, Int.reduceLT, Int.reduceMod, and_self, reduceIte]
    all_goals simp [at!, toT, cellT, num])
  clear hr hnm hc0 hc1 hc2 hc3
  clear htk
  have i1 : decide (imm < 0) = false := by simpa using hi
  clear hi
  go_enter Tryd.func11, Tryd.ntmps11
  go_upto_region 1 with fail
  refine to_cls ?_
  intro U0 hU0 y0
  have r_b : ∀ z : Wb U0, Row z.at (w.heap.size) [.int .i64 18, .int .i64 d, .int .i64 n, .int .i64 m, .int .i64 imm, .int .i64 9] 23 := Row.next (Row.new _ [.int .i64 18, .int .i64 d, .int .i64 n, .int .i64 m, .int .i64 imm, .int .i64 9] _) hU0
  have KK := Lib.hid (KB.next (KB.alloc (Below.refl _ _) _) hU0)
  clear hU0
  obtain ⟨c_b_0, c_b_1, c_b_2, c_b_3, c_b_4, c_b_5⟩ := six r_b
  go_wp2_with fail
  refine (RI.out _).mono ?_
  rintro e w1 ⟨rfl, g⟩
  obtain ⟨y1, rfl⟩ := Wb.next (x := y0) g
  clear g
  go_wp2_with fail
  refine (NU.out _).mono ?_
  rintro e w1 ⟨rfl, g⟩
  obtain ⟨y2, rfl⟩ := Wb.next (x := y1) g
  clear g
  go_wp2_with fail
  refine (NU.out _).mono ?_
  rintro e w1 ⟨rfl, g⟩
  obtain ⟨y3, rfl⟩ := Wb.next (x := y2) g
  clear g
  go_wp2_with fail
  refine (NA.out _).mono ?_
  rintro e w1 ⟨rfl, g⟩
  obtain ⟨y4, rfl⟩ := Wb.next (x := y3) g
  clear g
  go_wp2_with fail
  refine (TK.out _).mono ?_
  rintro e w1 ⟨rfl, g⟩
  obtain ⟨y5, rfl⟩ := Wb.next (x := y4) g
  clear g
  go_wp2
  go_ret
  exact ⟨by rw [← SA.out]; rfl, KK.out y5⟩

set_option maxRecDepth 100000 in
set_option maxHeartbeats 6400000 in
theorem rprint_18_10 (d n m imm : Int) (w : World) (hr : GrI.right ⟨18, d, n, m, imm, 10⟩) (hi : ¬ imm < 0) : Calls Tryd.prog 11 #[.agg #[.int .i64 18, .int .i64 d, .int .i64 n, .int .i64 m, .int .i64 imm, .int .i64 10]] w fun e w' => e = .returned (.string (strL (printR ⟨18, d, n, m, imm, 10⟩))) ∧ Below w.heap.size w w' := by
  obtain ⟨b1, b2⟩ := GrI.imm_bd hr
  obtain ⟨dn0, dn1, dn2, dn3, dn4, dn5⟩ := reg_bd hr
  simp only at b1 b2 dn0 dn1 dn2 dn3 dn4 dn5
  have RI := Lib.hid (fun w2 => pright_is ⟨18, d, n, m, imm, 10⟩ w2 true (by simpa [encB] using hr))
  unfold iv at RI
  simp only at RI
  have RG := Lib.hid (fun w2 (n : Int) (h0 : 0 ≤ n) (h1 : n ≤ 31) => rreg_any n w2 (by omega) (by omega))
  have NU := Lib.hid (fun w2 => rnum_any imm w2 b1 b2)
  have NA := Lib.hid (fun w2 => rnames_any 18 (by decide) (by decide) w2)
  obtain ⟨nm, hnm⟩ : ∃ s, s = strL (at! names 18) := ⟨_, rfl⟩
  rw [← hnm] at NA
  have znm : nm.size = 3 := by rw [hnm]; rfl
  obtain ⟨zu, hzu⟩ : ∃ z, z = (strL (num imm)).size := ⟨_, rfl⟩
  have ezu : (strL (num imm)).size = zu := hzu.symm
  have lzu : zu ≤ 65 := by rw [hzu, strL_size]; exact itoa_len64 b1 b2
  clear hzu
  obtain ⟨c0, y0z, r0, hc0, s0, l0, n0⟩ := letter (⟨#[35]⟩ : ByteArray) (strL (num imm)) 1 zu 66 rfl ezu (by omega) (by decide)
  obtain ⟨c1, y1z, r1, hc1, s1, l1, n1⟩ := letter (⟨#[46, 43]⟩ : ByteArray) (strL (num imm)) 2 zu 67 rfl ezu (by omega) (by decide)
  have TK := Lib.hid (fun w2 => rbarrier_any 10 (by decide) w2)
  obtain ⟨tk, htk⟩ : ∃ s, s = strL (at! bars 10) := ⟨_, rfl⟩
  rw [← htk] at TK
  have ztk : tk.size = 5 := by rw [htk]; rfl
  obtain ⟨c2, y2z, r2, hc2, s2, l2, n2⟩ := letter nm (⟨#[32]⟩ : ByteArray) 3 1 4 znm rfl (by omega) (by decide)
  obtain ⟨c3, y3z, r3, hc3, s3, l3, n3⟩ := letter c2 tk y2z 5 9 s2 ztk (by omega) (by decide)
  have SA := Lib.hid (show c3 = strL (printR ⟨18, d, n, m, imm, 10⟩) by
    rw [hc3, hc2]
    rw [htk]
    rw [hnm]
    show strL (at! names 18) ++ strL [32] ++ strL (at! bars 10) = _
    rw [strL_app, strL_app]
    congr 1
    all_goals simp only [printR, Int.reduceEq, or_self, or_true, true_or, or_false, false_or, if_true, if_false, false_and, true_and, and_false, and_true, Int.reduceLE, Int.reduceLT, Int.reduceMod, and_self, reduceIte]
    all_goals simp [at!, toT, cellT, num])
  clear hr hnm hc0 hc1 hc2 hc3
  clear htk
  have i1 : decide (imm < 0) = false := by simpa using hi
  clear hi
  go_enter Tryd.func11, Tryd.ntmps11
  go_upto_region 1 with fail
  refine to_cls ?_
  intro U0 hU0 y0
  have r_b : ∀ z : Wb U0, Row z.at (w.heap.size) [.int .i64 18, .int .i64 d, .int .i64 n, .int .i64 m, .int .i64 imm, .int .i64 10] 23 := Row.next (Row.new _ [.int .i64 18, .int .i64 d, .int .i64 n, .int .i64 m, .int .i64 imm, .int .i64 10] _) hU0
  have KK := Lib.hid (KB.next (KB.alloc (Below.refl _ _) _) hU0)
  clear hU0
  obtain ⟨c_b_0, c_b_1, c_b_2, c_b_3, c_b_4, c_b_5⟩ := six r_b
  go_wp2_with fail
  refine (RI.out _).mono ?_
  rintro e w1 ⟨rfl, g⟩
  obtain ⟨y1, rfl⟩ := Wb.next (x := y0) g
  clear g
  go_wp2_with fail
  refine (NU.out _).mono ?_
  rintro e w1 ⟨rfl, g⟩
  obtain ⟨y2, rfl⟩ := Wb.next (x := y1) g
  clear g
  go_wp2_with fail
  refine (NU.out _).mono ?_
  rintro e w1 ⟨rfl, g⟩
  obtain ⟨y3, rfl⟩ := Wb.next (x := y2) g
  clear g
  go_wp2_with fail
  refine (NA.out _).mono ?_
  rintro e w1 ⟨rfl, g⟩
  obtain ⟨y4, rfl⟩ := Wb.next (x := y3) g
  clear g
  go_wp2_with fail
  refine (TK.out _).mono ?_
  rintro e w1 ⟨rfl, g⟩
  obtain ⟨y5, rfl⟩ := Wb.next (x := y4) g
  clear g
  go_wp2
  go_ret
  exact ⟨by rw [← SA.out]; rfl, KK.out y5⟩

set_option maxRecDepth 100000 in
set_option maxHeartbeats 6400000 in
theorem rprint_18_11 (d n m imm : Int) (w : World) (hr : GrI.right ⟨18, d, n, m, imm, 11⟩) (hi : ¬ imm < 0) : Calls Tryd.prog 11 #[.agg #[.int .i64 18, .int .i64 d, .int .i64 n, .int .i64 m, .int .i64 imm, .int .i64 11]] w fun e w' => e = .returned (.string (strL (printR ⟨18, d, n, m, imm, 11⟩))) ∧ Below w.heap.size w w' := by
  obtain ⟨b1, b2⟩ := GrI.imm_bd hr
  obtain ⟨dn0, dn1, dn2, dn3, dn4, dn5⟩ := reg_bd hr
  simp only at b1 b2 dn0 dn1 dn2 dn3 dn4 dn5
  have RI := Lib.hid (fun w2 => pright_is ⟨18, d, n, m, imm, 11⟩ w2 true (by simpa [encB] using hr))
  unfold iv at RI
  simp only at RI
  have RG := Lib.hid (fun w2 (n : Int) (h0 : 0 ≤ n) (h1 : n ≤ 31) => rreg_any n w2 (by omega) (by omega))
  have NU := Lib.hid (fun w2 => rnum_any imm w2 b1 b2)
  have NA := Lib.hid (fun w2 => rnames_any 18 (by decide) (by decide) w2)
  obtain ⟨nm, hnm⟩ : ∃ s, s = strL (at! names 18) := ⟨_, rfl⟩
  rw [← hnm] at NA
  have znm : nm.size = 3 := by rw [hnm]; rfl
  obtain ⟨zu, hzu⟩ : ∃ z, z = (strL (num imm)).size := ⟨_, rfl⟩
  have ezu : (strL (num imm)).size = zu := hzu.symm
  have lzu : zu ≤ 65 := by rw [hzu, strL_size]; exact itoa_len64 b1 b2
  clear hzu
  obtain ⟨c0, y0z, r0, hc0, s0, l0, n0⟩ := letter (⟨#[35]⟩ : ByteArray) (strL (num imm)) 1 zu 66 rfl ezu (by omega) (by decide)
  obtain ⟨c1, y1z, r1, hc1, s1, l1, n1⟩ := letter (⟨#[46, 43]⟩ : ByteArray) (strL (num imm)) 2 zu 67 rfl ezu (by omega) (by decide)
  have TK := Lib.hid (fun w2 => rbarrier_any 11 (by decide) w2)
  obtain ⟨tk, htk⟩ : ∃ s, s = strL (at! bars 11) := ⟨_, rfl⟩
  rw [← htk] at TK
  have ztk : tk.size = 3 := by rw [htk]; rfl
  obtain ⟨c2, y2z, r2, hc2, s2, l2, n2⟩ := letter nm (⟨#[32]⟩ : ByteArray) 3 1 4 znm rfl (by omega) (by decide)
  obtain ⟨c3, y3z, r3, hc3, s3, l3, n3⟩ := letter c2 tk y2z 3 7 s2 ztk (by omega) (by decide)
  have SA := Lib.hid (show c3 = strL (printR ⟨18, d, n, m, imm, 11⟩) by
    rw [hc3, hc2]
    rw [htk]
    rw [hnm]
    show strL (at! names 18) ++ strL [32] ++ strL (at! bars 11) = _
    rw [strL_app, strL_app]
    congr 1
    all_goals simp only [printR, Int.reduceEq, or_self, or_true, true_or, or_false, false_or, if_true, if_false, false_and, true_and, and_false, and_true, Int.reduceLE, Int.reduceLT, Int.reduceMod, and_self, reduceIte]
    all_goals simp [at!, toT, cellT, num])
  clear hr hnm hc0 hc1 hc2 hc3
  clear htk
  have i1 : decide (imm < 0) = false := by simpa using hi
  clear hi
  go_enter Tryd.func11, Tryd.ntmps11
  go_upto_region 1 with fail
  refine to_cls ?_
  intro U0 hU0 y0
  have r_b : ∀ z : Wb U0, Row z.at (w.heap.size) [.int .i64 18, .int .i64 d, .int .i64 n, .int .i64 m, .int .i64 imm, .int .i64 11] 23 := Row.next (Row.new _ [.int .i64 18, .int .i64 d, .int .i64 n, .int .i64 m, .int .i64 imm, .int .i64 11] _) hU0
  have KK := Lib.hid (KB.next (KB.alloc (Below.refl _ _) _) hU0)
  clear hU0
  obtain ⟨c_b_0, c_b_1, c_b_2, c_b_3, c_b_4, c_b_5⟩ := six r_b
  go_wp2_with fail
  refine (RI.out _).mono ?_
  rintro e w1 ⟨rfl, g⟩
  obtain ⟨y1, rfl⟩ := Wb.next (x := y0) g
  clear g
  go_wp2_with fail
  refine (NU.out _).mono ?_
  rintro e w1 ⟨rfl, g⟩
  obtain ⟨y2, rfl⟩ := Wb.next (x := y1) g
  clear g
  go_wp2_with fail
  refine (NU.out _).mono ?_
  rintro e w1 ⟨rfl, g⟩
  obtain ⟨y3, rfl⟩ := Wb.next (x := y2) g
  clear g
  go_wp2_with fail
  refine (NA.out _).mono ?_
  rintro e w1 ⟨rfl, g⟩
  obtain ⟨y4, rfl⟩ := Wb.next (x := y3) g
  clear g
  go_wp2_with fail
  refine (TK.out _).mono ?_
  rintro e w1 ⟨rfl, g⟩
  obtain ⟨y5, rfl⟩ := Wb.next (x := y4) g
  clear g
  go_wp2
  go_ret
  exact ⟨by rw [← SA.out]; rfl, KK.out y5⟩

set_option maxRecDepth 100000 in
set_option maxHeartbeats 6400000 in
theorem rprint_18_13 (d n m imm : Int) (w : World) (hr : GrI.right ⟨18, d, n, m, imm, 13⟩) (hi : ¬ imm < 0) : Calls Tryd.prog 11 #[.agg #[.int .i64 18, .int .i64 d, .int .i64 n, .int .i64 m, .int .i64 imm, .int .i64 13]] w fun e w' => e = .returned (.string (strL (printR ⟨18, d, n, m, imm, 13⟩))) ∧ Below w.heap.size w w' := by
  obtain ⟨b1, b2⟩ := GrI.imm_bd hr
  obtain ⟨dn0, dn1, dn2, dn3, dn4, dn5⟩ := reg_bd hr
  simp only at b1 b2 dn0 dn1 dn2 dn3 dn4 dn5
  have RI := Lib.hid (fun w2 => pright_is ⟨18, d, n, m, imm, 13⟩ w2 true (by simpa [encB] using hr))
  unfold iv at RI
  simp only at RI
  have RG := Lib.hid (fun w2 (n : Int) (h0 : 0 ≤ n) (h1 : n ≤ 31) => rreg_any n w2 (by omega) (by omega))
  have NU := Lib.hid (fun w2 => rnum_any imm w2 b1 b2)
  have NA := Lib.hid (fun w2 => rnames_any 18 (by decide) (by decide) w2)
  obtain ⟨nm, hnm⟩ : ∃ s, s = strL (at! names 18) := ⟨_, rfl⟩
  rw [← hnm] at NA
  have znm : nm.size = 3 := by rw [hnm]; rfl
  obtain ⟨zu, hzu⟩ : ∃ z, z = (strL (num imm)).size := ⟨_, rfl⟩
  have ezu : (strL (num imm)).size = zu := hzu.symm
  have lzu : zu ≤ 65 := by rw [hzu, strL_size]; exact itoa_len64 b1 b2
  clear hzu
  obtain ⟨c0, y0z, r0, hc0, s0, l0, n0⟩ := letter (⟨#[35]⟩ : ByteArray) (strL (num imm)) 1 zu 66 rfl ezu (by omega) (by decide)
  obtain ⟨c1, y1z, r1, hc1, s1, l1, n1⟩ := letter (⟨#[46, 43]⟩ : ByteArray) (strL (num imm)) 2 zu 67 rfl ezu (by omega) (by decide)
  have TK := Lib.hid (fun w2 => rbarrier_any 13 (by decide) w2)
  obtain ⟨tk, htk⟩ : ∃ s, s = strL (at! bars 13) := ⟨_, rfl⟩
  rw [← htk] at TK
  have ztk : tk.size = 2 := by rw [htk]; rfl
  obtain ⟨c2, y2z, r2, hc2, s2, l2, n2⟩ := letter nm (⟨#[32]⟩ : ByteArray) 3 1 4 znm rfl (by omega) (by decide)
  obtain ⟨c3, y3z, r3, hc3, s3, l3, n3⟩ := letter c2 tk y2z 2 6 s2 ztk (by omega) (by decide)
  have SA := Lib.hid (show c3 = strL (printR ⟨18, d, n, m, imm, 13⟩) by
    rw [hc3, hc2]
    rw [htk]
    rw [hnm]
    show strL (at! names 18) ++ strL [32] ++ strL (at! bars 13) = _
    rw [strL_app, strL_app]
    congr 1
    all_goals simp only [printR, Int.reduceEq, or_self, or_true, true_or, or_false, false_or, if_true, if_false, false_and, true_and, and_false, and_true, Int.reduceLE, Int.reduceLT, Int.reduceMod, and_self, reduceIte]
    all_goals simp [at!, toT, cellT, num])
  clear hr hnm hc0 hc1 hc2 hc3
  clear htk
  have i1 : decide (imm < 0) = false := by simpa using hi
  clear hi
  go_enter Tryd.func11, Tryd.ntmps11
  go_upto_region 1 with fail
  refine to_cls ?_
  intro U0 hU0 y0
  have r_b : ∀ z : Wb U0, Row z.at (w.heap.size) [.int .i64 18, .int .i64 d, .int .i64 n, .int .i64 m, .int .i64 imm, .int .i64 13] 23 := Row.next (Row.new _ [.int .i64 18, .int .i64 d, .int .i64 n, .int .i64 m, .int .i64 imm, .int .i64 13] _) hU0
  have KK := Lib.hid (KB.next (KB.alloc (Below.refl _ _) _) hU0)
  clear hU0
  obtain ⟨c_b_0, c_b_1, c_b_2, c_b_3, c_b_4, c_b_5⟩ := six r_b
  go_wp2_with fail
  refine (RI.out _).mono ?_
  rintro e w1 ⟨rfl, g⟩
  obtain ⟨y1, rfl⟩ := Wb.next (x := y0) g
  clear g
  go_wp2_with fail
  refine (NU.out _).mono ?_
  rintro e w1 ⟨rfl, g⟩
  obtain ⟨y2, rfl⟩ := Wb.next (x := y1) g
  clear g
  go_wp2_with fail
  refine (NU.out _).mono ?_
  rintro e w1 ⟨rfl, g⟩
  obtain ⟨y3, rfl⟩ := Wb.next (x := y2) g
  clear g
  go_wp2_with fail
  refine (NA.out _).mono ?_
  rintro e w1 ⟨rfl, g⟩
  obtain ⟨y4, rfl⟩ := Wb.next (x := y3) g
  clear g
  go_wp2_with fail
  refine (TK.out _).mono ?_
  rintro e w1 ⟨rfl, g⟩
  obtain ⟨y5, rfl⟩ := Wb.next (x := y4) g
  clear g
  go_wp2
  go_ret
  exact ⟨by rw [← SA.out]; rfl, KK.out y5⟩

set_option maxRecDepth 100000 in
set_option maxHeartbeats 6400000 in
theorem rprint_18_14 (d n m imm : Int) (w : World) (hr : GrI.right ⟨18, d, n, m, imm, 14⟩) (hi : ¬ imm < 0) : Calls Tryd.prog 11 #[.agg #[.int .i64 18, .int .i64 d, .int .i64 n, .int .i64 m, .int .i64 imm, .int .i64 14]] w fun e w' => e = .returned (.string (strL (printR ⟨18, d, n, m, imm, 14⟩))) ∧ Below w.heap.size w w' := by
  obtain ⟨b1, b2⟩ := GrI.imm_bd hr
  obtain ⟨dn0, dn1, dn2, dn3, dn4, dn5⟩ := reg_bd hr
  simp only at b1 b2 dn0 dn1 dn2 dn3 dn4 dn5
  have RI := Lib.hid (fun w2 => pright_is ⟨18, d, n, m, imm, 14⟩ w2 true (by simpa [encB] using hr))
  unfold iv at RI
  simp only at RI
  have RG := Lib.hid (fun w2 (n : Int) (h0 : 0 ≤ n) (h1 : n ≤ 31) => rreg_any n w2 (by omega) (by omega))
  have NU := Lib.hid (fun w2 => rnum_any imm w2 b1 b2)
  have NA := Lib.hid (fun w2 => rnames_any 18 (by decide) (by decide) w2)
  obtain ⟨nm, hnm⟩ : ∃ s, s = strL (at! names 18) := ⟨_, rfl⟩
  rw [← hnm] at NA
  have znm : nm.size = 3 := by rw [hnm]; rfl
  obtain ⟨zu, hzu⟩ : ∃ z, z = (strL (num imm)).size := ⟨_, rfl⟩
  have ezu : (strL (num imm)).size = zu := hzu.symm
  have lzu : zu ≤ 65 := by rw [hzu, strL_size]; exact itoa_len64 b1 b2
  clear hzu
  obtain ⟨c0, y0z, r0, hc0, s0, l0, n0⟩ := letter (⟨#[35]⟩ : ByteArray) (strL (num imm)) 1 zu 66 rfl ezu (by omega) (by decide)
  obtain ⟨c1, y1z, r1, hc1, s1, l1, n1⟩ := letter (⟨#[46, 43]⟩ : ByteArray) (strL (num imm)) 2 zu 67 rfl ezu (by omega) (by decide)
  have TK := Lib.hid (fun w2 => rbarrier_any 14 (by decide) w2)
  obtain ⟨tk, htk⟩ : ∃ s, s = strL (at! bars 14) := ⟨_, rfl⟩
  rw [← htk] at TK
  have ztk : tk.size = 2 := by rw [htk]; rfl
  obtain ⟨c2, y2z, r2, hc2, s2, l2, n2⟩ := letter nm (⟨#[32]⟩ : ByteArray) 3 1 4 znm rfl (by omega) (by decide)
  obtain ⟨c3, y3z, r3, hc3, s3, l3, n3⟩ := letter c2 tk y2z 2 6 s2 ztk (by omega) (by decide)
  have SA := Lib.hid (show c3 = strL (printR ⟨18, d, n, m, imm, 14⟩) by
    rw [hc3, hc2]
    rw [htk]
    rw [hnm]
    show strL (at! names 18) ++ strL [32] ++ strL (at! bars 14) = _
    rw [strL_app, strL_app]
    congr 1
    all_goals simp only [printR, Int.reduceEq, or_self, or_true, true_or, or_false, false_or, if_true, if_false, false_and, true_and, and_false, and_true, Int.reduceLE, Int.reduceLT, Int.reduceMod, and_self, reduceIte]
    all_goals simp [at!, toT, cellT, num])
  clear hr hnm hc0 hc1 hc2 hc3
  clear htk
  have i1 : decide (imm < 0) = false := by simpa using hi
  clear hi
  go_enter Tryd.func11, Tryd.ntmps11
  go_upto_region 1 with fail
  refine to_cls ?_
  intro U0 hU0 y0
  have r_b : ∀ z : Wb U0, Row z.at (w.heap.size) [.int .i64 18, .int .i64 d, .int .i64 n, .int .i64 m, .int .i64 imm, .int .i64 14] 23 := Row.next (Row.new _ [.int .i64 18, .int .i64 d, .int .i64 n, .int .i64 m, .int .i64 imm, .int .i64 14] _) hU0
  have KK := Lib.hid (KB.next (KB.alloc (Below.refl _ _) _) hU0)
  clear hU0
  obtain ⟨c_b_0, c_b_1, c_b_2, c_b_3, c_b_4, c_b_5⟩ := six r_b
  go_wp2_with fail
  refine (RI.out _).mono ?_
  rintro e w1 ⟨rfl, g⟩
  obtain ⟨y1, rfl⟩ := Wb.next (x := y0) g
  clear g
  go_wp2_with fail
  refine (NU.out _).mono ?_
  rintro e w1 ⟨rfl, g⟩
  obtain ⟨y2, rfl⟩ := Wb.next (x := y1) g
  clear g
  go_wp2_with fail
  refine (NU.out _).mono ?_
  rintro e w1 ⟨rfl, g⟩
  obtain ⟨y3, rfl⟩ := Wb.next (x := y2) g
  clear g
  go_wp2_with fail
  refine (NA.out _).mono ?_
  rintro e w1 ⟨rfl, g⟩
  obtain ⟨y4, rfl⟩ := Wb.next (x := y3) g
  clear g
  go_wp2_with fail
  refine (TK.out _).mono ?_
  rintro e w1 ⟨rfl, g⟩
  obtain ⟨y5, rfl⟩ := Wb.next (x := y4) g
  clear g
  go_wp2
  go_ret
  exact ⟨by rw [← SA.out]; rfl, KK.out y5⟩

set_option maxRecDepth 100000 in
set_option maxHeartbeats 6400000 in
theorem rprint_18_15 (d n m imm : Int) (w : World) (hr : GrI.right ⟨18, d, n, m, imm, 15⟩) (hi : ¬ imm < 0) : Calls Tryd.prog 11 #[.agg #[.int .i64 18, .int .i64 d, .int .i64 n, .int .i64 m, .int .i64 imm, .int .i64 15]] w fun e w' => e = .returned (.string (strL (printR ⟨18, d, n, m, imm, 15⟩))) ∧ Below w.heap.size w w' := by
  obtain ⟨b1, b2⟩ := GrI.imm_bd hr
  obtain ⟨dn0, dn1, dn2, dn3, dn4, dn5⟩ := reg_bd hr
  simp only at b1 b2 dn0 dn1 dn2 dn3 dn4 dn5
  have RI := Lib.hid (fun w2 => pright_is ⟨18, d, n, m, imm, 15⟩ w2 true (by simpa [encB] using hr))
  unfold iv at RI
  simp only at RI
  have RG := Lib.hid (fun w2 (n : Int) (h0 : 0 ≤ n) (h1 : n ≤ 31) => rreg_any n w2 (by omega) (by omega))
  have NU := Lib.hid (fun w2 => rnum_any imm w2 b1 b2)
  have NA := Lib.hid (fun w2 => rnames_any 18 (by decide) (by decide) w2)
  obtain ⟨nm, hnm⟩ : ∃ s, s = strL (at! names 18) := ⟨_, rfl⟩
  rw [← hnm] at NA
  have znm : nm.size = 3 := by rw [hnm]; rfl
  obtain ⟨zu, hzu⟩ : ∃ z, z = (strL (num imm)).size := ⟨_, rfl⟩
  have ezu : (strL (num imm)).size = zu := hzu.symm
  have lzu : zu ≤ 65 := by rw [hzu, strL_size]; exact itoa_len64 b1 b2
  clear hzu
  obtain ⟨c0, y0z, r0, hc0, s0, l0, n0⟩ := letter (⟨#[35]⟩ : ByteArray) (strL (num imm)) 1 zu 66 rfl ezu (by omega) (by decide)
  obtain ⟨c1, y1z, r1, hc1, s1, l1, n1⟩ := letter (⟨#[46, 43]⟩ : ByteArray) (strL (num imm)) 2 zu 67 rfl ezu (by omega) (by decide)
  have TK := Lib.hid (fun w2 => rbarrier_any 15 (by decide) w2)
  obtain ⟨tk, htk⟩ : ∃ s, s = strL (at! bars 15) := ⟨_, rfl⟩
  rw [← htk] at TK
  have ztk : tk.size = 2 := by rw [htk]; rfl
  obtain ⟨c2, y2z, r2, hc2, s2, l2, n2⟩ := letter nm (⟨#[32]⟩ : ByteArray) 3 1 4 znm rfl (by omega) (by decide)
  obtain ⟨c3, y3z, r3, hc3, s3, l3, n3⟩ := letter c2 tk y2z 2 6 s2 ztk (by omega) (by decide)
  have SA := Lib.hid (show c3 = strL (printR ⟨18, d, n, m, imm, 15⟩) by
    rw [hc3, hc2]
    rw [htk]
    rw [hnm]
    show strL (at! names 18) ++ strL [32] ++ strL (at! bars 15) = _
    rw [strL_app, strL_app]
    congr 1
    all_goals simp only [printR, Int.reduceEq, or_self, or_true, true_or, or_false, false_or, if_true, if_false, false_and, true_and, and_false, and_true, Int.reduceLE, Int.reduceLT, Int.reduceMod, and_self, reduceIte]
    all_goals simp [at!, toT, cellT, num])
  clear hr hnm hc0 hc1 hc2 hc3
  clear htk
  have i1 : decide (imm < 0) = false := by simpa using hi
  clear hi
  go_enter Tryd.func11, Tryd.ntmps11
  go_upto_region 1 with fail
  refine to_cls ?_
  intro U0 hU0 y0
  have r_b : ∀ z : Wb U0, Row z.at (w.heap.size) [.int .i64 18, .int .i64 d, .int .i64 n, .int .i64 m, .int .i64 imm, .int .i64 15] 23 := Row.next (Row.new _ [.int .i64 18, .int .i64 d, .int .i64 n, .int .i64 m, .int .i64 imm, .int .i64 15] _) hU0
  have KK := Lib.hid (KB.next (KB.alloc (Below.refl _ _) _) hU0)
  clear hU0
  obtain ⟨c_b_0, c_b_1, c_b_2, c_b_3, c_b_4, c_b_5⟩ := six r_b
  go_wp2_with fail
  refine (RI.out _).mono ?_
  rintro e w1 ⟨rfl, g⟩
  obtain ⟨y1, rfl⟩ := Wb.next (x := y0) g
  clear g
  go_wp2_with fail
  refine (NU.out _).mono ?_
  rintro e w1 ⟨rfl, g⟩
  obtain ⟨y2, rfl⟩ := Wb.next (x := y1) g
  clear g
  go_wp2_with fail
  refine (NU.out _).mono ?_
  rintro e w1 ⟨rfl, g⟩
  obtain ⟨y3, rfl⟩ := Wb.next (x := y2) g
  clear g
  go_wp2_with fail
  refine (NA.out _).mono ?_
  rintro e w1 ⟨rfl, g⟩
  obtain ⟨y4, rfl⟩ := Wb.next (x := y3) g
  clear g
  go_wp2_with fail
  refine (TK.out _).mono ?_
  rintro e w1 ⟨rfl, g⟩
  obtain ⟨y5, rfl⟩ := Wb.next (x := y4) g
  clear g
  go_wp2
  go_ret
  exact ⟨by rw [← SA.out]; rfl, KK.out y5⟩

set_option maxRecDepth 100000 in
set_option maxHeartbeats 6400000 in
theorem rprint_19_9 (d n m imm : Int) (w : World) (hr : GrI.right ⟨19, d, n, m, imm, 9⟩) (hi : ¬ imm < 0) : Calls Tryd.prog 11 #[.agg #[.int .i64 19, .int .i64 d, .int .i64 n, .int .i64 m, .int .i64 imm, .int .i64 9]] w fun e w' => e = .returned (.string (strL (printR ⟨19, d, n, m, imm, 9⟩))) ∧ Below w.heap.size w w' := by
  obtain ⟨b1, b2⟩ := GrI.imm_bd hr
  obtain ⟨dn0, dn1, dn2, dn3, dn4, dn5⟩ := reg_bd hr
  simp only at b1 b2 dn0 dn1 dn2 dn3 dn4 dn5
  have RI := Lib.hid (fun w2 => pright_is ⟨19, d, n, m, imm, 9⟩ w2 true (by simpa [encB] using hr))
  unfold iv at RI
  simp only at RI
  have RG := Lib.hid (fun w2 (n : Int) (h0 : 0 ≤ n) (h1 : n ≤ 31) => rreg_any n w2 (by omega) (by omega))
  have NU := Lib.hid (fun w2 => rnum_any imm w2 b1 b2)
  have NA := Lib.hid (fun w2 => rnames_any 19 (by decide) (by decide) w2)
  obtain ⟨nm, hnm⟩ : ∃ s, s = strL (at! names 19) := ⟨_, rfl⟩
  rw [← hnm] at NA
  have znm : nm.size = 3 := by rw [hnm]; rfl
  obtain ⟨zu, hzu⟩ : ∃ z, z = (strL (num imm)).size := ⟨_, rfl⟩
  have ezu : (strL (num imm)).size = zu := hzu.symm
  have lzu : zu ≤ 65 := by rw [hzu, strL_size]; exact itoa_len64 b1 b2
  clear hzu
  obtain ⟨c0, y0z, r0, hc0, s0, l0, n0⟩ := letter (⟨#[35]⟩ : ByteArray) (strL (num imm)) 1 zu 66 rfl ezu (by omega) (by decide)
  obtain ⟨c1, y1z, r1, hc1, s1, l1, n1⟩ := letter (⟨#[46, 43]⟩ : ByteArray) (strL (num imm)) 2 zu 67 rfl ezu (by omega) (by decide)
  have TK := Lib.hid (fun w2 => rbarrier_any 9 (by decide) w2)
  obtain ⟨tk, htk⟩ : ∃ s, s = strL (at! bars 9) := ⟨_, rfl⟩
  rw [← htk] at TK
  have ztk : tk.size = 5 := by rw [htk]; rfl
  obtain ⟨c2, y2z, r2, hc2, s2, l2, n2⟩ := letter nm (⟨#[32]⟩ : ByteArray) 3 1 4 znm rfl (by omega) (by decide)
  obtain ⟨c3, y3z, r3, hc3, s3, l3, n3⟩ := letter c2 tk y2z 5 9 s2 ztk (by omega) (by decide)
  have SA := Lib.hid (show c3 = strL (printR ⟨19, d, n, m, imm, 9⟩) by
    rw [hc3, hc2]
    rw [htk]
    rw [hnm]
    show strL (at! names 19) ++ strL [32] ++ strL (at! bars 9) = _
    rw [strL_app, strL_app]
    congr 1
    all_goals simp only [printR, Int.reduceEq, or_self, or_true, true_or, or_false, false_or, if_true, if_false, false_and, true_and, and_false, and_true, Int.reduceLE, Int.reduceLT, Int.reduceMod, and_self, reduceIte]
    all_goals simp [at!, toT, cellT, num])
  clear hr hnm hc0 hc1 hc2 hc3
  clear htk
  have i1 : decide (imm < 0) = false := by simpa using hi
  clear hi
  go_enter Tryd.func11, Tryd.ntmps11
  go_upto_region 1 with fail
  refine to_cls ?_
  intro U0 hU0 y0
  have r_b : ∀ z : Wb U0, Row z.at (w.heap.size) [.int .i64 19, .int .i64 d, .int .i64 n, .int .i64 m, .int .i64 imm, .int .i64 9] 23 := Row.next (Row.new _ [.int .i64 19, .int .i64 d, .int .i64 n, .int .i64 m, .int .i64 imm, .int .i64 9] _) hU0
  have KK := Lib.hid (KB.next (KB.alloc (Below.refl _ _) _) hU0)
  clear hU0
  obtain ⟨c_b_0, c_b_1, c_b_2, c_b_3, c_b_4, c_b_5⟩ := six r_b
  go_wp2_with fail
  refine (RI.out _).mono ?_
  rintro e w1 ⟨rfl, g⟩
  obtain ⟨y1, rfl⟩ := Wb.next (x := y0) g
  clear g
  go_wp2_with fail
  refine (NU.out _).mono ?_
  rintro e w1 ⟨rfl, g⟩
  obtain ⟨y2, rfl⟩ := Wb.next (x := y1) g
  clear g
  go_wp2_with fail
  refine (NU.out _).mono ?_
  rintro e w1 ⟨rfl, g⟩
  obtain ⟨y3, rfl⟩ := Wb.next (x := y2) g
  clear g
  go_wp2_with fail
  refine (NA.out _).mono ?_
  rintro e w1 ⟨rfl, g⟩
  obtain ⟨y4, rfl⟩ := Wb.next (x := y3) g
  clear g
  go_wp2_with fail
  refine (TK.out _).mono ?_
  rintro e w1 ⟨rfl, g⟩
  obtain ⟨y5, rfl⟩ := Wb.next (x := y4) g
  clear g
  go_wp2
  go_ret
  exact ⟨by rw [← SA.out]; rfl, KK.out y5⟩

set_option maxRecDepth 100000 in
set_option maxHeartbeats 6400000 in
theorem rprint_19_10 (d n m imm : Int) (w : World) (hr : GrI.right ⟨19, d, n, m, imm, 10⟩) (hi : ¬ imm < 0) : Calls Tryd.prog 11 #[.agg #[.int .i64 19, .int .i64 d, .int .i64 n, .int .i64 m, .int .i64 imm, .int .i64 10]] w fun e w' => e = .returned (.string (strL (printR ⟨19, d, n, m, imm, 10⟩))) ∧ Below w.heap.size w w' := by
  obtain ⟨b1, b2⟩ := GrI.imm_bd hr
  obtain ⟨dn0, dn1, dn2, dn3, dn4, dn5⟩ := reg_bd hr
  simp only at b1 b2 dn0 dn1 dn2 dn3 dn4 dn5
  have RI := Lib.hid (fun w2 => pright_is ⟨19, d, n, m, imm, 10⟩ w2 true (by simpa [encB] using hr))
  unfold iv at RI
  simp only at RI
  have RG := Lib.hid (fun w2 (n : Int) (h0 : 0 ≤ n) (h1 : n ≤ 31) => rreg_any n w2 (by omega) (by omega))
  have NU := Lib.hid (fun w2 => rnum_any imm w2 b1 b2)
  have NA := Lib.hid (fun w2 => rnames_any 19 (by decide) (by decide) w2)
  obtain ⟨nm, hnm⟩ : ∃ s, s = strL (at! names 19) := ⟨_, rfl⟩
  rw [← hnm] at NA
  have znm : nm.size = 3 := by rw [hnm]; rfl
  obtain ⟨zu, hzu⟩ : ∃ z, z = (strL (num imm)).size := ⟨_, rfl⟩
  have ezu : (strL (num imm)).size = zu := hzu.symm
  have lzu : zu ≤ 65 := by rw [hzu, strL_size]; exact itoa_len64 b1 b2
  clear hzu
  obtain ⟨c0, y0z, r0, hc0, s0, l0, n0⟩ := letter (⟨#[35]⟩ : ByteArray) (strL (num imm)) 1 zu 66 rfl ezu (by omega) (by decide)
  obtain ⟨c1, y1z, r1, hc1, s1, l1, n1⟩ := letter (⟨#[46, 43]⟩ : ByteArray) (strL (num imm)) 2 zu 67 rfl ezu (by omega) (by decide)
  have TK := Lib.hid (fun w2 => rbarrier_any 10 (by decide) w2)
  obtain ⟨tk, htk⟩ : ∃ s, s = strL (at! bars 10) := ⟨_, rfl⟩
  rw [← htk] at TK
  have ztk : tk.size = 5 := by rw [htk]; rfl
  obtain ⟨c2, y2z, r2, hc2, s2, l2, n2⟩ := letter nm (⟨#[32]⟩ : ByteArray) 3 1 4 znm rfl (by omega) (by decide)
  obtain ⟨c3, y3z, r3, hc3, s3, l3, n3⟩ := letter c2 tk y2z 5 9 s2 ztk (by omega) (by decide)
  have SA := Lib.hid (show c3 = strL (printR ⟨19, d, n, m, imm, 10⟩) by
    rw [hc3, hc2]
    rw [htk]
    rw [hnm]
    show strL (at! names 19) ++ strL [32] ++ strL (at! bars 10) = _
    rw [strL_app, strL_app]
    congr 1
    all_goals simp only [printR, Int.reduceEq, or_self, or_true, true_or, or_false, false_or, if_true, if_false, false_and, true_and, and_false, and_true, Int.reduceLE, Int.reduceLT, Int.reduceMod, and_self, reduceIte]
    all_goals simp [at!, toT, cellT, num])
  clear hr hnm hc0 hc1 hc2 hc3
  clear htk
  have i1 : decide (imm < 0) = false := by simpa using hi
  clear hi
  go_enter Tryd.func11, Tryd.ntmps11
  go_upto_region 1 with fail
  refine to_cls ?_
  intro U0 hU0 y0
  have r_b : ∀ z : Wb U0, Row z.at (w.heap.size) [.int .i64 19, .int .i64 d, .int .i64 n, .int .i64 m, .int .i64 imm, .int .i64 10] 23 := Row.next (Row.new _ [.int .i64 19, .int .i64 d, .int .i64 n, .int .i64 m, .int .i64 imm, .int .i64 10] _) hU0
  have KK := Lib.hid (KB.next (KB.alloc (Below.refl _ _) _) hU0)
  clear hU0
  obtain ⟨c_b_0, c_b_1, c_b_2, c_b_3, c_b_4, c_b_5⟩ := six r_b
  go_wp2_with fail
  refine (RI.out _).mono ?_
  rintro e w1 ⟨rfl, g⟩
  obtain ⟨y1, rfl⟩ := Wb.next (x := y0) g
  clear g
  go_wp2_with fail
  refine (NU.out _).mono ?_
  rintro e w1 ⟨rfl, g⟩
  obtain ⟨y2, rfl⟩ := Wb.next (x := y1) g
  clear g
  go_wp2_with fail
  refine (NU.out _).mono ?_
  rintro e w1 ⟨rfl, g⟩
  obtain ⟨y3, rfl⟩ := Wb.next (x := y2) g
  clear g
  go_wp2_with fail
  refine (NA.out _).mono ?_
  rintro e w1 ⟨rfl, g⟩
  obtain ⟨y4, rfl⟩ := Wb.next (x := y3) g
  clear g
  go_wp2_with fail
  refine (TK.out _).mono ?_
  rintro e w1 ⟨rfl, g⟩
  obtain ⟨y5, rfl⟩ := Wb.next (x := y4) g
  clear g
  go_wp2
  go_ret
  exact ⟨by rw [← SA.out]; rfl, KK.out y5⟩

set_option maxRecDepth 100000 in
set_option maxHeartbeats 6400000 in
theorem rprint_19_11 (d n m imm : Int) (w : World) (hr : GrI.right ⟨19, d, n, m, imm, 11⟩) (hi : ¬ imm < 0) : Calls Tryd.prog 11 #[.agg #[.int .i64 19, .int .i64 d, .int .i64 n, .int .i64 m, .int .i64 imm, .int .i64 11]] w fun e w' => e = .returned (.string (strL (printR ⟨19, d, n, m, imm, 11⟩))) ∧ Below w.heap.size w w' := by
  obtain ⟨b1, b2⟩ := GrI.imm_bd hr
  obtain ⟨dn0, dn1, dn2, dn3, dn4, dn5⟩ := reg_bd hr
  simp only at b1 b2 dn0 dn1 dn2 dn3 dn4 dn5
  have RI := Lib.hid (fun w2 => pright_is ⟨19, d, n, m, imm, 11⟩ w2 true (by simpa [encB] using hr))
  unfold iv at RI
  simp only at RI
  have RG := Lib.hid (fun w2 (n : Int) (h0 : 0 ≤ n) (h1 : n ≤ 31) => rreg_any n w2 (by omega) (by omega))
  have NU := Lib.hid (fun w2 => rnum_any imm w2 b1 b2)
  have NA := Lib.hid (fun w2 => rnames_any 19 (by decide) (by decide) w2)
  obtain ⟨nm, hnm⟩ : ∃ s, s = strL (at! names 19) := ⟨_, rfl⟩
  rw [← hnm] at NA
  have znm : nm.size = 3 := by rw [hnm]; rfl
  obtain ⟨zu, hzu⟩ : ∃ z, z = (strL (num imm)).size := ⟨_, rfl⟩
  have ezu : (strL (num imm)).size = zu := hzu.symm
  have lzu : zu ≤ 65 := by rw [hzu, strL_size]; exact itoa_len64 b1 b2
  clear hzu
  obtain ⟨c0, y0z, r0, hc0, s0, l0, n0⟩ := letter (⟨#[35]⟩ : ByteArray) (strL (num imm)) 1 zu 66 rfl ezu (by omega) (by decide)
  obtain ⟨c1, y1z, r1, hc1, s1, l1, n1⟩ := letter (⟨#[46, 43]⟩ : ByteArray) (strL (num imm)) 2 zu 67 rfl ezu (by omega) (by decide)
  have TK := Lib.hid (fun w2 => rbarrier_any 11 (by decide) w2)
  obtain ⟨tk, htk⟩ : ∃ s, s = strL (at! bars 11) := ⟨_, rfl⟩
  rw [← htk] at TK
  have ztk : tk.size = 3 := by rw [htk]; rfl
  obtain ⟨c2, y2z, r2, hc2, s2, l2, n2⟩ := letter nm (⟨#[32]⟩ : ByteArray) 3 1 4 znm rfl (by omega) (by decide)
  obtain ⟨c3, y3z, r3, hc3, s3, l3, n3⟩ := letter c2 tk y2z 3 7 s2 ztk (by omega) (by decide)
  have SA := Lib.hid (show c3 = strL (printR ⟨19, d, n, m, imm, 11⟩) by
    rw [hc3, hc2]
    rw [htk]
    rw [hnm]
    show strL (at! names 19) ++ strL [32] ++ strL (at! bars 11) = _
    rw [strL_app, strL_app]
    congr 1
    all_goals simp only [printR, Int.reduceEq, or_self, or_true, true_or, or_false, false_or, if_true, if_false, false_and, true_and, and_false, and_true, Int.reduceLE, Int.reduceLT, Int.reduceMod, and_self, reduceIte]
    all_goals simp [at!, toT, cellT, num])
  clear hr hnm hc0 hc1 hc2 hc3
  clear htk
  have i1 : decide (imm < 0) = false := by simpa using hi
  clear hi
  go_enter Tryd.func11, Tryd.ntmps11
  go_upto_region 1 with fail
  refine to_cls ?_
  intro U0 hU0 y0
  have r_b : ∀ z : Wb U0, Row z.at (w.heap.size) [.int .i64 19, .int .i64 d, .int .i64 n, .int .i64 m, .int .i64 imm, .int .i64 11] 23 := Row.next (Row.new _ [.int .i64 19, .int .i64 d, .int .i64 n, .int .i64 m, .int .i64 imm, .int .i64 11] _) hU0
  have KK := Lib.hid (KB.next (KB.alloc (Below.refl _ _) _) hU0)
  clear hU0
  obtain ⟨c_b_0, c_b_1, c_b_2, c_b_3, c_b_4, c_b_5⟩ := six r_b
  go_wp2_with fail
  refine (RI.out _).mono ?_
  rintro e w1 ⟨rfl, g⟩
  obtain ⟨y1, rfl⟩ := Wb.next (x := y0) g
  clear g
  go_wp2_with fail
  refine (NU.out _).mono ?_
  rintro e w1 ⟨rfl, g⟩
  obtain ⟨y2, rfl⟩ := Wb.next (x := y1) g
  clear g
  go_wp2_with fail
  refine (NU.out _).mono ?_
  rintro e w1 ⟨rfl, g⟩
  obtain ⟨y3, rfl⟩ := Wb.next (x := y2) g
  clear g
  go_wp2_with fail
  refine (NA.out _).mono ?_
  rintro e w1 ⟨rfl, g⟩
  obtain ⟨y4, rfl⟩ := Wb.next (x := y3) g
  clear g
  go_wp2_with fail
  refine (TK.out _).mono ?_
  rintro e w1 ⟨rfl, g⟩
  obtain ⟨y5, rfl⟩ := Wb.next (x := y4) g
  clear g
  go_wp2
  go_ret
  exact ⟨by rw [← SA.out]; rfl, KK.out y5⟩

set_option maxRecDepth 100000 in
set_option maxHeartbeats 6400000 in
theorem rprint_19_13 (d n m imm : Int) (w : World) (hr : GrI.right ⟨19, d, n, m, imm, 13⟩) (hi : ¬ imm < 0) : Calls Tryd.prog 11 #[.agg #[.int .i64 19, .int .i64 d, .int .i64 n, .int .i64 m, .int .i64 imm, .int .i64 13]] w fun e w' => e = .returned (.string (strL (printR ⟨19, d, n, m, imm, 13⟩))) ∧ Below w.heap.size w w' := by
  obtain ⟨b1, b2⟩ := GrI.imm_bd hr
  obtain ⟨dn0, dn1, dn2, dn3, dn4, dn5⟩ := reg_bd hr
  simp only at b1 b2 dn0 dn1 dn2 dn3 dn4 dn5
  have RI := Lib.hid (fun w2 => pright_is ⟨19, d, n, m, imm, 13⟩ w2 true (by simpa [encB] using hr))
  unfold iv at RI
  simp only at RI
  have RG := Lib.hid (fun w2 (n : Int) (h0 : 0 ≤ n) (h1 : n ≤ 31) => rreg_any n w2 (by omega) (by omega))
  have NU := Lib.hid (fun w2 => rnum_any imm w2 b1 b2)
  have NA := Lib.hid (fun w2 => rnames_any 19 (by decide) (by decide) w2)
  obtain ⟨nm, hnm⟩ : ∃ s, s = strL (at! names 19) := ⟨_, rfl⟩
  rw [← hnm] at NA
  have znm : nm.size = 3 := by rw [hnm]; rfl
  obtain ⟨zu, hzu⟩ : ∃ z, z = (strL (num imm)).size := ⟨_, rfl⟩
  have ezu : (strL (num imm)).size = zu := hzu.symm
  have lzu : zu ≤ 65 := by rw [hzu, strL_size]; exact itoa_len64 b1 b2
  clear hzu
  obtain ⟨c0, y0z, r0, hc0, s0, l0, n0⟩ := letter (⟨#[35]⟩ : ByteArray) (strL (num imm)) 1 zu 66 rfl ezu (by omega) (by decide)
  obtain ⟨c1, y1z, r1, hc1, s1, l1, n1⟩ := letter (⟨#[46, 43]⟩ : ByteArray) (strL (num imm)) 2 zu 67 rfl ezu (by omega) (by decide)
  have TK := Lib.hid (fun w2 => rbarrier_any 13 (by decide) w2)
  obtain ⟨tk, htk⟩ : ∃ s, s = strL (at! bars 13) := ⟨_, rfl⟩
  rw [← htk] at TK
  have ztk : tk.size = 2 := by rw [htk]; rfl
  obtain ⟨c2, y2z, r2, hc2, s2, l2, n2⟩ := letter nm (⟨#[32]⟩ : ByteArray) 3 1 4 znm rfl (by omega) (by decide)
  obtain ⟨c3, y3z, r3, hc3, s3, l3, n3⟩ := letter c2 tk y2z 2 6 s2 ztk (by omega) (by decide)
  have SA := Lib.hid (show c3 = strL (printR ⟨19, d, n, m, imm, 13⟩) by
    rw [hc3, hc2]
    rw [htk]
    rw [hnm]
    show strL (at! names 19) ++ strL [32] ++ strL (at! bars 13) = _
    rw [strL_app, strL_app]
    congr 1
    all_goals simp only [printR, Int.reduceEq, or_self, or_true, true_or, or_false, false_or, if_true, if_false, false_and, true_and, and_false, and_true, Int.reduceLE, Int.reduceLT, Int.reduceMod, and_self, reduceIte]
    all_goals simp [at!, toT, cellT, num])
  clear hr hnm hc0 hc1 hc2 hc3
  clear htk
  have i1 : decide (imm < 0) = false := by simpa using hi
  clear hi
  go_enter Tryd.func11, Tryd.ntmps11
  go_upto_region 1 with fail
  refine to_cls ?_
  intro U0 hU0 y0
  have r_b : ∀ z : Wb U0, Row z.at (w.heap.size) [.int .i64 19, .int .i64 d, .int .i64 n, .int .i64 m, .int .i64 imm, .int .i64 13] 23 := Row.next (Row.new _ [.int .i64 19, .int .i64 d, .int .i64 n, .int .i64 m, .int .i64 imm, .int .i64 13] _) hU0
  have KK := Lib.hid (KB.next (KB.alloc (Below.refl _ _) _) hU0)
  clear hU0
  obtain ⟨c_b_0, c_b_1, c_b_2, c_b_3, c_b_4, c_b_5⟩ := six r_b
  go_wp2_with fail
  refine (RI.out _).mono ?_
  rintro e w1 ⟨rfl, g⟩
  obtain ⟨y1, rfl⟩ := Wb.next (x := y0) g
  clear g
  go_wp2_with fail
  refine (NU.out _).mono ?_
  rintro e w1 ⟨rfl, g⟩
  obtain ⟨y2, rfl⟩ := Wb.next (x := y1) g
  clear g
  go_wp2_with fail
  refine (NU.out _).mono ?_
  rintro e w1 ⟨rfl, g⟩
  obtain ⟨y3, rfl⟩ := Wb.next (x := y2) g
  clear g
  go_wp2_with fail
  refine (NA.out _).mono ?_
  rintro e w1 ⟨rfl, g⟩
  obtain ⟨y4, rfl⟩ := Wb.next (x := y3) g
  clear g
  go_wp2_with fail
  refine (TK.out _).mono ?_
  rintro e w1 ⟨rfl, g⟩
  obtain ⟨y5, rfl⟩ := Wb.next (x := y4) g
  clear g
  go_wp2
  go_ret
  exact ⟨by rw [← SA.out]; rfl, KK.out y5⟩

set_option maxRecDepth 100000 in
set_option maxHeartbeats 6400000 in
theorem rprint_19_14 (d n m imm : Int) (w : World) (hr : GrI.right ⟨19, d, n, m, imm, 14⟩) (hi : ¬ imm < 0) : Calls Tryd.prog 11 #[.agg #[.int .i64 19, .int .i64 d, .int .i64 n, .int .i64 m, .int .i64 imm, .int .i64 14]] w fun e w' => e = .returned (.string (strL (printR ⟨19, d, n, m, imm, 14⟩))) ∧ Below w.heap.size w w' := by
  obtain ⟨b1, b2⟩ := GrI.imm_bd hr
  obtain ⟨dn0, dn1, dn2, dn3, dn4, dn5⟩ := reg_bd hr
  simp only at b1 b2 dn0 dn1 dn2 dn3 dn4 dn5
  have RI := Lib.hid (fun w2 => pright_is ⟨19, d, n, m, imm, 14⟩ w2 true (by simpa [encB] using hr))
  unfold iv at RI
  simp only at RI
  have RG := Lib.hid (fun w2 (n : Int) (h0 : 0 ≤ n) (h1 : n ≤ 31) => rreg_any n w2 (by omega) (by omega))
  have NU := Lib.hid (fun w2 => rnum_any imm w2 b1 b2)
  have NA := Lib.hid (fun w2 => rnames_any 19 (by decide) (by decide) w2)
  obtain ⟨nm, hnm⟩ : ∃ s, s = strL (at! names 19) := ⟨_, rfl⟩
  rw [← hnm] at NA
  have znm : nm.size = 3 := by rw [hnm]; rfl
  obtain ⟨zu, hzu⟩ : ∃ z, z = (strL (num imm)).size := ⟨_, rfl⟩
  have ezu : (strL (num imm)).size = zu := hzu.symm
  have lzu : zu ≤ 65 := by rw [hzu, strL_size]; exact itoa_len64 b1 b2
  clear hzu
  obtain ⟨c0, y0z, r0, hc0, s0, l0, n0⟩ := letter (⟨#[35]⟩ : ByteArray) (strL (num imm)) 1 zu 66 rfl ezu (by omega) (by decide)
  obtain ⟨c1, y1z, r1, hc1, s1, l1, n1⟩ := letter (⟨#[46, 43]⟩ : ByteArray) (strL (num imm)) 2 zu 67 rfl ezu (by omega) (by decide)
  have TK := Lib.hid (fun w2 => rbarrier_any 14 (by decide) w2)
  obtain ⟨tk, htk⟩ : ∃ s, s = strL (at! bars 14) := ⟨_, rfl⟩
  rw [← htk] at TK
  have ztk : tk.size = 2 := by rw [htk]; rfl
  obtain ⟨c2, y2z, r2, hc2, s2, l2, n2⟩ := letter nm (⟨#[32]⟩ : ByteArray) 3 1 4 znm rfl (by omega) (by decide)
  obtain ⟨c3, y3z, r3, hc3, s3, l3, n3⟩ := letter c2 tk y2z 2 6 s2 ztk (by omega) (by decide)
  have SA := Lib.hid (show c3 = strL (printR ⟨19, d, n, m, imm, 14⟩) by
    rw [hc3, hc2]
    rw [htk]
    rw [hnm]
    show strL (at! names 19) ++ strL [32] ++ strL (at! bars 14) = _
    rw [strL_app, strL_app]
    congr 1
    all_goals simp only [printR, Int.reduceEq, or_self, or_true, true_or, or_false, false_or, if_true, if_false, false_and, true_and, and_false, and_true, Int.reduceLE, Int.reduceLT, Int.reduceMod, and_self, reduceIte]
    all_goals simp [at!, toT, cellT, num])
  clear hr hnm hc0 hc1 hc2 hc3
  clear htk
  have i1 : decide (imm < 0) = false := by simpa using hi
  clear hi
  go_enter Tryd.func11, Tryd.ntmps11
  go_upto_region 1 with fail
  refine to_cls ?_
  intro U0 hU0 y0
  have r_b : ∀ z : Wb U0, Row z.at (w.heap.size) [.int .i64 19, .int .i64 d, .int .i64 n, .int .i64 m, .int .i64 imm, .int .i64 14] 23 := Row.next (Row.new _ [.int .i64 19, .int .i64 d, .int .i64 n, .int .i64 m, .int .i64 imm, .int .i64 14] _) hU0
  have KK := Lib.hid (KB.next (KB.alloc (Below.refl _ _) _) hU0)
  clear hU0
  obtain ⟨c_b_0, c_b_1, c_b_2, c_b_3, c_b_4, c_b_5⟩ := six r_b
  go_wp2_with fail
  refine (RI.out _).mono ?_
  rintro e w1 ⟨rfl, g⟩
  obtain ⟨y1, rfl⟩ := Wb.next (x := y0) g
  clear g
  go_wp2_with fail
  refine (NU.out _).mono ?_
  rintro e w1 ⟨rfl, g⟩
  obtain ⟨y2, rfl⟩ := Wb.next (x := y1) g
  clear g
  go_wp2_with fail
  refine (NU.out _).mono ?_
  rintro e w1 ⟨rfl, g⟩
  obtain ⟨y3, rfl⟩ := Wb.next (x := y2) g
  clear g
  go_wp2_with fail
  refine (NA.out _).mono ?_
  rintro e w1 ⟨rfl, g⟩
  obtain ⟨y4, rfl⟩ := Wb.next (x := y3) g
  clear g
  go_wp2_with fail
  refine (TK.out _).mono ?_
  rintro e w1 ⟨rfl, g⟩
  obtain ⟨y5, rfl⟩ := Wb.next (x := y4) g
  clear g
  go_wp2
  go_ret
  exact ⟨by rw [← SA.out]; rfl, KK.out y5⟩

set_option maxRecDepth 100000 in
set_option maxHeartbeats 6400000 in
theorem rprint_19_15 (d n m imm : Int) (w : World) (hr : GrI.right ⟨19, d, n, m, imm, 15⟩) (hi : ¬ imm < 0) : Calls Tryd.prog 11 #[.agg #[.int .i64 19, .int .i64 d, .int .i64 n, .int .i64 m, .int .i64 imm, .int .i64 15]] w fun e w' => e = .returned (.string (strL (printR ⟨19, d, n, m, imm, 15⟩))) ∧ Below w.heap.size w w' := by
  obtain ⟨b1, b2⟩ := GrI.imm_bd hr
  obtain ⟨dn0, dn1, dn2, dn3, dn4, dn5⟩ := reg_bd hr
  simp only at b1 b2 dn0 dn1 dn2 dn3 dn4 dn5
  have RI := Lib.hid (fun w2 => pright_is ⟨19, d, n, m, imm, 15⟩ w2 true (by simpa [encB] using hr))
  unfold iv at RI
  simp only at RI
  have RG := Lib.hid (fun w2 (n : Int) (h0 : 0 ≤ n) (h1 : n ≤ 31) => rreg_any n w2 (by omega) (by omega))
  have NU := Lib.hid (fun w2 => rnum_any imm w2 b1 b2)
  have NA := Lib.hid (fun w2 => rnames_any 19 (by decide) (by decide) w2)
  obtain ⟨nm, hnm⟩ : ∃ s, s = strL (at! names 19) := ⟨_, rfl⟩
  rw [← hnm] at NA
  have znm : nm.size = 3 := by rw [hnm]; rfl
  obtain ⟨zu, hzu⟩ : ∃ z, z = (strL (num imm)).size := ⟨_, rfl⟩
  have ezu : (strL (num imm)).size = zu := hzu.symm
  have lzu : zu ≤ 65 := by rw [hzu, strL_size]; exact itoa_len64 b1 b2
  clear hzu
  obtain ⟨c0, y0z, r0, hc0, s0, l0, n0⟩ := letter (⟨#[35]⟩ : ByteArray) (strL (num imm)) 1 zu 66 rfl ezu (by omega) (by decide)
  obtain ⟨c1, y1z, r1, hc1, s1, l1, n1⟩ := letter (⟨#[46, 43]⟩ : ByteArray) (strL (num imm)) 2 zu 67 rfl ezu (by omega) (by decide)
  have TK := Lib.hid (fun w2 => rbarrier_any 15 (by decide) w2)
  obtain ⟨tk, htk⟩ : ∃ s, s = strL (at! bars 15) := ⟨_, rfl⟩
  rw [← htk] at TK
  have ztk : tk.size = 2 := by rw [htk]; rfl
  obtain ⟨c2, y2z, r2, hc2, s2, l2, n2⟩ := letter nm (⟨#[32]⟩ : ByteArray) 3 1 4 znm rfl (by omega) (by decide)
  obtain ⟨c3, y3z, r3, hc3, s3, l3, n3⟩ := letter c2 tk y2z 2 6 s2 ztk (by omega) (by decide)
  have SA := Lib.hid (show c3 = strL (printR ⟨19, d, n, m, imm, 15⟩) by
    rw [hc3, hc2]
    rw [htk]
    rw [hnm]
    show strL (at! names 19) ++ strL [32] ++ strL (at! bars 15) = _
    rw [strL_app, strL_app]
    congr 1
    all_goals simp only [printR, Int.reduceEq, or_self, or_true, true_or, or_false, false_or, if_true, if_false, false_and, true_and, and_false, and_true, Int.reduceLE, Int.reduceLT, Int.reduceMod, and_self, reduceIte]
    all_goals simp [at!, toT, cellT, num])
  clear hr hnm hc0 hc1 hc2 hc3
  clear htk
  have i1 : decide (imm < 0) = false := by simpa using hi
  clear hi
  go_enter Tryd.func11, Tryd.ntmps11
  go_upto_region 1 with fail
  refine to_cls ?_
  intro U0 hU0 y0
  have r_b : ∀ z : Wb U0, Row z.at (w.heap.size) [.int .i64 19, .int .i64 d, .int .i64 n, .int .i64 m, .int .i64 imm, .int .i64 15] 23 := Row.next (Row.new _ [.int .i64 19, .int .i64 d, .int .i64 n, .int .i64 m, .int .i64 imm, .int .i64 15] _) hU0
  have KK := Lib.hid (KB.next (KB.alloc (Below.refl _ _) _) hU0)
  clear hU0
  obtain ⟨c_b_0, c_b_1, c_b_2, c_b_3, c_b_4, c_b_5⟩ := six r_b
  go_wp2_with fail
  refine (RI.out _).mono ?_
  rintro e w1 ⟨rfl, g⟩
  obtain ⟨y1, rfl⟩ := Wb.next (x := y0) g
  clear g
  go_wp2_with fail
  refine (NU.out _).mono ?_
  rintro e w1 ⟨rfl, g⟩
  obtain ⟨y2, rfl⟩ := Wb.next (x := y1) g
  clear g
  go_wp2_with fail
  refine (NU.out _).mono ?_
  rintro e w1 ⟨rfl, g⟩
  obtain ⟨y3, rfl⟩ := Wb.next (x := y2) g
  clear g
  go_wp2_with fail
  refine (NA.out _).mono ?_
  rintro e w1 ⟨rfl, g⟩
  obtain ⟨y4, rfl⟩ := Wb.next (x := y3) g
  clear g
  go_wp2_with fail
  refine (TK.out _).mono ?_
  rintro e w1 ⟨rfl, g⟩
  obtain ⟨y5, rfl⟩ := Wb.next (x := y4) g
  clear g
  go_wp2
  go_ret
  exact ⟨by rw [← SA.out]; rfl, KK.out y5⟩

set_option maxRecDepth 100000 in
set_option maxHeartbeats 6400000 in
theorem rprint_21_0 (d n m imm : Int) (w : World) (hr : GrI.right ⟨21, d, n, m, imm, 0⟩) (hi : ¬ imm < 0) : Calls Tryd.prog 11 #[.agg #[.int .i64 21, .int .i64 d, .int .i64 n, .int .i64 m, .int .i64 imm, .int .i64 0]] w fun e w' => e = .returned (.string (strL (printR ⟨21, d, n, m, imm, 0⟩))) ∧ Below w.heap.size w w' := by
  obtain ⟨b1, b2⟩ := GrI.imm_bd hr
  obtain ⟨dn0, dn1, dn2, dn3, dn4, dn5⟩ := reg_bd hr
  simp only at b1 b2 dn0 dn1 dn2 dn3 dn4 dn5
  have RI := Lib.hid (fun w2 => pright_is ⟨21, d, n, m, imm, 0⟩ w2 true (by simpa [encB] using hr))
  unfold iv at RI
  simp only at RI
  have RG := Lib.hid (fun w2 (n : Int) (h0 : 0 ≤ n) (h1 : n ≤ 31) => rreg_any n w2 (by omega) (by omega))
  have NU := Lib.hid (fun w2 => rnum_any imm w2 b1 b2)
  have NA := Lib.hid (fun w2 => rnames_any 21 (by decide) (by decide) w2)
  obtain ⟨nm, hnm⟩ : ∃ s, s = strL (at! names 21) := ⟨_, rfl⟩
  rw [← hnm] at NA
  have znm : nm.size = 4 := by rw [hnm]; rfl
  obtain ⟨zu, hzu⟩ : ∃ z, z = (strL (num imm)).size := ⟨_, rfl⟩
  have ezu : (strL (num imm)).size = zu := hzu.symm
  have lzu : zu ≤ 65 := by rw [hzu, strL_size]; exact itoa_len64 b1 b2
  clear hzu
  obtain ⟨c0, y0z, r0, hc0, s0, l0, n0⟩ := letter (⟨#[35]⟩ : ByteArray) (strL (num imm)) 1 zu 66 rfl ezu (by omega) (by decide)
  obtain ⟨c1, y1z, r1, hc1, s1, l1, n1⟩ := letter (⟨#[46, 43]⟩ : ByteArray) (strL (num imm)) 2 zu 67 rfl ezu (by omega) (by decide)
  have TK := Lib.hid (fun w2 => rflush_any 0 (by decide) w2)
  obtain ⟨tk, htk⟩ : ∃ s, s = strL (at! flushes 0) := ⟨_, rfl⟩
  rw [← htk] at TK
  have ztk : tk.size = 9 := by rw [htk]; rfl
  obtain ⟨c2, y2z, r2, hc2, s2, l2, n2⟩ := letter nm (⟨#[32]⟩ : ByteArray) 4 1 5 znm rfl (by omega) (by decide)
  obtain ⟨c3, y3z, r3, hc3, s3, l3, n3⟩ := letter c2 tk y2z 9 14 s2 ztk (by omega) (by decide)
  have SA := Lib.hid (show c3 = strL (printR ⟨21, d, n, m, imm, 0⟩) by
    rw [hc3, hc2]
    rw [htk]
    rw [hnm]
    show strL (at! names 21) ++ strL [32] ++ strL (at! flushes 0) = _
    rw [strL_app, strL_app]
    congr 1
    all_goals simp only [printR, Int.reduceEq, or_self, or_true, true_or, or_false, false_or, if_true, if_false, false_and, true_and, and_false, and_true, Int.reduceLE, Int.reduceLT, Int.reduceMod, and_self, reduceIte]
    all_goals simp [at!, toT, cellT, num])
  clear hr hnm hc0 hc1 hc2 hc3
  clear htk
  have i1 : decide (imm < 0) = false := by simpa using hi
  clear hi
  go_enter Tryd.func11, Tryd.ntmps11
  go_upto_region 1 with fail
  refine to_cls ?_
  intro U0 hU0 y0
  have r_b : ∀ z : Wb U0, Row z.at (w.heap.size) [.int .i64 21, .int .i64 d, .int .i64 n, .int .i64 m, .int .i64 imm, .int .i64 0] 23 := Row.next (Row.new _ [.int .i64 21, .int .i64 d, .int .i64 n, .int .i64 m, .int .i64 imm, .int .i64 0] _) hU0
  have KK := Lib.hid (KB.next (KB.alloc (Below.refl _ _) _) hU0)
  clear hU0
  obtain ⟨c_b_0, c_b_1, c_b_2, c_b_3, c_b_4, c_b_5⟩ := six r_b
  go_wp2_with fail
  refine (RI.out _).mono ?_
  rintro e w1 ⟨rfl, g⟩
  obtain ⟨y1, rfl⟩ := Wb.next (x := y0) g
  clear g
  go_wp2_with fail
  refine (NU.out _).mono ?_
  rintro e w1 ⟨rfl, g⟩
  obtain ⟨y2, rfl⟩ := Wb.next (x := y1) g
  clear g
  go_wp2_with fail
  refine (NU.out _).mono ?_
  rintro e w1 ⟨rfl, g⟩
  obtain ⟨y3, rfl⟩ := Wb.next (x := y2) g
  clear g
  go_wp2_with fail
  refine (NA.out _).mono ?_
  rintro e w1 ⟨rfl, g⟩
  obtain ⟨y4, rfl⟩ := Wb.next (x := y3) g
  clear g
  go_wp2_with fail
  refine (TK.out _).mono ?_
  rintro e w1 ⟨rfl, g⟩
  obtain ⟨y5, rfl⟩ := Wb.next (x := y4) g
  clear g
  go_wp2
  go_ret
  exact ⟨by rw [← SA.out]; rfl, KK.out y5⟩

set_option maxRecDepth 100000 in
set_option maxHeartbeats 6400000 in
theorem rprint_21_1 (d n m imm : Int) (w : World) (hr : GrI.right ⟨21, d, n, m, imm, 1⟩) (hi : ¬ imm < 0) : Calls Tryd.prog 11 #[.agg #[.int .i64 21, .int .i64 d, .int .i64 n, .int .i64 m, .int .i64 imm, .int .i64 1]] w fun e w' => e = .returned (.string (strL (printR ⟨21, d, n, m, imm, 1⟩))) ∧ Below w.heap.size w w' := by
  obtain ⟨b1, b2⟩ := GrI.imm_bd hr
  obtain ⟨dn0, dn1, dn2, dn3, dn4, dn5⟩ := reg_bd hr
  simp only at b1 b2 dn0 dn1 dn2 dn3 dn4 dn5
  have RI := Lib.hid (fun w2 => pright_is ⟨21, d, n, m, imm, 1⟩ w2 true (by simpa [encB] using hr))
  unfold iv at RI
  simp only at RI
  have RG := Lib.hid (fun w2 (n : Int) (h0 : 0 ≤ n) (h1 : n ≤ 31) => rreg_any n w2 (by omega) (by omega))
  have NU := Lib.hid (fun w2 => rnum_any imm w2 b1 b2)
  have NA := Lib.hid (fun w2 => rnames_any 21 (by decide) (by decide) w2)
  obtain ⟨nm, hnm⟩ : ∃ s, s = strL (at! names 21) := ⟨_, rfl⟩
  rw [← hnm] at NA
  have znm : nm.size = 4 := by rw [hnm]; rfl
  obtain ⟨zu, hzu⟩ : ∃ z, z = (strL (num imm)).size := ⟨_, rfl⟩
  have ezu : (strL (num imm)).size = zu := hzu.symm
  have lzu : zu ≤ 65 := by rw [hzu, strL_size]; exact itoa_len64 b1 b2
  clear hzu
  obtain ⟨zd, hzd⟩ : ∃ z, z = (strL (reg d)).size := ⟨_, rfl⟩
  have ezd : (strL (reg d)).size = zd := hzd.symm
  have lzd : zd ≤ 65 := by rw [hzd, strL_size]; exact regK d
  clear hzd
  obtain ⟨c0, y0z, r0, hc0, s0, l0, n0⟩ := letter (⟨#[35]⟩ : ByteArray) (strL (num imm)) 1 zu 66 rfl ezu (by omega) (by decide)
  obtain ⟨c1, y1z, r1, hc1, s1, l1, n1⟩ := letter (⟨#[46, 43]⟩ : ByteArray) (strL (num imm)) 2 zu 67 rfl ezu (by omega) (by decide)
  have TK := Lib.hid (fun w2 => rflush_any 1 (by decide) w2)
  obtain ⟨tk, htk⟩ : ∃ s, s = strL (at! flushes 1) := ⟨_, rfl⟩
  rw [← htk] at TK
  have ztk : tk.size = 6 := by rw [htk]; rfl
  obtain ⟨c2, y2z, r2, hc2, s2, l2, n2⟩ := letter nm (⟨#[32]⟩ : ByteArray) 4 1 5 znm rfl (by omega) (by decide)
  obtain ⟨c3, y3z, r3, hc3, s3, l3, n3⟩ := letter c2 tk y2z 6 11 s2 ztk (by omega) (by decide)
  obtain ⟨c4, y4z, r4, hc4, s4, l4, n4⟩ := letter c3 (⟨#[44]⟩ : ByteArray) y3z 1 12 s3 rfl (by omega) (by decide)
  obtain ⟨c5, y5z, r5, hc5, s5, l5, n5⟩ := letter c4 (strL (reg d)) y4z zd 77 s4 ezd (by omega) (by decide)
  have SA := Lib.hid (show c5 = strL (printR ⟨21, d, n, m, imm, 1⟩) by
    rw [hc5, hc4, hc3, hc2]
    rw [htk]
    rw [hnm]
    show strL (at! names 21) ++ strL [32] ++ strL (at! flushes 1) ++ strL [44] ++ strL (reg d) = _
    rw [strL_app, strL_app, strL_app, strL_app]
    congr 1
    all_goals simp only [printR, Int.reduceEq, or_self, or_true, true_or, or_false, false_or, if_true, if_false, false_and, true_and, and_false, and_true, Int.reduceLE, Int.reduceLT, Int.reduceMod, and_self, reduceIte]
    all_goals simp [at!, toT, cellT, num])
  clear hr hnm hc0 hc1 hc2 hc3 hc4 hc5
  clear htk
  have i1 : decide (imm < 0) = false := by simpa using hi
  clear hi
  go_enter Tryd.func11, Tryd.ntmps11
  go_upto_region 1 with fail
  refine to_cls ?_
  intro U0 hU0 y0
  have r_b : ∀ z : Wb U0, Row z.at (w.heap.size) [.int .i64 21, .int .i64 d, .int .i64 n, .int .i64 m, .int .i64 imm, .int .i64 1] 23 := Row.next (Row.new _ [.int .i64 21, .int .i64 d, .int .i64 n, .int .i64 m, .int .i64 imm, .int .i64 1] _) hU0
  have KK := Lib.hid (KB.next (KB.alloc (Below.refl _ _) _) hU0)
  clear hU0
  obtain ⟨c_b_0, c_b_1, c_b_2, c_b_3, c_b_4, c_b_5⟩ := six r_b
  go_wp2_with fail
  refine (RI.out _).mono ?_
  rintro e w1 ⟨rfl, g⟩
  obtain ⟨y1, rfl⟩ := Wb.next (x := y0) g
  clear g
  go_wp2_with fail
  refine (NU.out _).mono ?_
  rintro e w1 ⟨rfl, g⟩
  obtain ⟨y2, rfl⟩ := Wb.next (x := y1) g
  clear g
  go_wp2_with fail
  refine (NU.out _).mono ?_
  rintro e w1 ⟨rfl, g⟩
  obtain ⟨y3, rfl⟩ := Wb.next (x := y2) g
  clear g
  go_wp2_with fail
  refine (NA.out _).mono ?_
  rintro e w1 ⟨rfl, g⟩
  obtain ⟨y4, rfl⟩ := Wb.next (x := y3) g
  clear g
  go_wp2_with fail
  refine (TK.out _).mono ?_
  rintro e w1 ⟨rfl, g⟩
  obtain ⟨y5, rfl⟩ := Wb.next (x := y4) g
  clear g
  go_wp2_with fail
  refine (RG.out _ _ (by first | assumption | decide) (by first | assumption | decide)).mono ?_
  rintro e w1 ⟨rfl, g⟩
  obtain ⟨y6, rfl⟩ := Wb.next (x := y5) g
  clear g
  go_wp2
  go_ret
  exact ⟨by rw [← SA.out]; rfl, KK.out y6⟩

set_option maxRecDepth 100000 in
set_option maxHeartbeats 6400000 in
theorem rprint_21_2 (d n m imm : Int) (w : World) (hr : GrI.right ⟨21, d, n, m, imm, 2⟩) (hi : ¬ imm < 0) : Calls Tryd.prog 11 #[.agg #[.int .i64 21, .int .i64 d, .int .i64 n, .int .i64 m, .int .i64 imm, .int .i64 2]] w fun e w' => e = .returned (.string (strL (printR ⟨21, d, n, m, imm, 2⟩))) ∧ Below w.heap.size w w' := by
  obtain ⟨b1, b2⟩ := GrI.imm_bd hr
  obtain ⟨dn0, dn1, dn2, dn3, dn4, dn5⟩ := reg_bd hr
  simp only at b1 b2 dn0 dn1 dn2 dn3 dn4 dn5
  have RI := Lib.hid (fun w2 => pright_is ⟨21, d, n, m, imm, 2⟩ w2 true (by simpa [encB] using hr))
  unfold iv at RI
  simp only at RI
  have RG := Lib.hid (fun w2 (n : Int) (h0 : 0 ≤ n) (h1 : n ≤ 31) => rreg_any n w2 (by omega) (by omega))
  have NU := Lib.hid (fun w2 => rnum_any imm w2 b1 b2)
  have NA := Lib.hid (fun w2 => rnames_any 21 (by decide) (by decide) w2)
  obtain ⟨nm, hnm⟩ : ∃ s, s = strL (at! names 21) := ⟨_, rfl⟩
  rw [← hnm] at NA
  have znm : nm.size = 4 := by rw [hnm]; rfl
  obtain ⟨zu, hzu⟩ : ∃ z, z = (strL (num imm)).size := ⟨_, rfl⟩
  have ezu : (strL (num imm)).size = zu := hzu.symm
  have lzu : zu ≤ 65 := by rw [hzu, strL_size]; exact itoa_len64 b1 b2
  clear hzu
  obtain ⟨zd, hzd⟩ : ∃ z, z = (strL (reg d)).size := ⟨_, rfl⟩
  have ezd : (strL (reg d)).size = zd := hzd.symm
  have lzd : zd ≤ 65 := by rw [hzd, strL_size]; exact regK d
  clear hzd
  obtain ⟨c0, y0z, r0, hc0, s0, l0, n0⟩ := letter (⟨#[35]⟩ : ByteArray) (strL (num imm)) 1 zu 66 rfl ezu (by omega) (by decide)
  obtain ⟨c1, y1z, r1, hc1, s1, l1, n1⟩ := letter (⟨#[46, 43]⟩ : ByteArray) (strL (num imm)) 2 zu 67 rfl ezu (by omega) (by decide)
  have TK := Lib.hid (fun w2 => rflush_any 2 (by decide) w2)
  obtain ⟨tk, htk⟩ : ∃ s, s = strL (at! flushes 2) := ⟨_, rfl⟩
  rw [← htk] at TK
  have ztk : tk.size = 7 := by rw [htk]; rfl
  obtain ⟨c2, y2z, r2, hc2, s2, l2, n2⟩ := letter nm (⟨#[32]⟩ : ByteArray) 4 1 5 znm rfl (by omega) (by decide)
  obtain ⟨c3, y3z, r3, hc3, s3, l3, n3⟩ := letter c2 tk y2z 7 12 s2 ztk (by omega) (by decide)
  obtain ⟨c4, y4z, r4, hc4, s4, l4, n4⟩ := letter c3 (⟨#[44]⟩ : ByteArray) y3z 1 13 s3 rfl (by omega) (by decide)
  obtain ⟨c5, y5z, r5, hc5, s5, l5, n5⟩ := letter c4 (strL (reg d)) y4z zd 78 s4 ezd (by omega) (by decide)
  have SA := Lib.hid (show c5 = strL (printR ⟨21, d, n, m, imm, 2⟩) by
    rw [hc5, hc4, hc3, hc2]
    rw [htk]
    rw [hnm]
    show strL (at! names 21) ++ strL [32] ++ strL (at! flushes 2) ++ strL [44] ++ strL (reg d) = _
    rw [strL_app, strL_app, strL_app, strL_app]
    congr 1
    all_goals simp only [printR, Int.reduceEq, or_self, or_true, true_or, or_false, false_or, if_true, if_false, false_and, true_and, and_false, and_true, Int.reduceLE, Int.reduceLT, Int.reduceMod, and_self, reduceIte]
    all_goals simp [at!, toT, cellT, num])
  clear hr hnm hc0 hc1 hc2 hc3 hc4 hc5
  clear htk
  have i1 : decide (imm < 0) = false := by simpa using hi
  clear hi
  go_enter Tryd.func11, Tryd.ntmps11
  go_upto_region 1 with fail
  refine to_cls ?_
  intro U0 hU0 y0
  have r_b : ∀ z : Wb U0, Row z.at (w.heap.size) [.int .i64 21, .int .i64 d, .int .i64 n, .int .i64 m, .int .i64 imm, .int .i64 2] 23 := Row.next (Row.new _ [.int .i64 21, .int .i64 d, .int .i64 n, .int .i64 m, .int .i64 imm, .int .i64 2] _) hU0
  have KK := Lib.hid (KB.next (KB.alloc (Below.refl _ _) _) hU0)
  clear hU0
  obtain ⟨c_b_0, c_b_1, c_b_2, c_b_3, c_b_4, c_b_5⟩ := six r_b
  go_wp2_with fail
  refine (RI.out _).mono ?_
  rintro e w1 ⟨rfl, g⟩
  obtain ⟨y1, rfl⟩ := Wb.next (x := y0) g
  clear g
  go_wp2_with fail
  refine (NU.out _).mono ?_
  rintro e w1 ⟨rfl, g⟩
  obtain ⟨y2, rfl⟩ := Wb.next (x := y1) g
  clear g
  go_wp2_with fail
  refine (NU.out _).mono ?_
  rintro e w1 ⟨rfl, g⟩
  obtain ⟨y3, rfl⟩ := Wb.next (x := y2) g
  clear g
  go_wp2_with fail
  refine (NA.out _).mono ?_
  rintro e w1 ⟨rfl, g⟩
  obtain ⟨y4, rfl⟩ := Wb.next (x := y3) g
  clear g
  go_wp2_with fail
  refine (TK.out _).mono ?_
  rintro e w1 ⟨rfl, g⟩
  obtain ⟨y5, rfl⟩ := Wb.next (x := y4) g
  clear g
  go_wp2_with fail
  refine (RG.out _ _ (by first | assumption | decide) (by first | assumption | decide)).mono ?_
  rintro e w1 ⟨rfl, g⟩
  obtain ⟨y6, rfl⟩ := Wb.next (x := y5) g
  clear g
  go_wp2
  go_ret
  exact ⟨by rw [← SA.out]; rfl, KK.out y6⟩

set_option maxRecDepth 100000 in
set_option maxHeartbeats 6400000 in
theorem rprint_21_3 (d n m imm : Int) (w : World) (hr : GrI.right ⟨21, d, n, m, imm, 3⟩) (hi : ¬ imm < 0) : Calls Tryd.prog 11 #[.agg #[.int .i64 21, .int .i64 d, .int .i64 n, .int .i64 m, .int .i64 imm, .int .i64 3]] w fun e w' => e = .returned (.string (strL (printR ⟨21, d, n, m, imm, 3⟩))) ∧ Below w.heap.size w w' := by
  obtain ⟨b1, b2⟩ := GrI.imm_bd hr
  obtain ⟨dn0, dn1, dn2, dn3, dn4, dn5⟩ := reg_bd hr
  simp only at b1 b2 dn0 dn1 dn2 dn3 dn4 dn5
  have RI := Lib.hid (fun w2 => pright_is ⟨21, d, n, m, imm, 3⟩ w2 true (by simpa [encB] using hr))
  unfold iv at RI
  simp only at RI
  have RG := Lib.hid (fun w2 (n : Int) (h0 : 0 ≤ n) (h1 : n ≤ 31) => rreg_any n w2 (by omega) (by omega))
  have NU := Lib.hid (fun w2 => rnum_any imm w2 b1 b2)
  have NA := Lib.hid (fun w2 => rnames_any 21 (by decide) (by decide) w2)
  obtain ⟨nm, hnm⟩ : ∃ s, s = strL (at! names 21) := ⟨_, rfl⟩
  rw [← hnm] at NA
  have znm : nm.size = 4 := by rw [hnm]; rfl
  obtain ⟨zu, hzu⟩ : ∃ z, z = (strL (num imm)).size := ⟨_, rfl⟩
  have ezu : (strL (num imm)).size = zu := hzu.symm
  have lzu : zu ≤ 65 := by rw [hzu, strL_size]; exact itoa_len64 b1 b2
  clear hzu
  obtain ⟨zd, hzd⟩ : ∃ z, z = (strL (reg d)).size := ⟨_, rfl⟩
  have ezd : (strL (reg d)).size = zd := hzd.symm
  have lzd : zd ≤ 65 := by rw [hzd, strL_size]; exact regK d
  clear hzd
  obtain ⟨c0, y0z, r0, hc0, s0, l0, n0⟩ := letter (⟨#[35]⟩ : ByteArray) (strL (num imm)) 1 zu 66 rfl ezu (by omega) (by decide)
  obtain ⟨c1, y1z, r1, hc1, s1, l1, n1⟩ := letter (⟨#[46, 43]⟩ : ByteArray) (strL (num imm)) 2 zu 67 rfl ezu (by omega) (by decide)
  have TK := Lib.hid (fun w2 => rflush_any 3 (by decide) w2)
  obtain ⟨tk, htk⟩ : ∃ s, s = strL (at! flushes 3) := ⟨_, rfl⟩
  rw [← htk] at TK
  have ztk : tk.size = 8 := by rw [htk]; rfl
  obtain ⟨c2, y2z, r2, hc2, s2, l2, n2⟩ := letter nm (⟨#[32]⟩ : ByteArray) 4 1 5 znm rfl (by omega) (by decide)
  obtain ⟨c3, y3z, r3, hc3, s3, l3, n3⟩ := letter c2 tk y2z 8 13 s2 ztk (by omega) (by decide)
  obtain ⟨c4, y4z, r4, hc4, s4, l4, n4⟩ := letter c3 (⟨#[44]⟩ : ByteArray) y3z 1 14 s3 rfl (by omega) (by decide)
  obtain ⟨c5, y5z, r5, hc5, s5, l5, n5⟩ := letter c4 (strL (reg d)) y4z zd 79 s4 ezd (by omega) (by decide)
  have SA := Lib.hid (show c5 = strL (printR ⟨21, d, n, m, imm, 3⟩) by
    rw [hc5, hc4, hc3, hc2]
    rw [htk]
    rw [hnm]
    show strL (at! names 21) ++ strL [32] ++ strL (at! flushes 3) ++ strL [44] ++ strL (reg d) = _
    rw [strL_app, strL_app, strL_app, strL_app]
    congr 1
    all_goals simp only [printR, Int.reduceEq, or_self, or_true, true_or, or_false, false_or, if_true, if_false, false_and, true_and, and_false, and_true, Int.reduceLE, Int.reduceLT, Int.reduceMod, and_self, reduceIte]
    all_goals simp [at!, toT, cellT, num])
  clear hr hnm hc0 hc1 hc2 hc3 hc4 hc5
  clear htk
  have i1 : decide (imm < 0) = false := by simpa using hi
  clear hi
  go_enter Tryd.func11, Tryd.ntmps11
  go_upto_region 1 with fail
  refine to_cls ?_
  intro U0 hU0 y0
  have r_b : ∀ z : Wb U0, Row z.at (w.heap.size) [.int .i64 21, .int .i64 d, .int .i64 n, .int .i64 m, .int .i64 imm, .int .i64 3] 23 := Row.next (Row.new _ [.int .i64 21, .int .i64 d, .int .i64 n, .int .i64 m, .int .i64 imm, .int .i64 3] _) hU0
  have KK := Lib.hid (KB.next (KB.alloc (Below.refl _ _) _) hU0)
  clear hU0
  obtain ⟨c_b_0, c_b_1, c_b_2, c_b_3, c_b_4, c_b_5⟩ := six r_b
  go_wp2_with fail
  refine (RI.out _).mono ?_
  rintro e w1 ⟨rfl, g⟩
  obtain ⟨y1, rfl⟩ := Wb.next (x := y0) g
  clear g
  go_wp2_with fail
  refine (NU.out _).mono ?_
  rintro e w1 ⟨rfl, g⟩
  obtain ⟨y2, rfl⟩ := Wb.next (x := y1) g
  clear g
  go_wp2_with fail
  refine (NU.out _).mono ?_
  rintro e w1 ⟨rfl, g⟩
  obtain ⟨y3, rfl⟩ := Wb.next (x := y2) g
  clear g
  go_wp2_with fail
  refine (NA.out _).mono ?_
  rintro e w1 ⟨rfl, g⟩
  obtain ⟨y4, rfl⟩ := Wb.next (x := y3) g
  clear g
  go_wp2_with fail
  refine (TK.out _).mono ?_
  rintro e w1 ⟨rfl, g⟩
  obtain ⟨y5, rfl⟩ := Wb.next (x := y4) g
  clear g
  go_wp2_with fail
  refine (RG.out _ _ (by first | assumption | decide) (by first | assumption | decide)).mono ?_
  rintro e w1 ⟨rfl, g⟩
  obtain ⟨y6, rfl⟩ := Wb.next (x := y5) g
  clear g
  go_wp2
  go_ret
  exact ⟨by rw [← SA.out]; rfl, KK.out y6⟩

set_option maxRecDepth 100000 in
set_option maxHeartbeats 6400000 in
theorem rprint_21_4 (d n m imm : Int) (w : World) (hr : GrI.right ⟨21, d, n, m, imm, 4⟩) (hi : ¬ imm < 0) : Calls Tryd.prog 11 #[.agg #[.int .i64 21, .int .i64 d, .int .i64 n, .int .i64 m, .int .i64 imm, .int .i64 4]] w fun e w' => e = .returned (.string (strL (printR ⟨21, d, n, m, imm, 4⟩))) ∧ Below w.heap.size w w' := by
  obtain ⟨b1, b2⟩ := GrI.imm_bd hr
  obtain ⟨dn0, dn1, dn2, dn3, dn4, dn5⟩ := reg_bd hr
  simp only at b1 b2 dn0 dn1 dn2 dn3 dn4 dn5
  have RI := Lib.hid (fun w2 => pright_is ⟨21, d, n, m, imm, 4⟩ w2 true (by simpa [encB] using hr))
  unfold iv at RI
  simp only at RI
  have RG := Lib.hid (fun w2 (n : Int) (h0 : 0 ≤ n) (h1 : n ≤ 31) => rreg_any n w2 (by omega) (by omega))
  have NU := Lib.hid (fun w2 => rnum_any imm w2 b1 b2)
  have NA := Lib.hid (fun w2 => rnames_any 21 (by decide) (by decide) w2)
  obtain ⟨nm, hnm⟩ : ∃ s, s = strL (at! names 21) := ⟨_, rfl⟩
  rw [← hnm] at NA
  have znm : nm.size = 4 := by rw [hnm]; rfl
  obtain ⟨zu, hzu⟩ : ∃ z, z = (strL (num imm)).size := ⟨_, rfl⟩
  have ezu : (strL (num imm)).size = zu := hzu.symm
  have lzu : zu ≤ 65 := by rw [hzu, strL_size]; exact itoa_len64 b1 b2
  clear hzu
  obtain ⟨c0, y0z, r0, hc0, s0, l0, n0⟩ := letter (⟨#[35]⟩ : ByteArray) (strL (num imm)) 1 zu 66 rfl ezu (by omega) (by decide)
  obtain ⟨c1, y1z, r1, hc1, s1, l1, n1⟩ := letter (⟨#[46, 43]⟩ : ByteArray) (strL (num imm)) 2 zu 67 rfl ezu (by omega) (by decide)
  have TK := Lib.hid (fun w2 => rflush_any 4 (by decide) w2)
  obtain ⟨tk, htk⟩ : ∃ s, s = strL (at! flushes 4) := ⟨_, rfl⟩
  rw [← htk] at TK
  have ztk : tk.size = 7 := by rw [htk]; rfl
  obtain ⟨c2, y2z, r2, hc2, s2, l2, n2⟩ := letter nm (⟨#[32]⟩ : ByteArray) 4 1 5 znm rfl (by omega) (by decide)
  obtain ⟨c3, y3z, r3, hc3, s3, l3, n3⟩ := letter c2 tk y2z 7 12 s2 ztk (by omega) (by decide)
  have SA := Lib.hid (show c3 = strL (printR ⟨21, d, n, m, imm, 4⟩) by
    rw [hc3, hc2]
    rw [htk]
    rw [hnm]
    show strL (at! names 21) ++ strL [32] ++ strL (at! flushes 4) = _
    rw [strL_app, strL_app]
    congr 1
    all_goals simp only [printR, Int.reduceEq, or_self, or_true, true_or, or_false, false_or, if_true, if_false, false_and, true_and, and_false, and_true, Int.reduceLE, Int.reduceLT, Int.reduceMod, and_self, reduceIte]
    all_goals simp [at!, toT, cellT, num])
  clear hr hnm hc0 hc1 hc2 hc3
  clear htk
  have i1 : decide (imm < 0) = false := by simpa using hi
  clear hi
  go_enter Tryd.func11, Tryd.ntmps11
  go_upto_region 1 with fail
  refine to_cls ?_
  intro U0 hU0 y0
  have r_b : ∀ z : Wb U0, Row z.at (w.heap.size) [.int .i64 21, .int .i64 d, .int .i64 n, .int .i64 m, .int .i64 imm, .int .i64 4] 23 := Row.next (Row.new _ [.int .i64 21, .int .i64 d, .int .i64 n, .int .i64 m, .int .i64 imm, .int .i64 4] _) hU0
  have KK := Lib.hid (KB.next (KB.alloc (Below.refl _ _) _) hU0)
  clear hU0
  obtain ⟨c_b_0, c_b_1, c_b_2, c_b_3, c_b_4, c_b_5⟩ := six r_b
  go_wp2_with fail
  refine (RI.out _).mono ?_
  rintro e w1 ⟨rfl, g⟩
  obtain ⟨y1, rfl⟩ := Wb.next (x := y0) g
  clear g
  go_wp2_with fail
  refine (NU.out _).mono ?_
  rintro e w1 ⟨rfl, g⟩
  obtain ⟨y2, rfl⟩ := Wb.next (x := y1) g
  clear g
  go_wp2_with fail
  refine (NU.out _).mono ?_
  rintro e w1 ⟨rfl, g⟩
  obtain ⟨y3, rfl⟩ := Wb.next (x := y2) g
  clear g
  go_wp2_with fail
  refine (NA.out _).mono ?_
  rintro e w1 ⟨rfl, g⟩
  obtain ⟨y4, rfl⟩ := Wb.next (x := y3) g
  clear g
  go_wp2_with fail
  refine (TK.out _).mono ?_
  rintro e w1 ⟨rfl, g⟩
  obtain ⟨y5, rfl⟩ := Wb.next (x := y4) g
  clear g
  go_wp2
  go_ret
  exact ⟨by rw [← SA.out]; rfl, KK.out y5⟩

set_option maxRecDepth 100000 in
set_option maxHeartbeats 6400000 in
theorem rprint_21_5 (d n m imm : Int) (w : World) (hr : GrI.right ⟨21, d, n, m, imm, 5⟩) (hi : ¬ imm < 0) : Calls Tryd.prog 11 #[.agg #[.int .i64 21, .int .i64 d, .int .i64 n, .int .i64 m, .int .i64 imm, .int .i64 5]] w fun e w' => e = .returned (.string (strL (printR ⟨21, d, n, m, imm, 5⟩))) ∧ Below w.heap.size w w' := by
  obtain ⟨b1, b2⟩ := GrI.imm_bd hr
  obtain ⟨dn0, dn1, dn2, dn3, dn4, dn5⟩ := reg_bd hr
  simp only at b1 b2 dn0 dn1 dn2 dn3 dn4 dn5
  have RI := Lib.hid (fun w2 => pright_is ⟨21, d, n, m, imm, 5⟩ w2 true (by simpa [encB] using hr))
  unfold iv at RI
  simp only at RI
  have RG := Lib.hid (fun w2 (n : Int) (h0 : 0 ≤ n) (h1 : n ≤ 31) => rreg_any n w2 (by omega) (by omega))
  have NU := Lib.hid (fun w2 => rnum_any imm w2 b1 b2)
  have NA := Lib.hid (fun w2 => rnames_any 21 (by decide) (by decide) w2)
  obtain ⟨nm, hnm⟩ : ∃ s, s = strL (at! names 21) := ⟨_, rfl⟩
  rw [← hnm] at NA
  have znm : nm.size = 4 := by rw [hnm]; rfl
  obtain ⟨zu, hzu⟩ : ∃ z, z = (strL (num imm)).size := ⟨_, rfl⟩
  have ezu : (strL (num imm)).size = zu := hzu.symm
  have lzu : zu ≤ 65 := by rw [hzu, strL_size]; exact itoa_len64 b1 b2
  clear hzu
  obtain ⟨zd, hzd⟩ : ∃ z, z = (strL (reg d)).size := ⟨_, rfl⟩
  have ezd : (strL (reg d)).size = zd := hzd.symm
  have lzd : zd ≤ 65 := by rw [hzd, strL_size]; exact regK d
  clear hzd
  obtain ⟨c0, y0z, r0, hc0, s0, l0, n0⟩ := letter (⟨#[35]⟩ : ByteArray) (strL (num imm)) 1 zu 66 rfl ezu (by omega) (by decide)
  obtain ⟨c1, y1z, r1, hc1, s1, l1, n1⟩ := letter (⟨#[46, 43]⟩ : ByteArray) (strL (num imm)) 2 zu 67 rfl ezu (by omega) (by decide)
  have TK := Lib.hid (fun w2 => rflush_any 5 (by decide) w2)
  obtain ⟨tk, htk⟩ : ∃ s, s = strL (at! flushes 5) := ⟨_, rfl⟩
  rw [← htk] at TK
  have ztk : tk.size = 4 := by rw [htk]; rfl
  obtain ⟨c2, y2z, r2, hc2, s2, l2, n2⟩ := letter nm (⟨#[32]⟩ : ByteArray) 4 1 5 znm rfl (by omega) (by decide)
  obtain ⟨c3, y3z, r3, hc3, s3, l3, n3⟩ := letter c2 tk y2z 4 9 s2 ztk (by omega) (by decide)
  obtain ⟨c4, y4z, r4, hc4, s4, l4, n4⟩ := letter c3 (⟨#[44]⟩ : ByteArray) y3z 1 10 s3 rfl (by omega) (by decide)
  obtain ⟨c5, y5z, r5, hc5, s5, l5, n5⟩ := letter c4 (strL (reg d)) y4z zd 75 s4 ezd (by omega) (by decide)
  have SA := Lib.hid (show c5 = strL (printR ⟨21, d, n, m, imm, 5⟩) by
    rw [hc5, hc4, hc3, hc2]
    rw [htk]
    rw [hnm]
    show strL (at! names 21) ++ strL [32] ++ strL (at! flushes 5) ++ strL [44] ++ strL (reg d) = _
    rw [strL_app, strL_app, strL_app, strL_app]
    congr 1
    all_goals simp only [printR, Int.reduceEq, or_self, or_true, true_or, or_false, false_or, if_true, if_false, false_and, true_and, and_false, and_true, Int.reduceLE, Int.reduceLT, Int.reduceMod, and_self, reduceIte]
    all_goals simp [at!, toT, cellT, num])
  clear hr hnm hc0 hc1 hc2 hc3 hc4 hc5
  clear htk
  have i1 : decide (imm < 0) = false := by simpa using hi
  clear hi
  go_enter Tryd.func11, Tryd.ntmps11
  go_upto_region 1 with fail
  refine to_cls ?_
  intro U0 hU0 y0
  have r_b : ∀ z : Wb U0, Row z.at (w.heap.size) [.int .i64 21, .int .i64 d, .int .i64 n, .int .i64 m, .int .i64 imm, .int .i64 5] 23 := Row.next (Row.new _ [.int .i64 21, .int .i64 d, .int .i64 n, .int .i64 m, .int .i64 imm, .int .i64 5] _) hU0
  have KK := Lib.hid (KB.next (KB.alloc (Below.refl _ _) _) hU0)
  clear hU0
  obtain ⟨c_b_0, c_b_1, c_b_2, c_b_3, c_b_4, c_b_5⟩ := six r_b
  go_wp2_with fail
  refine (RI.out _).mono ?_
  rintro e w1 ⟨rfl, g⟩
  obtain ⟨y1, rfl⟩ := Wb.next (x := y0) g
  clear g
  go_wp2_with fail
  refine (NU.out _).mono ?_
  rintro e w1 ⟨rfl, g⟩
  obtain ⟨y2, rfl⟩ := Wb.next (x := y1) g
  clear g
  go_wp2_with fail
  refine (NU.out _).mono ?_
  rintro e w1 ⟨rfl, g⟩
  obtain ⟨y3, rfl⟩ := Wb.next (x := y2) g
  clear g
  go_wp2_with fail
  refine (NA.out _).mono ?_
  rintro e w1 ⟨rfl, g⟩
  obtain ⟨y4, rfl⟩ := Wb.next (x := y3) g
  clear g
  go_wp2_with fail
  refine (TK.out _).mono ?_
  rintro e w1 ⟨rfl, g⟩
  obtain ⟨y5, rfl⟩ := Wb.next (x := y4) g
  clear g
  go_wp2_with fail
  refine (RG.out _ _ (by first | assumption | decide) (by first | assumption | decide)).mono ?_
  rintro e w1 ⟨rfl, g⟩
  obtain ⟨y6, rfl⟩ := Wb.next (x := y5) g
  clear g
  go_wp2
  go_ret
  exact ⟨by rw [← SA.out]; rfl, KK.out y6⟩

set_option maxRecDepth 100000 in
set_option maxHeartbeats 6400000 in
theorem rprint_21_6 (d n m imm : Int) (w : World) (hr : GrI.right ⟨21, d, n, m, imm, 6⟩) (hi : ¬ imm < 0) : Calls Tryd.prog 11 #[.agg #[.int .i64 21, .int .i64 d, .int .i64 n, .int .i64 m, .int .i64 imm, .int .i64 6]] w fun e w' => e = .returned (.string (strL (printR ⟨21, d, n, m, imm, 6⟩))) ∧ Below w.heap.size w w' := by
  obtain ⟨b1, b2⟩ := GrI.imm_bd hr
  obtain ⟨dn0, dn1, dn2, dn3, dn4, dn5⟩ := reg_bd hr
  simp only at b1 b2 dn0 dn1 dn2 dn3 dn4 dn5
  have RI := Lib.hid (fun w2 => pright_is ⟨21, d, n, m, imm, 6⟩ w2 true (by simpa [encB] using hr))
  unfold iv at RI
  simp only at RI
  have RG := Lib.hid (fun w2 (n : Int) (h0 : 0 ≤ n) (h1 : n ≤ 31) => rreg_any n w2 (by omega) (by omega))
  have NU := Lib.hid (fun w2 => rnum_any imm w2 b1 b2)
  have NA := Lib.hid (fun w2 => rnames_any 21 (by decide) (by decide) w2)
  obtain ⟨nm, hnm⟩ : ∃ s, s = strL (at! names 21) := ⟨_, rfl⟩
  rw [← hnm] at NA
  have znm : nm.size = 4 := by rw [hnm]; rfl
  obtain ⟨zu, hzu⟩ : ∃ z, z = (strL (num imm)).size := ⟨_, rfl⟩
  have ezu : (strL (num imm)).size = zu := hzu.symm
  have lzu : zu ≤ 65 := by rw [hzu, strL_size]; exact itoa_len64 b1 b2
  clear hzu
  obtain ⟨zd, hzd⟩ : ∃ z, z = (strL (reg d)).size := ⟨_, rfl⟩
  have ezd : (strL (reg d)).size = zd := hzd.symm
  have lzd : zd ≤ 65 := by rw [hzd, strL_size]; exact regK d
  clear hzd
  obtain ⟨c0, y0z, r0, hc0, s0, l0, n0⟩ := letter (⟨#[35]⟩ : ByteArray) (strL (num imm)) 1 zu 66 rfl ezu (by omega) (by decide)
  obtain ⟨c1, y1z, r1, hc1, s1, l1, n1⟩ := letter (⟨#[46, 43]⟩ : ByteArray) (strL (num imm)) 2 zu 67 rfl ezu (by omega) (by decide)
  have TK := Lib.hid (fun w2 => rflush_any 6 (by decide) w2)
  obtain ⟨tk, htk⟩ : ∃ s, s = strL (at! flushes 6) := ⟨_, rfl⟩
  rw [← htk] at TK
  have ztk : tk.size = 5 := by rw [htk]; rfl
  obtain ⟨c2, y2z, r2, hc2, s2, l2, n2⟩ := letter nm (⟨#[32]⟩ : ByteArray) 4 1 5 znm rfl (by omega) (by decide)
  obtain ⟨c3, y3z, r3, hc3, s3, l3, n3⟩ := letter c2 tk y2z 5 10 s2 ztk (by omega) (by decide)
  obtain ⟨c4, y4z, r4, hc4, s4, l4, n4⟩ := letter c3 (⟨#[44]⟩ : ByteArray) y3z 1 11 s3 rfl (by omega) (by decide)
  obtain ⟨c5, y5z, r5, hc5, s5, l5, n5⟩ := letter c4 (strL (reg d)) y4z zd 76 s4 ezd (by omega) (by decide)
  have SA := Lib.hid (show c5 = strL (printR ⟨21, d, n, m, imm, 6⟩) by
    rw [hc5, hc4, hc3, hc2]
    rw [htk]
    rw [hnm]
    show strL (at! names 21) ++ strL [32] ++ strL (at! flushes 6) ++ strL [44] ++ strL (reg d) = _
    rw [strL_app, strL_app, strL_app, strL_app]
    congr 1
    all_goals simp only [printR, Int.reduceEq, or_self, or_true, true_or, or_false, false_or, if_true, if_false, false_and, true_and, and_false, and_true, Int.reduceLE, Int.reduceLT, Int.reduceMod, and_self, reduceIte]
    all_goals simp [at!, toT, cellT, num])
  clear hr hnm hc0 hc1 hc2 hc3 hc4 hc5
  clear htk
  have i1 : decide (imm < 0) = false := by simpa using hi
  clear hi
  go_enter Tryd.func11, Tryd.ntmps11
  go_upto_region 1 with fail
  refine to_cls ?_
  intro U0 hU0 y0
  have r_b : ∀ z : Wb U0, Row z.at (w.heap.size) [.int .i64 21, .int .i64 d, .int .i64 n, .int .i64 m, .int .i64 imm, .int .i64 6] 23 := Row.next (Row.new _ [.int .i64 21, .int .i64 d, .int .i64 n, .int .i64 m, .int .i64 imm, .int .i64 6] _) hU0
  have KK := Lib.hid (KB.next (KB.alloc (Below.refl _ _) _) hU0)
  clear hU0
  obtain ⟨c_b_0, c_b_1, c_b_2, c_b_3, c_b_4, c_b_5⟩ := six r_b
  go_wp2_with fail
  refine (RI.out _).mono ?_
  rintro e w1 ⟨rfl, g⟩
  obtain ⟨y1, rfl⟩ := Wb.next (x := y0) g
  clear g
  go_wp2_with fail
  refine (NU.out _).mono ?_
  rintro e w1 ⟨rfl, g⟩
  obtain ⟨y2, rfl⟩ := Wb.next (x := y1) g
  clear g
  go_wp2_with fail
  refine (NU.out _).mono ?_
  rintro e w1 ⟨rfl, g⟩
  obtain ⟨y3, rfl⟩ := Wb.next (x := y2) g
  clear g
  go_wp2_with fail
  refine (NA.out _).mono ?_
  rintro e w1 ⟨rfl, g⟩
  obtain ⟨y4, rfl⟩ := Wb.next (x := y3) g
  clear g
  go_wp2_with fail
  refine (TK.out _).mono ?_
  rintro e w1 ⟨rfl, g⟩
  obtain ⟨y5, rfl⟩ := Wb.next (x := y4) g
  clear g
  go_wp2_with fail
  refine (RG.out _ _ (by first | assumption | decide) (by first | assumption | decide)).mono ?_
  rintro e w1 ⟨rfl, g⟩
  obtain ⟨y6, rfl⟩ := Wb.next (x := y5) g
  clear g
  go_wp2
  go_ret
  exact ⟨by rw [← SA.out]; rfl, KK.out y6⟩

set_option maxRecDepth 100000 in
set_option maxHeartbeats 6400000 in
theorem rprint_21_7 (d n m imm : Int) (w : World) (hr : GrI.right ⟨21, d, n, m, imm, 7⟩) (hi : ¬ imm < 0) : Calls Tryd.prog 11 #[.agg #[.int .i64 21, .int .i64 d, .int .i64 n, .int .i64 m, .int .i64 imm, .int .i64 7]] w fun e w' => e = .returned (.string (strL (printR ⟨21, d, n, m, imm, 7⟩))) ∧ Below w.heap.size w w' := by
  obtain ⟨b1, b2⟩ := GrI.imm_bd hr
  obtain ⟨dn0, dn1, dn2, dn3, dn4, dn5⟩ := reg_bd hr
  simp only at b1 b2 dn0 dn1 dn2 dn3 dn4 dn5
  have RI := Lib.hid (fun w2 => pright_is ⟨21, d, n, m, imm, 7⟩ w2 true (by simpa [encB] using hr))
  unfold iv at RI
  simp only at RI
  have RG := Lib.hid (fun w2 (n : Int) (h0 : 0 ≤ n) (h1 : n ≤ 31) => rreg_any n w2 (by omega) (by omega))
  have NU := Lib.hid (fun w2 => rnum_any imm w2 b1 b2)
  have NA := Lib.hid (fun w2 => rnames_any 21 (by decide) (by decide) w2)
  obtain ⟨nm, hnm⟩ : ∃ s, s = strL (at! names 21) := ⟨_, rfl⟩
  rw [← hnm] at NA
  have znm : nm.size = 4 := by rw [hnm]; rfl
  obtain ⟨zu, hzu⟩ : ∃ z, z = (strL (num imm)).size := ⟨_, rfl⟩
  have ezu : (strL (num imm)).size = zu := hzu.symm
  have lzu : zu ≤ 65 := by rw [hzu, strL_size]; exact itoa_len64 b1 b2
  clear hzu
  obtain ⟨zd, hzd⟩ : ∃ z, z = (strL (reg d)).size := ⟨_, rfl⟩
  have ezd : (strL (reg d)).size = zd := hzd.symm
  have lzd : zd ≤ 65 := by rw [hzd, strL_size]; exact regK d
  clear hzd
  obtain ⟨c0, y0z, r0, hc0, s0, l0, n0⟩ := letter (⟨#[35]⟩ : ByteArray) (strL (num imm)) 1 zu 66 rfl ezu (by omega) (by decide)
  obtain ⟨c1, y1z, r1, hc1, s1, l1, n1⟩ := letter (⟨#[46, 43]⟩ : ByteArray) (strL (num imm)) 2 zu 67 rfl ezu (by omega) (by decide)
  have TK := Lib.hid (fun w2 => rflush_any 7 (by decide) w2)
  obtain ⟨tk, htk⟩ : ∃ s, s = strL (at! flushes 7) := ⟨_, rfl⟩
  rw [← htk] at TK
  have ztk : tk.size = 6 := by rw [htk]; rfl
  obtain ⟨c2, y2z, r2, hc2, s2, l2, n2⟩ := letter nm (⟨#[32]⟩ : ByteArray) 4 1 5 znm rfl (by omega) (by decide)
  obtain ⟨c3, y3z, r3, hc3, s3, l3, n3⟩ := letter c2 tk y2z 6 11 s2 ztk (by omega) (by decide)
  obtain ⟨c4, y4z, r4, hc4, s4, l4, n4⟩ := letter c3 (⟨#[44]⟩ : ByteArray) y3z 1 12 s3 rfl (by omega) (by decide)
  obtain ⟨c5, y5z, r5, hc5, s5, l5, n5⟩ := letter c4 (strL (reg d)) y4z zd 77 s4 ezd (by omega) (by decide)
  have SA := Lib.hid (show c5 = strL (printR ⟨21, d, n, m, imm, 7⟩) by
    rw [hc5, hc4, hc3, hc2]
    rw [htk]
    rw [hnm]
    show strL (at! names 21) ++ strL [32] ++ strL (at! flushes 7) ++ strL [44] ++ strL (reg d) = _
    rw [strL_app, strL_app, strL_app, strL_app]
    congr 1
    all_goals simp only [printR, Int.reduceEq, or_self, or_true, true_or, or_false, false_or, if_true, if_false, false_and, true_and, and_false, and_true, Int.reduceLE, Int.reduceLT, Int.reduceMod, and_self, reduceIte]
    all_goals simp [at!, toT, cellT, num])
  clear hr hnm hc0 hc1 hc2 hc3 hc4 hc5
  clear htk
  have i1 : decide (imm < 0) = false := by simpa using hi
  clear hi
  go_enter Tryd.func11, Tryd.ntmps11
  go_upto_region 1 with fail
  refine to_cls ?_
  intro U0 hU0 y0
  have r_b : ∀ z : Wb U0, Row z.at (w.heap.size) [.int .i64 21, .int .i64 d, .int .i64 n, .int .i64 m, .int .i64 imm, .int .i64 7] 23 := Row.next (Row.new _ [.int .i64 21, .int .i64 d, .int .i64 n, .int .i64 m, .int .i64 imm, .int .i64 7] _) hU0
  have KK := Lib.hid (KB.next (KB.alloc (Below.refl _ _) _) hU0)
  clear hU0
  obtain ⟨c_b_0, c_b_1, c_b_2, c_b_3, c_b_4, c_b_5⟩ := six r_b
  go_wp2_with fail
  refine (RI.out _).mono ?_
  rintro e w1 ⟨rfl, g⟩
  obtain ⟨y1, rfl⟩ := Wb.next (x := y0) g
  clear g
  go_wp2_with fail
  refine (NU.out _).mono ?_
  rintro e w1 ⟨rfl, g⟩
  obtain ⟨y2, rfl⟩ := Wb.next (x := y1) g
  clear g
  go_wp2_with fail
  refine (NU.out _).mono ?_
  rintro e w1 ⟨rfl, g⟩
  obtain ⟨y3, rfl⟩ := Wb.next (x := y2) g
  clear g
  go_wp2_with fail
  refine (NA.out _).mono ?_
  rintro e w1 ⟨rfl, g⟩
  obtain ⟨y4, rfl⟩ := Wb.next (x := y3) g
  clear g
  go_wp2_with fail
  refine (TK.out _).mono ?_
  rintro e w1 ⟨rfl, g⟩
  obtain ⟨y5, rfl⟩ := Wb.next (x := y4) g
  clear g
  go_wp2_with fail
  refine (RG.out _ _ (by first | assumption | decide) (by first | assumption | decide)).mono ?_
  rintro e w1 ⟨rfl, g⟩
  obtain ⟨y6, rfl⟩ := Wb.next (x := y5) g
  clear g
  go_wp2
  go_ret
  exact ⟨by rw [← SA.out]; rfl, KK.out y6⟩

set_option maxRecDepth 100000 in
set_option maxHeartbeats 6400000 in
theorem rprint_23_0 (d n m imm : Int) (w : World) (hr : GrI.right ⟨23, d, n, m, imm, 0⟩) (hi : ¬ imm < 0) : Calls Tryd.prog 11 #[.agg #[.int .i64 23, .int .i64 d, .int .i64 n, .int .i64 m, .int .i64 imm, .int .i64 0]] w fun e w' => e = .returned (.string (strL (printR ⟨23, d, n, m, imm, 0⟩))) ∧ Below w.heap.size w w' := by
  obtain ⟨b1, b2⟩ := GrI.imm_bd hr
  obtain ⟨dn0, dn1, dn2, dn3, dn4, dn5⟩ := reg_bd hr
  simp only at b1 b2 dn0 dn1 dn2 dn3 dn4 dn5
  have RI := Lib.hid (fun w2 => pright_is ⟨23, d, n, m, imm, 0⟩ w2 true (by simpa [encB] using hr))
  unfold iv at RI
  simp only at RI
  have RG := Lib.hid (fun w2 (n : Int) (h0 : 0 ≤ n) (h1 : n ≤ 31) => rreg_any n w2 (by omega) (by omega))
  have NU := Lib.hid (fun w2 => rnum_any imm w2 b1 b2)
  have NA := Lib.hid (fun w2 => rnames_any 23 (by decide) (by decide) w2)
  obtain ⟨nm, hnm⟩ : ∃ s, s = strL (at! names 23) := ⟨_, rfl⟩
  rw [← hnm] at NA
  have znm : nm.size = 3 := by rw [hnm]; rfl
  obtain ⟨zu, hzu⟩ : ∃ z, z = (strL (num imm)).size := ⟨_, rfl⟩
  have ezu : (strL (num imm)).size = zu := hzu.symm
  have lzu : zu ≤ 65 := by rw [hzu, strL_size]; exact itoa_len64 b1 b2
  clear hzu
  obtain ⟨zd, hzd⟩ : ∃ z, z = (strL (reg d)).size := ⟨_, rfl⟩
  have ezd : (strL (reg d)).size = zd := hzd.symm
  have lzd : zd ≤ 65 := by rw [hzd, strL_size]; exact regK d
  clear hzd
  obtain ⟨c0, y0z, r0, hc0, s0, l0, n0⟩ := letter (⟨#[35]⟩ : ByteArray) (strL (num imm)) 1 zu 66 rfl ezu (by omega) (by decide)
  obtain ⟨c1, y1z, r1, hc1, s1, l1, n1⟩ := letter (⟨#[46, 43]⟩ : ByteArray) (strL (num imm)) 2 zu 67 rfl ezu (by omega) (by decide)
  obtain ⟨c2, y2z, r2, hc2, s2, l2, n2⟩ := letter nm (⟨#[32]⟩ : ByteArray) 3 1 4 znm rfl (by omega) (by decide)
  obtain ⟨c3, y3z, r3, hc3, s3, l3, n3⟩ := letter c2 (strL (reg d)) y2z zd 69 s2 ezd (by omega) (by decide)
  obtain ⟨c4, y4z, r4, hc4, s4, l4, n4⟩ := letter c3 (⟨#[44]⟩ : ByteArray) y3z 1 70 s3 rfl (by omega) (by decide)
  obtain ⟨c5, y5z, r5, hc5, s5, l5, n5⟩ := letter c4 (⟨#[69, 83, 82, 95, 69, 76, 49]⟩ : ByteArray) y4z 7 77 s4 rfl (by omega) (by decide)
  have SA := Lib.hid (show c5 = strL (printR ⟨23, d, n, m, imm, 0⟩) by
    rw [hc5, hc4, hc3, hc2]
    rw [hnm]
    show strL (at! names 23) ++ strL [32] ++ strL (reg d) ++ strL [44] ++ strL [69, 83, 82, 95, 69, 76, 49] = _
    rw [strL_app, strL_app, strL_app, strL_app]
    congr 1
    all_goals simp only [printR, Int.reduceEq, or_self, or_true, true_or, or_false, false_or, if_true, if_false, false_and, true_and, and_false, and_true, Int.reduceLE, Int.reduceLT, Int.reduceMod, and_self, reduceIte, systems]
    all_goals simp [at!, toT, cellT, num, systems])
  clear hr hnm hc0 hc1 hc2 hc3 hc4 hc5
  have i1 : decide (imm < 0) = false := by simpa using hi
  clear hi
  go_enter Tryd.func11, Tryd.ntmps11
  go_upto_region 1 with fail
  refine to_cls ?_
  intro U0 hU0 y0
  have r_b : ∀ z : Wb U0, Row z.at (w.heap.size) [.int .i64 23, .int .i64 d, .int .i64 n, .int .i64 m, .int .i64 imm, .int .i64 0] 23 := Row.next (Row.new _ [.int .i64 23, .int .i64 d, .int .i64 n, .int .i64 m, .int .i64 imm, .int .i64 0] _) hU0
  have KK := Lib.hid (KB.next (KB.alloc (Below.refl _ _) _) hU0)
  clear hU0
  obtain ⟨c_b_0, c_b_1, c_b_2, c_b_3, c_b_4, c_b_5⟩ := six r_b
  go_wp2_with fail
  refine (RI.out _).mono ?_
  rintro e w1 ⟨rfl, g⟩
  obtain ⟨y1, rfl⟩ := Wb.next (x := y0) g
  clear g
  go_wp2_with fail
  refine (NU.out _).mono ?_
  rintro e w1 ⟨rfl, g⟩
  obtain ⟨y2, rfl⟩ := Wb.next (x := y1) g
  clear g
  go_wp2_with fail
  refine (NU.out _).mono ?_
  rintro e w1 ⟨rfl, g⟩
  obtain ⟨y3, rfl⟩ := Wb.next (x := y2) g
  clear g
  go_wp2_with fail
  refine (NA.out _).mono ?_
  rintro e w1 ⟨rfl, g⟩
  obtain ⟨y4, rfl⟩ := Wb.next (x := y3) g
  clear g
  go_upto_region 46 with fail
  refine to_pt ?_
  intro U5 hU5
  clear c_b_0 c_b_1 c_b_2 c_b_3 c_b_4 c_b_5
  have r_b : ∀ z : Wb U5, Row z.at (w.heap.size) [.int .i64 23, .int .i64 d, .int .i64 n, .int .i64 m, .int .i64 imm, .int .i64 0] 23 := Row.next ((r_b y4).old _) hU5
  have r_l : ∀ z : Wb U5, Row z.at (y4.at.heap.size) [.string ⟨#[69, 83, 82, 95, 69, 76, 49]⟩, .string ⟨#[70, 65, 82, 95, 69, 76, 49]⟩, .string ⟨#[69, 76, 82, 95, 69, 76, 49]⟩] 9 := Row.next (Row.new _ [.string ⟨#[69, 83, 82, 95, 69, 76, 49]⟩, .string ⟨#[70, 65, 82, 95, 69, 76, 49]⟩, .string ⟨#[69, 76, 82, 95, 69, 76, 49]⟩] _) hU5
  have KK := Lib.hid (KB.next (KB.alloc (KK.out y4) _) hU5)
  clear hU5
  obtain ⟨c_b_0, c_b_1, c_b_2, c_b_3, c_b_4, c_b_5⟩ := six r_b
  have c_l_0 : ∀ z : Wb U5, z.at.cell? ⟨y4.at.heap.size, 0, none⟩ = some (.string ⟨#[69, 83, 82, 95, 69, 76, 49]⟩) := fun z => (r_l z).cell 0
  have c_l_1 : ∀ z : Wb U5, z.at.cell? ⟨y4.at.heap.size, 1, none⟩ = some (.string ⟨#[70, 65, 82, 95, 69, 76, 49]⟩) := fun z => (r_l z).cell 1
  have c_l_2 : ∀ z : Wb U5, z.at.cell? ⟨y4.at.heap.size, 2, none⟩ = some (.string ⟨#[69, 76, 82, 95, 69, 76, 49]⟩) := fun z => (r_l z).cell 2
  obtain ⟨lA, hlA⟩ : ∃ b, b = y4.at.heap.size := ⟨_, rfl⟩
  rw [← hlA] at r_l c_l_0 c_l_1 c_l_2
  simp only [← hlA]
  clear hlA
  refine wp_region_wb (by kernel_rfl) (by kernel_rfl) ?_
  repeat (go_big_quiet_step ((go_at_call 17; exact Calls.wb (RG.out _ _ (by first | assumption | decide) (by first | assumption | decide)))))
  refine wpQuiet_nil ?_
  rintro _ ⟨x6, rfl⟩
  go_wp2
  go_ret
  exact ⟨by rw [← SA.out]; rfl, KK.out x6⟩

set_option maxRecDepth 100000 in
set_option maxHeartbeats 6400000 in
theorem rprint_23_1 (d n m imm : Int) (w : World) (hr : GrI.right ⟨23, d, n, m, imm, 1⟩) (hi : ¬ imm < 0) : Calls Tryd.prog 11 #[.agg #[.int .i64 23, .int .i64 d, .int .i64 n, .int .i64 m, .int .i64 imm, .int .i64 1]] w fun e w' => e = .returned (.string (strL (printR ⟨23, d, n, m, imm, 1⟩))) ∧ Below w.heap.size w w' := by
  obtain ⟨b1, b2⟩ := GrI.imm_bd hr
  obtain ⟨dn0, dn1, dn2, dn3, dn4, dn5⟩ := reg_bd hr
  simp only at b1 b2 dn0 dn1 dn2 dn3 dn4 dn5
  have RI := Lib.hid (fun w2 => pright_is ⟨23, d, n, m, imm, 1⟩ w2 true (by simpa [encB] using hr))
  unfold iv at RI
  simp only at RI
  have RG := Lib.hid (fun w2 (n : Int) (h0 : 0 ≤ n) (h1 : n ≤ 31) => rreg_any n w2 (by omega) (by omega))
  have NU := Lib.hid (fun w2 => rnum_any imm w2 b1 b2)
  have NA := Lib.hid (fun w2 => rnames_any 23 (by decide) (by decide) w2)
  obtain ⟨nm, hnm⟩ : ∃ s, s = strL (at! names 23) := ⟨_, rfl⟩
  rw [← hnm] at NA
  have znm : nm.size = 3 := by rw [hnm]; rfl
  obtain ⟨zu, hzu⟩ : ∃ z, z = (strL (num imm)).size := ⟨_, rfl⟩
  have ezu : (strL (num imm)).size = zu := hzu.symm
  have lzu : zu ≤ 65 := by rw [hzu, strL_size]; exact itoa_len64 b1 b2
  clear hzu
  obtain ⟨zd, hzd⟩ : ∃ z, z = (strL (reg d)).size := ⟨_, rfl⟩
  have ezd : (strL (reg d)).size = zd := hzd.symm
  have lzd : zd ≤ 65 := by rw [hzd, strL_size]; exact regK d
  clear hzd
  obtain ⟨c0, y0z, r0, hc0, s0, l0, n0⟩ := letter (⟨#[35]⟩ : ByteArray) (strL (num imm)) 1 zu 66 rfl ezu (by omega) (by decide)
  obtain ⟨c1, y1z, r1, hc1, s1, l1, n1⟩ := letter (⟨#[46, 43]⟩ : ByteArray) (strL (num imm)) 2 zu 67 rfl ezu (by omega) (by decide)
  obtain ⟨c2, y2z, r2, hc2, s2, l2, n2⟩ := letter nm (⟨#[32]⟩ : ByteArray) 3 1 4 znm rfl (by omega) (by decide)
  obtain ⟨c3, y3z, r3, hc3, s3, l3, n3⟩ := letter c2 (strL (reg d)) y2z zd 69 s2 ezd (by omega) (by decide)
  obtain ⟨c4, y4z, r4, hc4, s4, l4, n4⟩ := letter c3 (⟨#[44]⟩ : ByteArray) y3z 1 70 s3 rfl (by omega) (by decide)
  obtain ⟨c5, y5z, r5, hc5, s5, l5, n5⟩ := letter c4 (⟨#[70, 65, 82, 95, 69, 76, 49]⟩ : ByteArray) y4z 7 77 s4 rfl (by omega) (by decide)
  have SA := Lib.hid (show c5 = strL (printR ⟨23, d, n, m, imm, 1⟩) by
    rw [hc5, hc4, hc3, hc2]
    rw [hnm]
    show strL (at! names 23) ++ strL [32] ++ strL (reg d) ++ strL [44] ++ strL [70, 65, 82, 95, 69, 76, 49] = _
    rw [strL_app, strL_app, strL_app, strL_app]
    congr 1
    all_goals simp only [printR, Int.reduceEq, or_self, or_true, true_or, or_false, false_or, if_true, if_false, false_and, true_and, and_false, and_true, Int.reduceLE, Int.reduceLT, Int.reduceMod, and_self, reduceIte, systems]
    all_goals simp [at!, toT, cellT, num, systems])
  clear hr hnm hc0 hc1 hc2 hc3 hc4 hc5
  have i1 : decide (imm < 0) = false := by simpa using hi
  clear hi
  go_enter Tryd.func11, Tryd.ntmps11
  go_upto_region 1 with fail
  refine to_cls ?_
  intro U0 hU0 y0
  have r_b : ∀ z : Wb U0, Row z.at (w.heap.size) [.int .i64 23, .int .i64 d, .int .i64 n, .int .i64 m, .int .i64 imm, .int .i64 1] 23 := Row.next (Row.new _ [.int .i64 23, .int .i64 d, .int .i64 n, .int .i64 m, .int .i64 imm, .int .i64 1] _) hU0
  have KK := Lib.hid (KB.next (KB.alloc (Below.refl _ _) _) hU0)
  clear hU0
  obtain ⟨c_b_0, c_b_1, c_b_2, c_b_3, c_b_4, c_b_5⟩ := six r_b
  go_wp2_with fail
  refine (RI.out _).mono ?_
  rintro e w1 ⟨rfl, g⟩
  obtain ⟨y1, rfl⟩ := Wb.next (x := y0) g
  clear g
  go_wp2_with fail
  refine (NU.out _).mono ?_
  rintro e w1 ⟨rfl, g⟩
  obtain ⟨y2, rfl⟩ := Wb.next (x := y1) g
  clear g
  go_wp2_with fail
  refine (NU.out _).mono ?_
  rintro e w1 ⟨rfl, g⟩
  obtain ⟨y3, rfl⟩ := Wb.next (x := y2) g
  clear g
  go_wp2_with fail
  refine (NA.out _).mono ?_
  rintro e w1 ⟨rfl, g⟩
  obtain ⟨y4, rfl⟩ := Wb.next (x := y3) g
  clear g
  go_upto_region 46 with fail
  refine to_pt ?_
  intro U5 hU5
  clear c_b_0 c_b_1 c_b_2 c_b_3 c_b_4 c_b_5
  have r_b : ∀ z : Wb U5, Row z.at (w.heap.size) [.int .i64 23, .int .i64 d, .int .i64 n, .int .i64 m, .int .i64 imm, .int .i64 1] 23 := Row.next ((r_b y4).old _) hU5
  have r_l : ∀ z : Wb U5, Row z.at (y4.at.heap.size) [.string ⟨#[69, 83, 82, 95, 69, 76, 49]⟩, .string ⟨#[70, 65, 82, 95, 69, 76, 49]⟩, .string ⟨#[69, 76, 82, 95, 69, 76, 49]⟩] 9 := Row.next (Row.new _ [.string ⟨#[69, 83, 82, 95, 69, 76, 49]⟩, .string ⟨#[70, 65, 82, 95, 69, 76, 49]⟩, .string ⟨#[69, 76, 82, 95, 69, 76, 49]⟩] _) hU5
  have KK := Lib.hid (KB.next (KB.alloc (KK.out y4) _) hU5)
  clear hU5
  obtain ⟨c_b_0, c_b_1, c_b_2, c_b_3, c_b_4, c_b_5⟩ := six r_b
  have c_l_0 : ∀ z : Wb U5, z.at.cell? ⟨y4.at.heap.size, 0, none⟩ = some (.string ⟨#[69, 83, 82, 95, 69, 76, 49]⟩) := fun z => (r_l z).cell 0
  have c_l_1 : ∀ z : Wb U5, z.at.cell? ⟨y4.at.heap.size, 1, none⟩ = some (.string ⟨#[70, 65, 82, 95, 69, 76, 49]⟩) := fun z => (r_l z).cell 1
  have c_l_2 : ∀ z : Wb U5, z.at.cell? ⟨y4.at.heap.size, 2, none⟩ = some (.string ⟨#[69, 76, 82, 95, 69, 76, 49]⟩) := fun z => (r_l z).cell 2
  obtain ⟨lA, hlA⟩ : ∃ b, b = y4.at.heap.size := ⟨_, rfl⟩
  rw [← hlA] at r_l c_l_0 c_l_1 c_l_2
  simp only [← hlA]
  clear hlA
  refine wp_region_wb (by kernel_rfl) (by kernel_rfl) ?_
  repeat (go_big_quiet_step ((go_at_call 17; exact Calls.wb (RG.out _ _ (by first | assumption | decide) (by first | assumption | decide)))))
  refine wpQuiet_nil ?_
  rintro _ ⟨x6, rfl⟩
  go_wp2
  go_ret
  exact ⟨by rw [← SA.out]; rfl, KK.out x6⟩

set_option maxRecDepth 100000 in
set_option maxHeartbeats 6400000 in
theorem rprint_23_2 (d n m imm : Int) (w : World) (hr : GrI.right ⟨23, d, n, m, imm, 2⟩) (hi : ¬ imm < 0) : Calls Tryd.prog 11 #[.agg #[.int .i64 23, .int .i64 d, .int .i64 n, .int .i64 m, .int .i64 imm, .int .i64 2]] w fun e w' => e = .returned (.string (strL (printR ⟨23, d, n, m, imm, 2⟩))) ∧ Below w.heap.size w w' := by
  obtain ⟨b1, b2⟩ := GrI.imm_bd hr
  obtain ⟨dn0, dn1, dn2, dn3, dn4, dn5⟩ := reg_bd hr
  simp only at b1 b2 dn0 dn1 dn2 dn3 dn4 dn5
  have RI := Lib.hid (fun w2 => pright_is ⟨23, d, n, m, imm, 2⟩ w2 true (by simpa [encB] using hr))
  unfold iv at RI
  simp only at RI
  have RG := Lib.hid (fun w2 (n : Int) (h0 : 0 ≤ n) (h1 : n ≤ 31) => rreg_any n w2 (by omega) (by omega))
  have NU := Lib.hid (fun w2 => rnum_any imm w2 b1 b2)
  have NA := Lib.hid (fun w2 => rnames_any 23 (by decide) (by decide) w2)
  obtain ⟨nm, hnm⟩ : ∃ s, s = strL (at! names 23) := ⟨_, rfl⟩
  rw [← hnm] at NA
  have znm : nm.size = 3 := by rw [hnm]; rfl
  obtain ⟨zu, hzu⟩ : ∃ z, z = (strL (num imm)).size := ⟨_, rfl⟩
  have ezu : (strL (num imm)).size = zu := hzu.symm
  have lzu : zu ≤ 65 := by rw [hzu, strL_size]; exact itoa_len64 b1 b2
  clear hzu
  obtain ⟨zd, hzd⟩ : ∃ z, z = (strL (reg d)).size := ⟨_, rfl⟩
  have ezd : (strL (reg d)).size = zd := hzd.symm
  have lzd : zd ≤ 65 := by rw [hzd, strL_size]; exact regK d
  clear hzd
  obtain ⟨c0, y0z, r0, hc0, s0, l0, n0⟩ := letter (⟨#[35]⟩ : ByteArray) (strL (num imm)) 1 zu 66 rfl ezu (by omega) (by decide)
  obtain ⟨c1, y1z, r1, hc1, s1, l1, n1⟩ := letter (⟨#[46, 43]⟩ : ByteArray) (strL (num imm)) 2 zu 67 rfl ezu (by omega) (by decide)
  obtain ⟨c2, y2z, r2, hc2, s2, l2, n2⟩ := letter nm (⟨#[32]⟩ : ByteArray) 3 1 4 znm rfl (by omega) (by decide)
  obtain ⟨c3, y3z, r3, hc3, s3, l3, n3⟩ := letter c2 (strL (reg d)) y2z zd 69 s2 ezd (by omega) (by decide)
  obtain ⟨c4, y4z, r4, hc4, s4, l4, n4⟩ := letter c3 (⟨#[44]⟩ : ByteArray) y3z 1 70 s3 rfl (by omega) (by decide)
  obtain ⟨c5, y5z, r5, hc5, s5, l5, n5⟩ := letter c4 (⟨#[69, 76, 82, 95, 69, 76, 49]⟩ : ByteArray) y4z 7 77 s4 rfl (by omega) (by decide)
  have SA := Lib.hid (show c5 = strL (printR ⟨23, d, n, m, imm, 2⟩) by
    rw [hc5, hc4, hc3, hc2]
    rw [hnm]
    show strL (at! names 23) ++ strL [32] ++ strL (reg d) ++ strL [44] ++ strL [69, 76, 82, 95, 69, 76, 49] = _
    rw [strL_app, strL_app, strL_app, strL_app]
    congr 1
    all_goals simp only [printR, Int.reduceEq, or_self, or_true, true_or, or_false, false_or, if_true, if_false, false_and, true_and, and_false, and_true, Int.reduceLE, Int.reduceLT, Int.reduceMod, and_self, reduceIte, systems]
    all_goals simp [at!, toT, cellT, num, systems])
  clear hr hnm hc0 hc1 hc2 hc3 hc4 hc5
  have i1 : decide (imm < 0) = false := by simpa using hi
  clear hi
  go_enter Tryd.func11, Tryd.ntmps11
  go_upto_region 1 with fail
  refine to_cls ?_
  intro U0 hU0 y0
  have r_b : ∀ z : Wb U0, Row z.at (w.heap.size) [.int .i64 23, .int .i64 d, .int .i64 n, .int .i64 m, .int .i64 imm, .int .i64 2] 23 := Row.next (Row.new _ [.int .i64 23, .int .i64 d, .int .i64 n, .int .i64 m, .int .i64 imm, .int .i64 2] _) hU0
  have KK := Lib.hid (KB.next (KB.alloc (Below.refl _ _) _) hU0)
  clear hU0
  obtain ⟨c_b_0, c_b_1, c_b_2, c_b_3, c_b_4, c_b_5⟩ := six r_b
  go_wp2_with fail
  refine (RI.out _).mono ?_
  rintro e w1 ⟨rfl, g⟩
  obtain ⟨y1, rfl⟩ := Wb.next (x := y0) g
  clear g
  go_wp2_with fail
  refine (NU.out _).mono ?_
  rintro e w1 ⟨rfl, g⟩
  obtain ⟨y2, rfl⟩ := Wb.next (x := y1) g
  clear g
  go_wp2_with fail
  refine (NU.out _).mono ?_
  rintro e w1 ⟨rfl, g⟩
  obtain ⟨y3, rfl⟩ := Wb.next (x := y2) g
  clear g
  go_wp2_with fail
  refine (NA.out _).mono ?_
  rintro e w1 ⟨rfl, g⟩
  obtain ⟨y4, rfl⟩ := Wb.next (x := y3) g
  clear g
  go_upto_region 46 with fail
  refine to_pt ?_
  intro U5 hU5
  clear c_b_0 c_b_1 c_b_2 c_b_3 c_b_4 c_b_5
  have r_b : ∀ z : Wb U5, Row z.at (w.heap.size) [.int .i64 23, .int .i64 d, .int .i64 n, .int .i64 m, .int .i64 imm, .int .i64 2] 23 := Row.next ((r_b y4).old _) hU5
  have r_l : ∀ z : Wb U5, Row z.at (y4.at.heap.size) [.string ⟨#[69, 83, 82, 95, 69, 76, 49]⟩, .string ⟨#[70, 65, 82, 95, 69, 76, 49]⟩, .string ⟨#[69, 76, 82, 95, 69, 76, 49]⟩] 9 := Row.next (Row.new _ [.string ⟨#[69, 83, 82, 95, 69, 76, 49]⟩, .string ⟨#[70, 65, 82, 95, 69, 76, 49]⟩, .string ⟨#[69, 76, 82, 95, 69, 76, 49]⟩] _) hU5
  have KK := Lib.hid (KB.next (KB.alloc (KK.out y4) _) hU5)
  clear hU5
  obtain ⟨c_b_0, c_b_1, c_b_2, c_b_3, c_b_4, c_b_5⟩ := six r_b
  have c_l_0 : ∀ z : Wb U5, z.at.cell? ⟨y4.at.heap.size, 0, none⟩ = some (.string ⟨#[69, 83, 82, 95, 69, 76, 49]⟩) := fun z => (r_l z).cell 0
  have c_l_1 : ∀ z : Wb U5, z.at.cell? ⟨y4.at.heap.size, 1, none⟩ = some (.string ⟨#[70, 65, 82, 95, 69, 76, 49]⟩) := fun z => (r_l z).cell 1
  have c_l_2 : ∀ z : Wb U5, z.at.cell? ⟨y4.at.heap.size, 2, none⟩ = some (.string ⟨#[69, 76, 82, 95, 69, 76, 49]⟩) := fun z => (r_l z).cell 2
  obtain ⟨lA, hlA⟩ : ∃ b, b = y4.at.heap.size := ⟨_, rfl⟩
  rw [← hlA] at r_l c_l_0 c_l_1 c_l_2
  simp only [← hlA]
  clear hlA
  refine wp_region_wb (by kernel_rfl) (by kernel_rfl) ?_
  repeat (go_big_quiet_step ((go_at_call 17; exact Calls.wb (RG.out _ _ (by first | assumption | decide) (by first | assumption | decide)))))
  refine wpQuiet_nil ?_
  rintro _ ⟨x6, rfl⟩
  go_wp2
  go_ret
  exact ⟨by rw [← SA.out]; rfl, KK.out x6⟩

end Go.Proofs.YtebpmngllljkaaaDoor
