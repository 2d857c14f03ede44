/-
  Layer 4, the walks: guess.
-/
import Derived.Test.YtebpmngllljkaaaDoorV1
set_option linter.unusedSimpArgs false
set_option linter.unusedVariables false
namespace Go.Proofs.YtebpmngllljkaaaDoor
open Go.RowKit GrP GrA


set_option maxRecDepth 100000 in
set_option maxHeartbeats 3200000 in
theorem aguess_7 (L : List Tx) (a : Addr) (k cap : Nat) (w : World) (ht : Tab w) (h : SlT w (.slice (some a) (k + 1) cap) L) (hs : Short L) (hn : L.length = k + 1) (hk : k ≤ 7) : Calls Tryd.prog 34 #[.int .i64 7, .slice (some a) (k + 1) cap] w fun e w' => e = .returned (iv (guess 7 L)) ∧ Below w.heap.size w w' := by
  have TH := Lib.hid ht
  have SH := Lib.hid h
  obtain ⟨te, hte⟩ : ∃ t, t = L.getD k [] := ⟨_, rfl⟩
  have CE := Lib.hid (show w.cell? (a.add k) = _ from slT_at h k (by omega))
  rw [← hte] at CE
  obtain ⟨r1, hr1⟩ : ∃ r, r = register L 1 := ⟨_, rfl⟩
  have R1 := Lib.hid (fun w2 (t2 : Tab w2) (s2 : SlT w2 (.slice (some a) (k + 1) cap) L) => aregister_any L _ 1 w2 t2.tb s2 (by omega))
  rw [← hr1] at R1
  obtain ⟨r3, hr3⟩ : ∃ r, r = register L 3 := ⟨_, rfl⟩
  have R3 := Lib.hid (fun w2 (t2 : Tab w2) (s2 : SlT w2 (.slice (some a) (k + 1) cap) L) => aregister_any L _ 3 w2 t2.tb s2 (by omega))
  rw [← hr3] at R3
  obtain ⟨ml, hml⟩ : ∃ m, m = numberIn (lastW L) := ⟨_, rfl⟩
  have NL := Lib.hid (fun w2 (s2 : SlT w2 (.slice (some a) (k + 1) cap) L) => last_any L _ w2 s2 hs (by omega))
  rw [← hml] at NL
  have SP := Lib.hid (show guess 7 L = ⟨7, r1, r3, 0, ml, 0⟩ by
    simp [guess, hr1, hr3, hml])
  have n0 : (0 : Int) ≤ (k : Int) := by omega
  have n1 : (k : Int) ≤ 7 := by omega
  have n2 : ((k + 1 : Nat) : Int) = (k : Int) + 1 := by omega
  have n3 : (k : Int) < (k : Int) + 1 := by omega
  have n4 : (k : Int) + 1 - 1 = (k : Int) := by omega
  clear ht h hs hn hte hk hr1 hr3 hml
  go_enter Tryd.func34, Tryd.ntmps34
  go_upto_region 2 with fail
  refine to_cls ?_
  intro U0 hU0 y0
  have r_b : ∀ z : Wb U0, Row z.at (w.heap.size) [.int .i64 0, .int .i64 0, .int .i64 0, .int .i64 0, .int .i64 0, .int .i64 0] 23 := Row.next (Row.old (Row.new' _ [.int .i64 0, .int .i64 0, .int .i64 0, .int .i64 0, .int .i64 0, .int .i64 0] _ _ (by simp)) _) hU0
  have r_c : ∀ z : Wb U0, Row z.at (w.heap.size + 1) [.int .i64 7, .int .i64 0, .int .i64 0, .int .i64 0, .int .i64 0, .int .i64 0] 23 := Row.next (Row.new' _ [.int .i64 7, .int .i64 0, .int .i64 0, .int .i64 0, .int .i64 0, .int .i64 0] _ _ (by simp)) hU0
  have KK := Lib.hid (KB.next (KB.alloc (KB.alloc (Below.refl _ _) _) _) hU0)
  have TZ := Lib.hid (fun z : Wb U0 => ((TH.out.below (KB.alloc (KB.alloc (Below.refl w.heap.size w) _) _)).below hU0).below z.bel)
  have SZ := Lib.hid (fun z : Wb U0 => ((SH.out.below (KB.alloc (KB.alloc (Below.refl w.heap.size w) _) _)).below hU0).below z.bel)
  clear hU0
  obtain ⟨c_b_0, c_b_1, c_b_2, c_b_3, c_b_4, c_b_5⟩ := six r_b
  obtain ⟨c_c_0, c_c_1, c_c_2, c_c_3, c_c_4, c_c_5⟩ := six r_c
  have f_b := rfree r_b
  have f_c := rfree r_c
  have ce := keepc KK CE
  go_wp2_with fail
  refine (R1.out _ (TZ.out y0) (SZ.out y0)).mono ?_
  rintro e w1 ⟨rfl, g⟩
  obtain ⟨y1, rfl⟩ := Wb.next (x := y0) g
  clear g
  go_wp2_with fail
  refine (R3.out _ (TZ.out y1) (SZ.out y1)).mono ?_
  rintro e w1 ⟨rfl, g⟩
  obtain ⟨y2, rfl⟩ := Wb.next (x := y1) g
  clear g
  go_wp2_with fail
  refine (NL.out _ (SZ.out y2)).mono ?_
  rintro e w1 ⟨rfl, g⟩
  obtain ⟨y3, rfl⟩ := Wb.next (x := y2) g
  clear g
  go_upto_region 45 with fail
  refine to_cls ?_
  intro U4 hU4 y4
  clear c_b_0 c_b_1 c_b_2 c_b_3 c_b_4 c_b_5 c_c_0 c_c_1 c_c_2 c_c_3 c_c_4 c_c_5 f_b f_c ce
  have r_b : ∀ z : Wb U4, Row z.at (w.heap.size) [.int .i64 0, .int .i64 0, .int .i64 0, .int .i64 0, .int .i64 0, .int .i64 0] 23 := Row.next ((((r_b y3).oth (by omega) _ _).oth (by omega) _ _).oth (by omega) _ _) hU4
  have r_c : ∀ z : Wb U4, Row z.at (w.heap.size + 1) [.int .i64 7, .int .i64 r1, .int .i64 r3, .int .i64 0, .int .i64 ml, .int .i64 0] 23 := Row.next ((((r_c y3).set _ _).set _ _).set _ _) hU4
  have KK := Lib.hid (KB.next (KB.put (KB.put (KB.put (KK.out y3) (by omega) _ _) (by omega) _ _) (by omega) _ _) hU4)
  clear hU4
  obtain ⟨c_b_0, c_b_1, c_b_2, c_b_3, c_b_4, c_b_5⟩ := six r_b
  obtain ⟨c_c_0, c_c_1, c_c_2, c_c_3, c_c_4, c_c_5⟩ := six r_c
  have TZ := Lib.hid fun z => TH.out.below (KK.out z)
  have SZ := Lib.hid fun z => SH.out.below (KK.out z)
  have f_b := rfree r_b
  have f_c := rfree r_c
  have ce := keepc KK CE
  go_wp2
  refine bodyPost_ret (v := iv ⟨7, r1, r3, 0, ml, 0⟩) (by simp [results, Tryd.results34, go_sem, iv, *]) rfl ⟨by rw [SP.out], ?_⟩
  repeat' (first | (with_reducible exact KK.out y4) | (with_reducible refine Below.setCell ?_ ?_ _) | (simp; done) | (simp; omega) | omega)

set_option maxRecDepth 100000 in
set_option maxHeartbeats 3200000 in
theorem aguess_8_c (L : List Tx) (a : Addr) (k cap : Nat) (w : World) (ht : Tab w) (h : SlT w (.slice (some a) (k + 1) cap) L) (hs : Short L) (hn : L.length = k + 1) (hk : k ≤ 7) (hc : L.getD 0 [] = CMP) : Calls Tryd.prog 34 #[.int .i64 8, .slice (some a) (k + 1) cap] w fun e w' => e = .returned (iv (guess 8 L)) ∧ Below w.heap.size w w' := by
  have TH := Lib.hid ht
  have SH := Lib.hid h
  obtain ⟨te, hte⟩ : ∃ t, t = L.getD k [] := ⟨_, rfl⟩
  have CE := Lib.hid (show w.cell? (a.add k) = _ from slT_at h k (by omega))
  rw [← hte] at CE
  obtain ⟨t0, ht0⟩ : ∃ t, t = L.getD 0 [] := ⟨_, rfl⟩
  have C0 := Lib.hid (show w.cell? (a) = _ from slT_at h 0 (by omega))
  rw [← ht0] at C0
  obtain ⟨r1, hr1⟩ : ∃ r, r = register L 1 := ⟨_, rfl⟩
  have R1 := Lib.hid (fun w2 (t2 : Tab w2) (s2 : SlT w2 (.slice (some a) (k + 1) cap) L) => aregister_any L _ 1 w2 t2.tb s2 (by omega))
  rw [← hr1] at R1
  obtain ⟨r3, hr3⟩ : ∃ r, r = register L 3 := ⟨_, rfl⟩
  have R3 := Lib.hid (fun w2 (t2 : Tab w2) (s2 : SlT w2 (.slice (some a) (k + 1) cap) L) => aregister_any L _ 3 w2 t2.tb s2 (by omega))
  rw [← hr3] at R3
  obtain ⟨r5, hr5⟩ : ∃ r, r = register L 5 := ⟨_, rfl⟩
  have R5 := Lib.hid (fun w2 (t2 : Tab w2) (s2 : SlT w2 (.slice (some a) (k + 1) cap) L) => aregister_any L _ 5 w2 t2.tb s2 (by omega))
  rw [← hr5] at R5
  have SP := Lib.hid (show guess 8 L = ⟨8, 31, r1, r3, 0, 0⟩ by
    rw [guess, if_neg (by omega), if_neg (by omega), if_neg (by omega), if_pos (by omega), if_pos hc, ← hr1, ← hr3])
  have n0 : (0 : Int) ≤ (k : Int) := by omega
  have n1 : (k : Int) ≤ 7 := by omega
  have n2 : ((k + 1 : Nat) : Int) = (k : Int) + 1 := by omega
  have n3 : (k : Int) < (k : Int) + 1 := by omega
  have n4 : (k : Int) + 1 - 1 = (k : Int) := by omega
  have hc2 : ((strL t0).toList == [67, 77, 80]) = true := str_lit_eq (by rw [ht0]; exact hc)
  clear hc
  clear ht h hs hn hte hk ht0 hr1 hr3 hr5
  go_enter Tryd.func34, Tryd.ntmps34
  go_upto_region 2 with fail
  refine to_cls ?_
  intro U0 hU0 y0
  have r_b : ∀ z : Wb U0, Row z.at (w.heap.size) [.int .i64 0, .int .i64 0, .int .i64 0, .int .i64 0, .int .i64 0, .int .i64 0] 23 := Row.next (Row.old (Row.new' _ [.int .i64 0, .int .i64 0, .int .i64 0, .int .i64 0, .int .i64 0, .int .i64 0] _ _ (by simp)) _) hU0
  have r_c : ∀ z : Wb U0, Row z.at (w.heap.size + 1) [.int .i64 8, .int .i64 0, .int .i64 0, .int .i64 0, .int .i64 0, .int .i64 0] 23 := Row.next (Row.new' _ [.int .i64 8, .int .i64 0, .int .i64 0, .int .i64 0, .int .i64 0, .int .i64 0] _ _ (by simp)) hU0
  have KK := Lib.hid (KB.next (KB.alloc (KB.alloc (Below.refl _ _) _) _) hU0)
  have TZ := Lib.hid (fun z : Wb U0 => ((TH.out.below (KB.alloc (KB.alloc (Below.refl w.heap.size w) _) _)).below hU0).below z.bel)
  have SZ := Lib.hid (fun z : Wb U0 => ((SH.out.below (KB.alloc (KB.alloc (Below.refl w.heap.size w) _) _)).below hU0).below z.bel)
  clear hU0
  obtain ⟨c_b_0, c_b_1, c_b_2, c_b_3, c_b_4, c_b_5⟩ := six r_b
  obtain ⟨c_c_0, c_c_1, c_c_2, c_c_3, c_c_4, c_c_5⟩ := six r_c
  have f_b := rfree r_b
  have f_c := rfree r_c
  have ce := keepc KK CE
  have ct0 := keepc KK C0
  go_wp2_with fail
  refine (R1.out _ (TZ.out y0) (SZ.out y0)).mono ?_
  rintro e w1 ⟨rfl, g⟩
  obtain ⟨y1, rfl⟩ := Wb.next (x := y0) g
  clear g
  go_wp2_with fail
  refine (R3.out _ (TZ.out y1) (SZ.out y1)).mono ?_
  rintro e w1 ⟨rfl, g⟩
  obtain ⟨y2, rfl⟩ := Wb.next (x := y1) g
  clear g
  go_wp2_with fail
  refine (R5.out _ (TZ.out y2) (SZ.out y2)).mono ?_
  rintro e w1 ⟨rfl, g⟩
  obtain ⟨y3, rfl⟩ := Wb.next (x := y2) g
  clear g
  go_upto_region 26 with fail
  refine to_cls ?_
  intro U4 hU4 y4
  clear c_b_0 c_b_1 c_b_2 c_b_3 c_b_4 c_b_5 c_c_0 c_c_1 c_c_2 c_c_3 c_c_4 c_c_5 f_b f_c ce ct0
  have r_b : ∀ z : Wb U4, Row z.at (w.heap.size) [.int .i64 0, .int .i64 0, .int .i64 0, .int .i64 0, .int .i64 0, .int .i64 0] 23 := Row.next ((((r_b y3).oth (by omega) _ _).oth (by omega) _ _).oth (by omega) _ _) hU4
  have r_c : ∀ z : Wb U4, Row z.at (w.heap.size + 1) [.int .i64 8, .int .i64 r1, .int .i64 r3, .int .i64 r5, .int .i64 0, .int .i64 0] 23 := Row.next ((((r_c y3).set _ _).set _ _).set _ _) hU4
  have KK := Lib.hid (KB.next (KB.put (KB.put (KB.put (KK.out y3) (by omega) _ _) (by omega) _ _) (by omega) _ _) hU4)
  clear hU4
  obtain ⟨c_b_0, c_b_1, c_b_2, c_b_3, c_b_4, c_b_5⟩ := six r_b
  obtain ⟨c_c_0, c_c_1, c_c_2, c_c_3, c_c_4, c_c_5⟩ := six r_c
  have TZ := Lib.hid fun z => TH.out.below (KK.out z)
  have SZ := Lib.hid fun z => SH.out.below (KK.out z)
  have f_b := rfree r_b
  have f_c := rfree r_c
  have ce := keepc KK CE
  have ct0 := keepc KK C0
  go_wp2_with fail
  refine (R1.out _ (TZ.out y4) (SZ.out y4)).mono ?_
  rintro e w1 ⟨rfl, g⟩
  obtain ⟨y5, rfl⟩ := Wb.next (x := y4) g
  clear g
  go_wp2_with fail
  refine (R3.out _ (TZ.out y5) (SZ.out y5)).mono ?_
  rintro e w1 ⟨rfl, g⟩
  obtain ⟨y6, rfl⟩ := Wb.next (x := y5) g
  clear g
  go_upto_region 45 with fail
  refine to_cls ?_
  intro U7 hU7 y7
  clear c_b_0 c_b_1 c_b_2 c_b_3 c_b_4 c_b_5 c_c_0 c_c_1 c_c_2 c_c_3 c_c_4 c_c_5 f_b f_c ce ct0
  have r_b : ∀ z : Wb U7, Row z.at (w.heap.size) [.int .i64 0, .int .i64 0, .int .i64 0, .int .i64 0, .int .i64 0, .int .i64 0] 23 := Row.next ((((r_b y6).oth (by omega) _ _).oth (by omega) _ _).oth (by omega) _ _) hU7
  have r_c : ∀ z : Wb U7, Row z.at (w.heap.size + 1) [.int .i64 8, .int .i64 31, .int .i64 r1, .int .i64 r3, .int .i64 0, .int .i64 0] 23 := Row.next ((((r_c y6).set _ _).set _ _).set _ _) hU7
  have KK := Lib.hid (KB.next (KB.put (KB.put (KB.put (KK.out y6) (by omega) _ _) (by omega) _ _) (by omega) _ _) hU7)
  clear hU7
  obtain ⟨c_b_0, c_b_1, c_b_2, c_b_3, c_b_4, c_b_5⟩ := six r_b
  obtain ⟨c_c_0, c_c_1, c_c_2, c_c_3, c_c_4, c_c_5⟩ := six r_c
  have TZ := Lib.hid fun z => TH.out.below (KK.out z)
  have SZ := Lib.hid fun z => SH.out.below (KK.out z)
  have f_b := rfree r_b
  have f_c := rfree r_c
  have ce := keepc KK CE
  have ct0 := keepc KK C0
  go_wp2
  refine bodyPost_ret (v := iv ⟨8, 31, r1, r3, 0, 0⟩) (by simp [results, Tryd.results34, go_sem, iv, *]) rfl ⟨by rw [SP.out], ?_⟩
  repeat' (first | (with_reducible exact KK.out y7) | (with_reducible refine Below.setCell ?_ ?_ _) | (simp; done) | (simp; omega) | omega)

set_option maxRecDepth 100000 in
set_option maxHeartbeats 3200000 in
theorem aguess_8_n (L : List Tx) (a : Addr) (k cap : Nat) (w : World) (ht : Tab w) (h : SlT w (.slice (some a) (k + 1) cap) L) (hs : Short L) (hn : L.length = k + 1) (hk : k ≤ 7) (hc : ¬ L.getD 0 [] = CMP) : Calls Tryd.prog 34 #[.int .i64 8, .slice (some a) (k + 1) cap] w fun e w' => e = .returned (iv (guess 8 L)) ∧ Below w.heap.size w w' := by
  have TH := Lib.hid ht
  have SH := Lib.hid h
  obtain ⟨te, hte⟩ : ∃ t, t = L.getD k [] := ⟨_, rfl⟩
  have CE := Lib.hid (show w.cell? (a.add k) = _ from slT_at h k (by omega))
  rw [← hte] at CE
  obtain ⟨t0, ht0⟩ : ∃ t, t = L.getD 0 [] := ⟨_, rfl⟩
  have C0 := Lib.hid (show w.cell? (a) = _ from slT_at h 0 (by omega))
  rw [← ht0] at C0
  obtain ⟨r1, hr1⟩ : ∃ r, r = register L 1 := ⟨_, rfl⟩
  have R1 := Lib.hid (fun w2 (t2 : Tab w2) (s2 : SlT w2 (.slice (some a) (k + 1) cap) L) => aregister_any L _ 1 w2 t2.tb s2 (by omega))
  rw [← hr1] at R1
  obtain ⟨r3, hr3⟩ : ∃ r, r = register L 3 := ⟨_, rfl⟩
  have R3 := Lib.hid (fun w2 (t2 : Tab w2) (s2 : SlT w2 (.slice (some a) (k + 1) cap) L) => aregister_any L _ 3 w2 t2.tb s2 (by omega))
  rw [← hr3] at R3
  obtain ⟨r5, hr5⟩ : ∃ r, r = register L 5 := ⟨_, rfl⟩
  have R5 := Lib.hid (fun w2 (t2 : Tab w2) (s2 : SlT w2 (.slice (some a) (k + 1) cap) L) => aregister_any L _ 5 w2 t2.tb s2 (by omega))
  rw [← hr5] at R5
  have SP := Lib.hid (show guess 8 L = ⟨8, r1, r3, r5, 0, 0⟩ by
    rw [guess, if_neg (by omega), if_neg (by omega), if_neg (by omega), if_pos (by omega), if_neg hc, ← hr1, ← hr3, ← hr5])
  have n0 : (0 : Int) ≤ (k : Int) := by omega
  have n1 : (k : Int) ≤ 7 := by omega
  have n2 : ((k + 1 : Nat) : Int) = (k : Int) + 1 := by omega
  have n3 : (k : Int) < (k : Int) + 1 := by omega
  have n4 : (k : Int) + 1 - 1 = (k : Int) := by omega
  have hc2 : ((strL t0).toList == [67, 77, 80]) = false := str_lit_ne (by rw [ht0]; exact hc)
  clear hc
  clear ht h hs hn hte hk ht0 hr1 hr3 hr5
  go_enter Tryd.func34, Tryd.ntmps34
  go_upto_region 2 with fail
  refine to_cls ?_
  intro U0 hU0 y0
  have r_b : ∀ z : Wb U0, Row z.at (w.heap.size) [.int .i64 0, .int .i64 0, .int .i64 0, .int .i64 0, .int .i64 0, .int .i64 0] 23 := Row.next (Row.old (Row.new' _ [.int .i64 0, .int .i64 0, .int .i64 0, .int .i64 0, .int .i64 0, .int .i64 0] _ _ (by simp)) _) hU0
  have r_c : ∀ z : Wb U0, Row z.at (w.heap.size + 1) [.int .i64 8, .int .i64 0, .int .i64 0, .int .i64 0, .int .i64 0, .int .i64 0] 23 := Row.next (Row.new' _ [.int .i64 8, .int .i64 0, .int .i64 0, .int .i64 0, .int .i64 0, .int .i64 0] _ _ (by simp)) hU0
  have KK := Lib.hid (KB.next (KB.alloc (KB.alloc (Below.refl _ _) _) _) hU0)
  have TZ := Lib.hid (fun z : Wb U0 => ((TH.out.below (KB.alloc (KB.alloc (Below.refl w.heap.size w) _) _)).below hU0).below z.bel)
  have SZ := Lib.hid (fun z : Wb U0 => ((SH.out.below (KB.alloc (KB.alloc (Below.refl w.heap.size w) _) _)).below hU0).below z.bel)
  clear hU0
  obtain ⟨c_b_0, c_b_1, c_b_2, c_b_3, c_b_4, c_b_5⟩ := six r_b
  obtain ⟨c_c_0, c_c_1, c_c_2, c_c_3, c_c_4, c_c_5⟩ := six r_c
  have f_b := rfree r_b
  have f_c := rfree r_c
  have ce := keepc KK CE
  have ct0 := keepc KK C0
  go_wp2_with fail
  refine (R1.out _ (TZ.out y0) (SZ.out y0)).mono ?_
  rintro e w1 ⟨rfl, g⟩
  obtain ⟨y1, rfl⟩ := Wb.next (x := y0) g
  clear g
  go_wp2_with fail
  refine (R3.out _ (TZ.out y1) (SZ.out y1)).mono ?_
  rintro e w1 ⟨rfl, g⟩
  obtain ⟨y2, rfl⟩ := Wb.next (x := y1) g
  clear g
  go_wp2_with fail
  refine (R5.out _ (TZ.out y2) (SZ.out y2)).mono ?_
  rintro e w1 ⟨rfl, g⟩
  obtain ⟨y3, rfl⟩ := Wb.next (x := y2) g
  clear g
  go_upto_region 26 with fail
  refine to_cls ?_
  intro U4 hU4 y4
  clear c_b_0 c_b_1 c_b_2 c_b_3 c_b_4 c_b_5 c_c_0 c_c_1 c_c_2 c_c_3 c_c_4 c_c_5 f_b f_c ce ct0
  have r_b : ∀ z : Wb U4, Row z.at (w.heap.size) [.int .i64 0, .int .i64 0, .int .i64 0, .int .i64 0, .int .i64 0, .int .i64 0] 23 := Row.next ((((r_b y3).oth (by omega) _ _).oth (by omega) _ _).oth (by omega) _ _) hU4
  have r_c : ∀ z : Wb U4, Row z.at (w.heap.size + 1) [.int .i64 8, .int .i64 r1, .int .i64 r3, .int .i64 r5, .int .i64 0, .int .i64 0] 23 := Row.next ((((r_c y3).set _ _).set _ _).set _ _) hU4
  have KK := Lib.hid (KB.next (KB.put (KB.put (KB.put (KK.out y3) (by omega) _ _) (by omega) _ _) (by omega) _ _) hU4)
  clear hU4
  obtain ⟨c_b_0, c_b_1, c_b_2, c_b_3, c_b_4, c_b_5⟩ := six r_b
  obtain ⟨c_c_0, c_c_1, c_c_2, c_c_3, c_c_4, c_c_5⟩ := six r_c
  have TZ := Lib.hid fun z => TH.out.below (KK.out z)
  have SZ := Lib.hid fun z => SH.out.below (KK.out z)
  have f_b := rfree r_b
  have f_c := rfree r_c
  have ce := keepc KK CE
  have ct0 := keepc KK C0
  go_wp2
  refine bodyPost_ret (v := iv ⟨8, r1, r3, r5, 0, 0⟩) (by simp [results, Tryd.results34, go_sem, iv, *]) rfl ⟨by rw [SP.out], ?_⟩
  repeat' (first | (with_reducible exact KK.out y4) | (with_reducible refine Below.setCell ?_ ?_ _) | (simp; done) | (simp; omega) | omega)

set_option maxRecDepth 100000 in
set_option maxHeartbeats 3200000 in
theorem aguess_9_c (L : List Tx) (a : Addr) (k cap : Nat) (w : World) (ht : Tab w) (h : SlT w (.slice (some a) (k + 1) cap) L) (hs : Short L) (hn : L.length = k + 1) (hk : k ≤ 7) (hc : L.getD 0 [] = CMP) : Calls Tryd.prog 34 #[.int .i64 9, .slice (some a) (k + 1) cap] w fun e w' => e = .returned (iv (guess 9 L)) ∧ Below w.heap.size w w' := by
  have TH := Lib.hid ht
  have SH := Lib.hid h
  obtain ⟨te, hte⟩ : ∃ t, t = L.getD k [] := ⟨_, rfl⟩
  have CE := Lib.hid (show w.cell? (a.add k) = _ from slT_at h k (by omega))
  rw [← hte] at CE
  obtain ⟨t0, ht0⟩ : ∃ t, t = L.getD 0 [] := ⟨_, rfl⟩
  have C0 := Lib.hid (show w.cell? (a) = _ from slT_at h 0 (by omega))
  rw [← ht0] at C0
  obtain ⟨r1, hr1⟩ : ∃ r, r = register L 1 := ⟨_, rfl⟩
  have R1 := Lib.hid (fun w2 (t2 : Tab w2) (s2 : SlT w2 (.slice (some a) (k + 1) cap) L) => aregister_any L _ 1 w2 t2.tb s2 (by omega))
  rw [← hr1] at R1
  obtain ⟨r3, hr3⟩ : ∃ r, r = register L 3 := ⟨_, rfl⟩
  have R3 := Lib.hid (fun w2 (t2 : Tab w2) (s2 : SlT w2 (.slice (some a) (k + 1) cap) L) => aregister_any L _ 3 w2 t2.tb s2 (by omega))
  rw [← hr3] at R3
  obtain ⟨r5, hr5⟩ : ∃ r, r = register L 5 := ⟨_, rfl⟩
  have R5 := Lib.hid (fun w2 (t2 : Tab w2) (s2 : SlT w2 (.slice (some a) (k + 1) cap) L) => aregister_any L _ 5 w2 t2.tb s2 (by omega))
  rw [← hr5] at R5
  have SP := Lib.hid (show guess 9 L = ⟨9, 31, r1, r3, 0, 0⟩ by
    rw [guess, if_neg (by omega), if_neg (by omega), if_neg (by omega), if_pos (by omega), if_pos hc, ← hr1, ← hr3])
  have n0 : (0 : Int) ≤ (k : Int) := by omega
  have n1 : (k : Int) ≤ 7 := by omega
  have n2 : ((k + 1 : Nat) : Int) = (k : Int) + 1 := by omega
  have n3 : (k : Int) < (k : Int) + 1 := by omega
  have n4 : (k : Int) + 1 - 1 = (k : Int) := by omega
  have hc2 : ((strL t0).toList == [67, 77, 80]) = true := str_lit_eq (by rw [ht0]; exact hc)
  clear hc
  clear ht h hs hn hte hk ht0 hr1 hr3 hr5
  go_enter Tryd.func34, Tryd.ntmps34
  go_upto_region 2 with fail
  refine to_cls ?_
  intro U0 hU0 y0
  have r_b : ∀ z : Wb U0, Row z.at (w.heap.size) [.int .i64 0, .int .i64 0, .int .i64 0, .int .i64 0, .int .i64 0, .int .i64 0] 23 := Row.next (Row.old (Row.new' _ [.int .i64 0, .int .i64 0, .int .i64 0, .int .i64 0, .int .i64 0, .int .i64 0] _ _ (by simp)) _) hU0
  have r_c : ∀ z : Wb U0, Row z.at (w.heap.size + 1) [.int .i64 9, .int .i64 0, .int .i64 0, .int .i64 0, .int .i64 0, .int .i64 0] 23 := Row.next (Row.new' _ [.int .i64 9, .int .i64 0, .int .i64 0, .int .i64 0, .int .i64 0, .int .i64 0] _ _ (by simp)) hU0
  have KK := Lib.hid (KB.next (KB.alloc (KB.alloc (Below.refl _ _) _) _) hU0)
  have TZ := Lib.hid (fun z : Wb U0 => ((TH.out.below (KB.alloc (KB.alloc (Below.refl w.heap.size w) _) _)).below hU0).below z.bel)
  have SZ := Lib.hid (fun z : Wb U0 => ((SH.out.below (KB.alloc (KB.alloc (Below.refl w.heap.size w) _) _)).below hU0).below z.bel)
  clear hU0
  obtain ⟨c_b_0, c_b_1, c_b_2, c_b_3, c_b_4, c_b_5⟩ := six r_b
  obtain ⟨c_c_0, c_c_1, c_c_2, c_c_3, c_c_4, c_c_5⟩ := six r_c
  have f_b := rfree r_b
  have f_c := rfree r_c
  have ce := keepc KK CE
  have ct0 := keepc KK C0
  go_wp2_with fail
  refine (R1.out _ (TZ.out y0) (SZ.out y0)).mono ?_
  rintro e w1 ⟨rfl, g⟩
  obtain ⟨y1, rfl⟩ := Wb.next (x := y0) g
  clear g
  go_wp2_with fail
  refine (R3.out _ (TZ.out y1) (SZ.out y1)).mono ?_
  rintro e w1 ⟨rfl, g⟩
  obtain ⟨y2, rfl⟩ := Wb.next (x := y1) g
  clear g
  go_wp2_with fail
  refine (R5.out _ (TZ.out y2) (SZ.out y2)).mono ?_
  rintro e w1 ⟨rfl, g⟩
  obtain ⟨y3, rfl⟩ := Wb.next (x := y2) g
  clear g
  go_upto_region 26 with fail
  refine to_cls ?_
  intro U4 hU4 y4
  clear c_b_0 c_b_1 c_b_2 c_b_3 c_b_4 c_b_5 c_c_0 c_c_1 c_c_2 c_c_3 c_c_4 c_c_5 f_b f_c ce ct0
  have r_b : ∀ z : Wb U4, Row z.at (w.heap.size) [.int .i64 0, .int .i64 0, .int .i64 0, .int .i64 0, .int .i64 0, .int .i64 0] 23 := Row.next ((((r_b y3).oth (by omega) _ _).oth (by omega) _ _).oth (by omega) _ _) hU4
  have r_c : ∀ z : Wb U4, Row z.at (w.heap.size + 1) [.int .i64 9, .int .i64 r1, .int .i64 r3, .int .i64 r5, .int .i64 0, .int .i64 0] 23 := Row.next ((((r_c y3).set _ _).set _ _).set _ _) hU4
  have KK := Lib.hid (KB.next (KB.put (KB.put (KB.put (KK.out y3) (by omega) _ _) (by omega) _ _) (by omega) _ _) hU4)
  clear hU4
  obtain ⟨c_b_0, c_b_1, c_b_2, c_b_3, c_b_4, c_b_5⟩ := six r_b
  obtain ⟨c_c_0, c_c_1, c_c_2, c_c_3, c_c_4, c_c_5⟩ := six r_c
  have TZ := Lib.hid fun z => TH.out.below (KK.out z)
  have SZ := Lib.hid fun z => SH.out.below (KK.out z)
  have f_b := rfree r_b
  have f_c := rfree r_c
  have ce := keepc KK CE
  have ct0 := keepc KK C0
  go_wp2_with fail
  refine (R1.out _ (TZ.out y4) (SZ.out y4)).mono ?_
  rintro e w1 ⟨rfl, g⟩
  obtain ⟨y5, rfl⟩ := Wb.next (x := y4) g
  clear g
  go_wp2_with fail
  refine (R3.out _ (TZ.out y5) (SZ.out y5)).mono ?_
  rintro e w1 ⟨rfl, g⟩
  obtain ⟨y6, rfl⟩ := Wb.next (x := y5) g
  clear g
  go_upto_region 45 with fail
  refine to_cls ?_
  intro U7 hU7 y7
  clear c_b_0 c_b_1 c_b_2 c_b_3 c_b_4 c_b_5 c_c_0 c_c_1 c_c_2 c_c_3 c_c_4 c_c_5 f_b f_c ce ct0
  have r_b : ∀ z : Wb U7, Row z.at (w.heap.size) [.int .i64 0, .int .i64 0, .int .i64 0, .int .i64 0, .int .i64 0, .int .i64 0] 23 := Row.next ((((r_b y6).oth (by omega) _ _).oth (by omega) _ _).oth (by omega) _ _) hU7
  have r_c : ∀ z : Wb U7, Row z.at (w.heap.size + 1) [.int .i64 9, .int .i64 31, .int .i64 r1, .int .i64 r3, .int .i64 0, .int .i64 0] 23 := Row.next ((((r_c y6).set _ _).set _ _).set _ _) hU7
  have KK := Lib.hid (KB.next (KB.put (KB.put (KB.put (KK.out y6) (by omega) _ _) (by omega) _ _) (by omega) _ _) hU7)
  clear hU7
  obtain ⟨c_b_0, c_b_1, c_b_2, c_b_3, c_b_4, c_b_5⟩ := six r_b
  obtain ⟨c_c_0, c_c_1, c_c_2, c_c_3, c_c_4, c_c_5⟩ := six r_c
  have TZ := Lib.hid fun z => TH.out.below (KK.out z)
  have SZ := Lib.hid fun z => SH.out.below (KK.out z)
  have f_b := rfree r_b
  have f_c := rfree r_c
  have ce := keepc KK CE
  have ct0 := keepc KK C0
  go_wp2
  refine bodyPost_ret (v := iv ⟨9, 31, r1, r3, 0, 0⟩) (by simp [results, Tryd.results34, go_sem, iv, *]) rfl ⟨by rw [SP.out], ?_⟩
  repeat' (first | (with_reducible exact KK.out y7) | (with_reducible refine Below.setCell ?_ ?_ _) | (simp; done) | (simp; omega) | omega)

set_option maxRecDepth 100000 in
set_option maxHeartbeats 3200000 in
theorem aguess_9_n (L : List Tx) (a : Addr) (k cap : Nat) (w : World) (ht : Tab w) (h : SlT w (.slice (some a) (k + 1) cap) L) (hs : Short L) (hn : L.length = k + 1) (hk : k ≤ 7) (hc : ¬ L.getD 0 [] = CMP) : Calls Tryd.prog 34 #[.int .i64 9, .slice (some a) (k + 1) cap] w fun e w' => e = .returned (iv (guess 9 L)) ∧ Below w.heap.size w w' := by
  have TH := Lib.hid ht
  have SH := Lib.hid h
  obtain ⟨te, hte⟩ : ∃ t, t = L.getD k [] := ⟨_, rfl⟩
  have CE := Lib.hid (show w.cell? (a.add k) = _ from slT_at h k (by omega))
  rw [← hte] at CE
  obtain ⟨t0, ht0⟩ : ∃ t, t = L.getD 0 [] := ⟨_, rfl⟩
  have C0 := Lib.hid (show w.cell? (a) = _ from slT_at h 0 (by omega))
  rw [← ht0] at C0
  obtain ⟨r1, hr1⟩ : ∃ r, r = register L 1 := ⟨_, rfl⟩
  have R1 := Lib.hid (fun w2 (t2 : Tab w2) (s2 : SlT w2 (.slice (some a) (k + 1) cap) L) => aregister_any L _ 1 w2 t2.tb s2 (by omega))
  rw [← hr1] at R1
  obtain ⟨r3, hr3⟩ : ∃ r, r = register L 3 := ⟨_, rfl⟩
  have R3 := Lib.hid (fun w2 (t2 : Tab w2) (s2 : SlT w2 (.slice (some a) (k + 1) cap) L) => aregister_any L _ 3 w2 t2.tb s2 (by omega))
  rw [← hr3] at R3
  obtain ⟨r5, hr5⟩ : ∃ r, r = register L 5 := ⟨_, rfl⟩
  have R5 := Lib.hid (fun w2 (t2 : Tab w2) (s2 : SlT w2 (.slice (some a) (k + 1) cap) L) => aregister_any L _ 5 w2 t2.tb s2 (by omega))
  rw [← hr5] at R5
  have SP := Lib.hid (show guess 9 L = ⟨9, r1, r3, r5, 0, 0⟩ by
    rw [guess, if_neg (by omega), if_neg (by omega), if_neg (by omega), if_pos (by omega), if_neg hc, ← hr1, ← hr3, ← hr5])
  have n0 : (0 : Int) ≤ (k : Int) := by omega
  have n1 : (k : Int) ≤ 7 := by omega
  have n2 : ((k + 1 : Nat) : Int) = (k : Int) + 1 := by omega
  have n3 : (k : Int) < (k : Int) + 1 := by omega
  have n4 : (k : Int) + 1 - 1 = (k : Int) := by omega
  have hc2 : ((strL t0).toList == [67, 77, 80]) = false := str_lit_ne (by rw [ht0]; exact hc)
  clear hc
  clear ht h hs hn hte hk ht0 hr1 hr3 hr5
  go_enter Tryd.func34, Tryd.ntmps34
  go_upto_region 2 with fail
  refine to_cls ?_
  intro U0 hU0 y0
  have r_b : ∀ z : Wb U0, Row z.at (w.heap.size) [.int .i64 0, .int .i64 0, .int .i64 0, .int .i64 0, .int .i64 0, .int .i64 0] 23 := Row.next (Row.old (Row.new' _ [.int .i64 0, .int .i64 0, .int .i64 0, .int .i64 0, .int .i64 0, .int .i64 0] _ _ (by simp)) _) hU0
  have r_c : ∀ z : Wb U0, Row z.at (w.heap.size + 1) [.int .i64 9, .int .i64 0, .int .i64 0, .int .i64 0, .int .i64 0, .int .i64 0] 23 := Row.next (Row.new' _ [.int .i64 9, .int .i64 0, .int .i64 0, .int .i64 0, .int .i64 0, .int .i64 0] _ _ (by simp)) hU0
  have KK := Lib.hid (KB.next (KB.alloc (KB.alloc (Below.refl _ _) _) _) hU0)
  have TZ := Lib.hid (fun z : Wb U0 => ((TH.out.below (KB.alloc (KB.alloc (Below.refl w.heap.size w) _) _)).below hU0).below z.bel)
  have SZ := Lib.hid (fun z : Wb U0 => ((SH.out.below (KB.alloc (KB.alloc (Below.refl w.heap.size w) _) _)).below hU0).below z.bel)
  clear hU0
  obtain ⟨c_b_0, c_b_1, c_b_2, c_b_3, c_b_4, c_b_5⟩ := six r_b
  obtain ⟨c_c_0, c_c_1, c_c_2, c_c_3, c_c_4, c_c_5⟩ := six r_c
  have f_b := rfree r_b
  have f_c := rfree r_c
  have ce := keepc KK CE
  have ct0 := keepc KK C0
  go_wp2_with fail
  refine (R1.out _ (TZ.out y0) (SZ.out y0)).mono ?_
  rintro e w1 ⟨rfl, g⟩
  obtain ⟨y1, rfl⟩ := Wb.next (x := y0) g
  clear g
  go_wp2_with fail
  refine (R3.out _ (TZ.out y1) (SZ.out y1)).mono ?_
  rintro e w1 ⟨rfl, g⟩
  obtain ⟨y2, rfl⟩ := Wb.next (x := y1) g
  clear g
  go_wp2_with fail
  refine (R5.out _ (TZ.out y2) (SZ.out y2)).mono ?_
  rintro e w1 ⟨rfl, g⟩
  obtain ⟨y3, rfl⟩ := Wb.next (x := y2) g
  clear g
  go_upto_region 26 with fail
  refine to_cls ?_
  intro U4 hU4 y4
  clear c_b_0 c_b_1 c_b_2 c_b_3 c_b_4 c_b_5 c_c_0 c_c_1 c_c_2 c_c_3 c_c_4 c_c_5 f_b f_c ce ct0
  have r_b : ∀ z : Wb U4, Row z.at (w.heap.size) [.int .i64 0, .int .i64 0, .int .i64 0, .int .i64 0, .int .i64 0, .int .i64 0] 23 := Row.next ((((r_b y3).oth (by omega) _ _).oth (by omega) _ _).oth (by omega) _ _) hU4
  have r_c : ∀ z : Wb U4, Row z.at (w.heap.size + 1) [.int .i64 9, .int .i64 r1, .int .i64 r3, .int .i64 r5, .int .i64 0, .int .i64 0] 23 := Row.next ((((r_c y3).set _ _).set _ _).set _ _) hU4
  have KK := Lib.hid (KB.next (KB.put (KB.put (KB.put (KK.out y3) (by omega) _ _) (by omega) _ _) (by omega) _ _) hU4)
  clear hU4
  obtain ⟨c_b_0, c_b_1, c_b_2, c_b_3, c_b_4, c_b_5⟩ := six r_b
  obtain ⟨c_c_0, c_c_1, c_c_2, c_c_3, c_c_4, c_c_5⟩ := six r_c
  have TZ := Lib.hid fun z => TH.out.below (KK.out z)
  have SZ := Lib.hid fun z => SH.out.below (KK.out z)
  have f_b := rfree r_b
  have f_c := rfree r_c
  have ce := keepc KK CE
  have ct0 := keepc KK C0
  go_wp2
  refine bodyPost_ret (v := iv ⟨9, r1, r3, r5, 0, 0⟩) (by simp [results, Tryd.results34, go_sem, iv, *]) rfl ⟨by rw [SP.out], ?_⟩
  repeat' (first | (with_reducible exact KK.out y4) | (with_reducible refine Below.setCell ?_ ?_ _) | (simp; done) | (simp; omega) | omega)

set_option maxRecDepth 100000 in
set_option maxHeartbeats 3200000 in
theorem aguess_10_c (L : List Tx) (a : Addr) (k cap : Nat) (w : World) (ht : Tab w) (h : SlT w (.slice (some a) (k + 1) cap) L) (hs : Short L) (hn : L.length = k + 1) (hk : k ≤ 7) (hc : L.getD 0 [] = CMP) : Calls Tryd.prog 34 #[.int .i64 10, .slice (some a) (k + 1) cap] w fun e w' => e = .returned (iv (guess 10 L)) ∧ Below w.heap.size w w' := by
  have TH := Lib.hid ht
  have SH := Lib.hid h
  obtain ⟨te, hte⟩ : ∃ t, t = L.getD k [] := ⟨_, rfl⟩
  have CE := Lib.hid (show w.cell? (a.add k) = _ from slT_at h k (by omega))
  rw [← hte] at CE
  obtain ⟨t0, ht0⟩ : ∃ t, t = L.getD 0 [] := ⟨_, rfl⟩
  have C0 := Lib.hid (show w.cell? (a) = _ from slT_at h 0 (by omega))
  rw [← ht0] at C0
  obtain ⟨r1, hr1⟩ : ∃ r, r = register L 1 := ⟨_, rfl⟩
  have R1 := Lib.hid (fun w2 (t2 : Tab w2) (s2 : SlT w2 (.slice (some a) (k + 1) cap) L) => aregister_any L _ 1 w2 t2.tb s2 (by omega))
  rw [← hr1] at R1
  obtain ⟨r3, hr3⟩ : ∃ r, r = register L 3 := ⟨_, rfl⟩
  have R3 := Lib.hid (fun w2 (t2 : Tab w2) (s2 : SlT w2 (.slice (some a) (k + 1) cap) L) => aregister_any L _ 3 w2 t2.tb s2 (by omega))
  rw [← hr3] at R3
  obtain ⟨r5, hr5⟩ : ∃ r, r = register L 5 := ⟨_, rfl⟩
  have R5 := Lib.hid (fun w2 (t2 : Tab w2) (s2 : SlT w2 (.slice (some a) (k + 1) cap) L) => aregister_any L _ 5 w2 t2.tb s2 (by omega))
  rw [← hr5] at R5
  have SP := Lib.hid (show guess 10 L = ⟨10, 31, r1, r3, 0, 0⟩ by
    rw [guess, if_neg (by omega), if_neg (by omega), if_neg (by omega), if_pos (by omega), if_pos hc, ← hr1, ← hr3])
  have n0 : (0 : Int) ≤ (k : Int) := by omega
  have n1 : (k : Int) ≤ 7 := by omega
  have n2 : ((k + 1 : Nat) : Int) = (k : Int) + 1 := by omega
  have n3 : (k : Int) < (k : Int) + 1 := by omega
  have n4 : (k : Int) + 1 - 1 = (k : Int) := by omega
  have hc2 : ((strL t0).toList == [67, 77, 80]) = true := str_lit_eq (by rw [ht0]; exact hc)
  clear hc
  clear ht h hs hn hte hk ht0 hr1 hr3 hr5
  go_enter Tryd.func34, Tryd.ntmps34
  go_upto_region 2 with fail
  refine to_cls ?_
  intro U0 hU0 y0
  have r_b : ∀ z : Wb U0, Row z.at (w.heap.size) [.int .i64 0, .int .i64 0, .int .i64 0, .int .i64 0, .int .i64 0, .int .i64 0] 23 := Row.next (Row.old (Row.new' _ [.int .i64 0, .int .i64 0, .int .i64 0, .int .i64 0, .int .i64 0, .int .i64 0] _ _ (by simp)) _) hU0
  have r_c : ∀ z : Wb U0, Row z.at (w.heap.size + 1) [.int .i64 10, .int .i64 0, .int .i64 0, .int .i64 0, .int .i64 0, .int .i64 0] 23 := Row.next (Row.new' _ [.int .i64 10, .int .i64 0, .int .i64 0, .int .i64 0, .int .i64 0, .int .i64 0] _ _ (by simp)) hU0
  have KK := Lib.hid (KB.next (KB.alloc (KB.alloc (Below.refl _ _) _) _) hU0)
  have TZ := Lib.hid (fun z : Wb U0 => ((TH.out.below (KB.alloc (KB.alloc (Below.refl w.heap.size w) _) _)).below hU0).below z.bel)
  have SZ := Lib.hid (fun z : Wb U0 => ((SH.out.below (KB.alloc (KB.alloc (Below.refl w.heap.size w) _) _)).below hU0).below z.bel)
  clear hU0
  obtain ⟨c_b_0, c_b_1, c_b_2, c_b_3, c_b_4, c_b_5⟩ := six r_b
  obtain ⟨c_c_0, c_c_1, c_c_2, c_c_3, c_c_4, c_c_5⟩ := six r_c
  have f_b := rfree r_b
  have f_c := rfree r_c
  have ce := keepc KK CE
  have ct0 := keepc KK C0
  go_wp2_with fail
  refine (R1.out _ (TZ.out y0) (SZ.out y0)).mono ?_
  rintro e w1 ⟨rfl, g⟩
  obtain ⟨y1, rfl⟩ := Wb.next (x := y0) g
  clear g
  go_wp2_with fail
  refine (R3.out _ (TZ.out y1) (SZ.out y1)).mono ?_
  rintro e w1 ⟨rfl, g⟩
  obtain ⟨y2, rfl⟩ := Wb.next (x := y1) g
  clear g
  go_wp2_with fail
  refine (R5.out _ (TZ.out y2) (SZ.out y2)).mono ?_
  rintro e w1 ⟨rfl, g⟩
  obtain ⟨y3, rfl⟩ := Wb.next (x := y2) g
  clear g
  go_upto_region 26 with fail
  refine to_cls ?_
  intro U4 hU4 y4
  clear c_b_0 c_b_1 c_b_2 c_b_3 c_b_4 c_b_5 c_c_0 c_c_1 c_c_2 c_c_3 c_c_4 c_c_5 f_b f_c ce ct0
  have r_b : ∀ z : Wb U4, Row z.at (w.heap.size) [.int .i64 0, .int .i64 0, .int .i64 0, .int .i64 0, .int .i64 0, .int .i64 0] 23 := Row.next ((((r_b y3).oth (by omega) _ _).oth (by omega) _ _).oth (by omega) _ _) hU4
  have r_c : ∀ z : Wb U4, Row z.at (w.heap.size + 1) [.int .i64 10, .int .i64 r1, .int .i64 r3, .int .i64 r5, .int .i64 0, .int .i64 0] 23 := Row.next ((((r_c y3).set _ _).set _ _).set _ _) hU4
  have KK := Lib.hid (KB.next (KB.put (KB.put (KB.put (KK.out y3) (by omega) _ _) (by omega) _ _) (by omega) _ _) hU4)
  clear hU4
  obtain ⟨c_b_0, c_b_1, c_b_2, c_b_3, c_b_4, c_b_5⟩ := six r_b
  obtain ⟨c_c_0, c_c_1, c_c_2, c_c_3, c_c_4, c_c_5⟩ := six r_c
  have TZ := Lib.hid fun z => TH.out.below (KK.out z)
  have SZ := Lib.hid fun z => SH.out.below (KK.out z)
  have f_b := rfree r_b
  have f_c := rfree r_c
  have ce := keepc KK CE
  have ct0 := keepc KK C0
  go_wp2_with fail
  refine (R1.out _ (TZ.out y4) (SZ.out y4)).mono ?_
  rintro e w1 ⟨rfl, g⟩
  obtain ⟨y5, rfl⟩ := Wb.next (x := y4) g
  clear g
  go_wp2_with fail
  refine (R3.out _ (TZ.out y5) (SZ.out y5)).mono ?_
  rintro e w1 ⟨rfl, g⟩
  obtain ⟨y6, rfl⟩ := Wb.next (x := y5) g
  clear g
  go_upto_region 45 with fail
  refine to_cls ?_
  intro U7 hU7 y7
  clear c_b_0 c_b_1 c_b_2 c_b_3 c_b_4 c_b_5 c_c_0 c_c_1 c_c_2 c_c_3 c_c_4 c_c_5 f_b f_c ce ct0
  have r_b : ∀ z : Wb U7, Row z.at (w.heap.size) [.int .i64 0, .int .i64 0, .int .i64 0, .int .i64 0, .int .i64 0, .int .i64 0] 23 := Row.next ((((r_b y6).oth (by omega) _ _).oth (by omega) _ _).oth (by omega) _ _) hU7
  have r_c : ∀ z : Wb U7, Row z.at (w.heap.size + 1) [.int .i64 10, .int .i64 31, .int .i64 r1, .int .i64 r3, .int .i64 0, .int .i64 0] 23 := Row.next ((((r_c y6).set _ _).set _ _).set _ _) hU7
  have KK := Lib.hid (KB.next (KB.put (KB.put (KB.put (KK.out y6) (by omega) _ _) (by omega) _ _) (by omega) _ _) hU7)
  clear hU7
  obtain ⟨c_b_0, c_b_1, c_b_2, c_b_3, c_b_4, c_b_5⟩ := six r_b
  obtain ⟨c_c_0, c_c_1, c_c_2, c_c_3, c_c_4, c_c_5⟩ := six r_c
  have TZ := Lib.hid fun z => TH.out.below (KK.out z)
  have SZ := Lib.hid fun z => SH.out.below (KK.out z)
  have f_b := rfree r_b
  have f_c := rfree r_c
  have ce := keepc KK CE
  have ct0 := keepc KK C0
  go_wp2
  refine bodyPost_ret (v := iv ⟨10, 31, r1, r3, 0, 0⟩) (by simp [results, Tryd.results34, go_sem, iv, *]) rfl ⟨by rw [SP.out], ?_⟩
  repeat' (first | (with_reducible exact KK.out y7) | (with_reducible refine Below.setCell ?_ ?_ _) | (simp; done) | (simp; omega) | omega)

set_option maxRecDepth 100000 in
set_option maxHeartbeats 3200000 in
theorem aguess_10_n (L : List Tx) (a : Addr) (k cap : Nat) (w : World) (ht : Tab w) (h : SlT w (.slice (some a) (k + 1) cap) L) (hs : Short L) (hn : L.length = k + 1) (hk : k ≤ 7) (hc : ¬ L.getD 0 [] = CMP) : Calls Tryd.prog 34 #[.int .i64 10, .slice (some a) (k + 1) cap] w fun e w' => e = .returned (iv (guess 10 L)) ∧ Below w.heap.size w w' := by
  have TH := Lib.hid ht
  have SH := Lib.hid h
  obtain ⟨te, hte⟩ : ∃ t, t = L.getD k [] := ⟨_, rfl⟩
  have CE := Lib.hid (show w.cell? (a.add k) = _ from slT_at h k (by omega))
  rw [← hte] at CE
  obtain ⟨t0, ht0⟩ : ∃ t, t = L.getD 0 [] := ⟨_, rfl⟩
  have C0 := Lib.hid (show w.cell? (a) = _ from slT_at h 0 (by omega))
  rw [← ht0] at C0
  obtain ⟨r1, hr1⟩ : ∃ r, r = register L 1 := ⟨_, rfl⟩
  have R1 := Lib.hid (fun w2 (t2 : Tab w2) (s2 : SlT w2 (.slice (some a) (k + 1) cap) L) => aregister_any L _ 1 w2 t2.tb s2 (by omega))
  rw [← hr1] at R1
  obtain ⟨r3, hr3⟩ : ∃ r, r = register L 3 := ⟨_, rfl⟩
  have R3 := Lib.hid (fun w2 (t2 : Tab w2) (s2 : SlT w2 (.slice (some a) (k + 1) cap) L) => aregister_any L _ 3 w2 t2.tb s2 (by omega))
  rw [← hr3] at R3
  obtain ⟨r5, hr5⟩ : ∃ r, r = register L 5 := ⟨_, rfl⟩
  have R5 := Lib.hid (fun w2 (t2 : Tab w2) (s2 : SlT w2 (.slice (some a) (k + 1) cap) L) => aregister_any L _ 5 w2 t2.tb s2 (by omega))
  rw [← hr5] at R5
  have SP := Lib.hid (show guess 10 L = ⟨10, r1, r3, r5, 0, 0⟩ by
    rw [guess, if_neg (by omega), if_neg (by omega), if_neg (by omega), if_pos (by omega), if_neg hc, ← hr1, ← hr3, ← hr5])
  have n0 : (0 : Int) ≤ (k : Int) := by omega
  have n1 : (k : Int) ≤ 7 := by omega
  have n2 : ((k + 1 : Nat) : Int) = (k : Int) + 1 := by omega
  have n3 : (k : Int) < (k : Int) + 1 := by omega
  have n4 : (k : Int) + 1 - 1 = (k : Int) := by omega
  have hc2 : ((strL t0).toList == [67, 77, 80]) = false := str_lit_ne (by rw [ht0]; exact hc)
  clear hc
  clear ht h hs hn hte hk ht0 hr1 hr3 hr5
  go_enter Tryd.func34, Tryd.ntmps34
  go_upto_region 2 with fail
  refine to_cls ?_
  intro U0 hU0 y0
  have r_b : ∀ z : Wb U0, Row z.at (w.heap.size) [.int .i64 0, .int .i64 0, .int .i64 0, .int .i64 0, .int .i64 0, .int .i64 0] 23 := Row.next (Row.old (Row.new' _ [.int .i64 0, .int .i64 0, .int .i64 0, .int .i64 0, .int .i64 0, .int .i64 0] _ _ (by simp)) _) hU0
  have r_c : ∀ z : Wb U0, Row z.at (w.heap.size + 1) [.int .i64 10, .int .i64 0, .int .i64 0, .int .i64 0, .int .i64 0, .int .i64 0] 23 := Row.next (Row.new' _ [.int .i64 10, .int .i64 0, .int .i64 0, .int .i64 0, .int .i64 0, .int .i64 0] _ _ (by simp)) hU0
  have KK := Lib.hid (KB.next (KB.alloc (KB.alloc (Below.refl _ _) _) _) hU0)
  have TZ := Lib.hid (fun z : Wb U0 => ((TH.out.below (KB.alloc (KB.alloc (Below.refl w.heap.size w) _) _)).below hU0).below z.bel)
  have SZ := Lib.hid (fun z : Wb U0 => ((SH.out.below (KB.alloc (KB.alloc (Below.refl w.heap.size w) _) _)).below hU0).below z.bel)
  clear hU0
  obtain ⟨c_b_0, c_b_1, c_b_2, c_b_3, c_b_4, c_b_5⟩ := six r_b
  obtain ⟨c_c_0, c_c_1, c_c_2, c_c_3, c_c_4, c_c_5⟩ := six r_c
  have f_b := rfree r_b
  have f_c := rfree r_c
  have ce := keepc KK CE
  have ct0 := keepc KK C0
  go_wp2_with fail
  refine (R1.out _ (TZ.out y0) (SZ.out y0)).mono ?_
  rintro e w1 ⟨rfl, g⟩
  obtain ⟨y1, rfl⟩ := Wb.next (x := y0) g
  clear g
  go_wp2_with fail
  refine (R3.out _ (TZ.out y1) (SZ.out y1)).mono ?_
  rintro e w1 ⟨rfl, g⟩
  obtain ⟨y2, rfl⟩ := Wb.next (x := y1) g
  clear g
  go_wp2_with fail
  refine (R5.out _ (TZ.out y2) (SZ.out y2)).mono ?_
  rintro e w1 ⟨rfl, g⟩
  obtain ⟨y3, rfl⟩ := Wb.next (x := y2) g
  clear g
  go_upto_region 26 with fail
  refine to_cls ?_
  intro U4 hU4 y4
  clear c_b_0 c_b_1 c_b_2 c_b_3 c_b_4 c_b_5 c_c_0 c_c_1 c_c_2 c_c_3 c_c_4 c_c_5 f_b f_c ce ct0
  have r_b : ∀ z : Wb U4, Row z.at (w.heap.size) [.int .i64 0, .int .i64 0, .int .i64 0, .int .i64 0, .int .i64 0, .int .i64 0] 23 := Row.next ((((r_b y3).oth (by omega) _ _).oth (by omega) _ _).oth (by omega) _ _) hU4
  have r_c : ∀ z : Wb U4, Row z.at (w.heap.size + 1) [.int .i64 10, .int .i64 r1, .int .i64 r3, .int .i64 r5, .int .i64 0, .int .i64 0] 23 := Row.next ((((r_c y3).set _ _).set _ _).set _ _) hU4
  have KK := Lib.hid (KB.next (KB.put (KB.put (KB.put (KK.out y3) (by omega) _ _) (by omega) _ _) (by omega) _ _) hU4)
  clear hU4
  obtain ⟨c_b_0, c_b_1, c_b_2, c_b_3, c_b_4, c_b_5⟩ := six r_b
  obtain ⟨c_c_0, c_c_1, c_c_2, c_c_3, c_c_4, c_c_5⟩ := six r_c
  have TZ := Lib.hid fun z => TH.out.below (KK.out z)
  have SZ := Lib.hid fun z => SH.out.below (KK.out z)
  have f_b := rfree r_b
  have f_c := rfree r_c
  have ce := keepc KK CE
  have ct0 := keepc KK C0
  go_wp2
  refine bodyPost_ret (v := iv ⟨10, r1, r3, r5, 0, 0⟩) (by simp [results, Tryd.results34, go_sem, iv, *]) rfl ⟨by rw [SP.out], ?_⟩
  repeat' (first | (with_reducible exact KK.out y4) | (with_reducible refine Below.setCell ?_ ?_ _) | (simp; done) | (simp; omega) | omega)

set_option maxRecDepth 100000 in
set_option maxHeartbeats 3200000 in
theorem aguess_11_c (L : List Tx) (a : Addr) (k cap : Nat) (w : World) (ht : Tab w) (h : SlT w (.slice (some a) (k + 1) cap) L) (hs : Short L) (hn : L.length = k + 1) (hk : k ≤ 7) (hc : L.getD 0 [] = CMP) : Calls Tryd.prog 34 #[.int .i64 11, .slice (some a) (k + 1) cap] w fun e w' => e = .returned (iv (guess 11 L)) ∧ Below w.heap.size w w' := by
  have TH := Lib.hid ht
  have SH := Lib.hid h
  obtain ⟨te, hte⟩ : ∃ t, t = L.getD k [] := ⟨_, rfl⟩
  have CE := Lib.hid (show w.cell? (a.add k) = _ from slT_at h k (by omega))
  rw [← hte] at CE
  obtain ⟨t0, ht0⟩ : ∃ t, t = L.getD 0 [] := ⟨_, rfl⟩
  have C0 := Lib.hid (show w.cell? (a) = _ from slT_at h 0 (by omega))
  rw [← ht0] at C0
  obtain ⟨r1, hr1⟩ : ∃ r, r = register L 1 := ⟨_, rfl⟩
  have R1 := Lib.hid (fun w2 (t2 : Tab w2) (s2 : SlT w2 (.slice (some a) (k + 1) cap) L) => aregister_any L _ 1 w2 t2.tb s2 (by omega))
  rw [← hr1] at R1
  obtain ⟨r3, hr3⟩ : ∃ r, r = register L 3 := ⟨_, rfl⟩
  have R3 := Lib.hid (fun w2 (t2 : Tab w2) (s2 : SlT w2 (.slice (some a) (k + 1) cap) L) => aregister_any L _ 3 w2 t2.tb s2 (by omega))
  rw [← hr3] at R3
  obtain ⟨r5, hr5⟩ : ∃ r, r = register L 5 := ⟨_, rfl⟩
  have R5 := Lib.hid (fun w2 (t2 : Tab w2) (s2 : SlT w2 (.slice (some a) (k + 1) cap) L) => aregister_any L _ 5 w2 t2.tb s2 (by omega))
  rw [← hr5] at R5
  have SP := Lib.hid (show guess 11 L = ⟨11, 31, r1, r3, 0, 0⟩ by
    rw [guess, if_neg (by omega), if_neg (by omega), if_neg (by omega), if_pos (by omega), if_pos hc, ← hr1, ← hr3])
  have n0 : (0 : Int) ≤ (k : Int) := by omega
  have n1 : (k : Int) ≤ 7 := by omega
  have n2 : ((k + 1 : Nat) : Int) = (k : Int) + 1 := by omega
  have n3 : (k : Int) < (k : Int) + 1 := by omega
  have n4 : (k : Int) + 1 - 1 = (k : Int) := by omega
  have hc2 : ((strL t0).toList == [67, 77, 80]) = true := str_lit_eq (by rw [ht0]; exact hc)
  clear hc
  clear ht h hs hn hte hk ht0 hr1 hr3 hr5
  go_enter Tryd.func34, Tryd.ntmps34
  go_upto_region 2 with fail
  refine to_cls ?_
  intro U0 hU0 y0
  have r_b : ∀ z : Wb U0, Row z.at (w.heap.size) [.int .i64 0, .int .i64 0, .int .i64 0, .int .i64 0, .int .i64 0, .int .i64 0] 23 := Row.next (Row.old (Row.new' _ [.int .i64 0, .int .i64 0, .int .i64 0, .int .i64 0, .int .i64 0, .int .i64 0] _ _ (by simp)) _) hU0
  have r_c : ∀ z : Wb U0, Row z.at (w.heap.size + 1) [.int .i64 11, .int .i64 0, .int .i64 0, .int .i64 0, .int .i64 0, .int .i64 0] 23 := Row.next (Row.new' _ [.int .i64 11, .int .i64 0, .int .i64 0, .int .i64 0, .int .i64 0, .int .i64 0] _ _ (by simp)) hU0
  have KK := Lib.hid (KB.next (KB.alloc (KB.alloc (Below.refl _ _) _) _) hU0)
  have TZ := Lib.hid (fun z : Wb U0 => ((TH.out.below (KB.alloc (KB.alloc (Below.refl w.heap.size w) _) _)).below hU0).below z.bel)
  have SZ := Lib.hid (fun z : Wb U0 => ((SH.out.below (KB.alloc (KB.alloc (Below.refl w.heap.size w) _) _)).below hU0).below z.bel)
  clear hU0
  obtain ⟨c_b_0, c_b_1, c_b_2, c_b_3, c_b_4, c_b_5⟩ := six r_b
  obtain ⟨c_c_0, c_c_1, c_c_2, c_c_3, c_c_4, c_c_5⟩ := six r_c
  have f_b := rfree r_b
  have f_c := rfree r_c
  have ce := keepc KK CE
  have ct0 := keepc KK C0
  go_wp2_with fail
  refine (R1.out _ (TZ.out y0) (SZ.out y0)).mono ?_
  rintro e w1 ⟨rfl, g⟩
  obtain ⟨y1, rfl⟩ := Wb.next (x := y0) g
  clear g
  go_wp2_with fail
  refine (R3.out _ (TZ.out y1) (SZ.out y1)).mono ?_
  rintro e w1 ⟨rfl, g⟩
  obtain ⟨y2, rfl⟩ := Wb.next (x := y1) g
  clear g
  go_wp2_with fail
  refine (R5.out _ (TZ.out y2) (SZ.out y2)).mono ?_
  rintro e w1 ⟨rfl, g⟩
  obtain ⟨y3, rfl⟩ := Wb.next (x := y2) g
  clear g
  go_upto_region 26 with fail
  refine to_cls ?_
  intro U4 hU4 y4
  clear c_b_0 c_b_1 c_b_2 c_b_3 c_b_4 c_b_5 c_c_0 c_c_1 c_c_2 c_c_3 c_c_4 c_c_5 f_b f_c ce ct0
  have r_b : ∀ z : Wb U4, Row z.at (w.heap.size) [.int .i64 0, .int .i64 0, .int .i64 0, .int .i64 0, .int .i64 0, .int .i64 0] 23 := Row.next ((((r_b y3).oth (by omega) _ _).oth (by omega) _ _).oth (by omega) _ _) hU4
  have r_c : ∀ z : Wb U4, Row z.at (w.heap.size + 1) [.int .i64 11, .int .i64 r1, .int .i64 r3, .int .i64 r5, .int .i64 0, .int .i64 0] 23 := Row.next ((((r_c y3).set _ _).set _ _).set _ _) hU4
  have KK := Lib.hid (KB.next (KB.put (KB.put (KB.put (KK.out y3) (by omega) _ _) (by omega) _ _) (by omega) _ _) hU4)
  clear hU4
  obtain ⟨c_b_0, c_b_1, c_b_2, c_b_3, c_b_4, c_b_5⟩ := six r_b
  obtain ⟨c_c_0, c_c_1, c_c_2, c_c_3, c_c_4, c_c_5⟩ := six r_c
  have TZ := Lib.hid fun z => TH.out.below (KK.out z)
  have SZ := Lib.hid fun z => SH.out.below (KK.out z)
  have f_b := rfree r_b
  have f_c := rfree r_c
  have ce := keepc KK CE
  have ct0 := keepc KK C0
  go_wp2_with fail
  refine (R1.out _ (TZ.out y4) (SZ.out y4)).mono ?_
  rintro e w1 ⟨rfl, g⟩
  obtain ⟨y5, rfl⟩ := Wb.next (x := y4) g
  clear g
  go_wp2_with fail
  refine (R3.out _ (TZ.out y5) (SZ.out y5)).mono ?_
  rintro e w1 ⟨rfl, g⟩
  obtain ⟨y6, rfl⟩ := Wb.next (x := y5) g
  clear g
  go_upto_region 45 with fail
  refine to_cls ?_
  intro U7 hU7 y7
  clear c_b_0 c_b_1 c_b_2 c_b_3 c_b_4 c_b_5 c_c_0 c_c_1 c_c_2 c_c_3 c_c_4 c_c_5 f_b f_c ce ct0
  have r_b : ∀ z : Wb U7, Row z.at (w.heap.size) [.int .i64 0, .int .i64 0, .int .i64 0, .int .i64 0, .int .i64 0, .int .i64 0] 23 := Row.next ((((r_b y6).oth (by omega) _ _).oth (by omega) _ _).oth (by omega) _ _) hU7
  have r_c : ∀ z : Wb U7, Row z.at (w.heap.size + 1) [.int .i64 11, .int .i64 31, .int .i64 r1, .int .i64 r3, .int .i64 0, .int .i64 0] 23 := Row.next ((((r_c y6).set _ _).set _ _).set _ _) hU7
  have KK := Lib.hid (KB.next (KB.put (KB.put (KB.put (KK.out y6) (by omega) _ _) (by omega) _ _) (by omega) _ _) hU7)
  clear hU7
  obtain ⟨c_b_0, c_b_1, c_b_2, c_b_3, c_b_4, c_b_5⟩ := six r_b
  obtain ⟨c_c_0, c_c_1, c_c_2, c_c_3, c_c_4, c_c_5⟩ := six r_c
  have TZ := Lib.hid fun z => TH.out.below (KK.out z)
  have SZ := Lib.hid fun z => SH.out.below (KK.out z)
  have f_b := rfree r_b
  have f_c := rfree r_c
  have ce := keepc KK CE
  have ct0 := keepc KK C0
  go_wp2
  refine bodyPost_ret (v := iv ⟨11, 31, r1, r3, 0, 0⟩) (by simp [results, Tryd.results34, go_sem, iv, *]) rfl ⟨by rw [SP.out], ?_⟩
  repeat' (first | (with_reducible exact KK.out y7) | (with_reducible refine Below.setCell ?_ ?_ _) | (simp; done) | (simp; omega) | omega)

set_option maxRecDepth 100000 in
set_option maxHeartbeats 3200000 in
theorem aguess_11_n (L : List Tx) (a : Addr) (k cap : Nat) (w : World) (ht : Tab w) (h : SlT w (.slice (some a) (k + 1) cap) L) (hs : Short L) (hn : L.length = k + 1) (hk : k ≤ 7) (hc : ¬ L.getD 0 [] = CMP) : Calls Tryd.prog 34 #[.int .i64 11, .slice (some a) (k + 1) cap] w fun e w' => e = .returned (iv (guess 11 L)) ∧ Below w.heap.size w w' := by
  have TH := Lib.hid ht
  have SH := Lib.hid h
  obtain ⟨te, hte⟩ : ∃ t, t = L.getD k [] := ⟨_, rfl⟩
  have CE := Lib.hid (show w.cell? (a.add k) = _ from slT_at h k (by omega))
  rw [← hte] at CE
  obtain ⟨t0, ht0⟩ : ∃ t, t = L.getD 0 [] := ⟨_, rfl⟩
  have C0 := Lib.hid (show w.cell? (a) = _ from slT_at h 0 (by omega))
  rw [← ht0] at C0
  obtain ⟨r1, hr1⟩ : ∃ r, r = register L 1 := ⟨_, rfl⟩
  have R1 := Lib.hid (fun w2 (t2 : Tab w2) (s2 : SlT w2 (.slice (some a) (k + 1) cap) L) => aregister_any L _ 1 w2 t2.tb s2 (by omega))
  rw [← hr1] at R1
  obtain ⟨r3, hr3⟩ : ∃ r, r = register L 3 := ⟨_, rfl⟩
  have R3 := Lib.hid (fun w2 (t2 : Tab w2) (s2 : SlT w2 (.slice (some a) (k + 1) cap) L) => aregister_any L _ 3 w2 t2.tb s2 (by omega))
  rw [← hr3] at R3
  obtain ⟨r5, hr5⟩ : ∃ r, r = register L 5 := ⟨_, rfl⟩
  have R5 := Lib.hid (fun w2 (t2 : Tab w2) (s2 : SlT w2 (.slice (some a) (k + 1) cap) L) => aregister_any L _ 5 w2 t2.tb s2 (by omega))
  rw [← hr5] at R5
  have SP := Lib.hid (show guess 11 L = ⟨11, r1, r3, r5, 0, 0⟩ by
    rw [guess, if_neg (by omega), if_neg (by omega), if_neg (by omega), if_pos (by omega), if_neg hc, ← hr1, ← hr3, ← hr5])
  have n0 : (0 : Int) ≤ (k : Int) := by omega
  have n1 : (k : Int) ≤ 7 := by omega
  have n2 : ((k + 1 : Nat) : Int) = (k : Int) + 1 := by omega
  have n3 : (k : Int) < (k : Int) + 1 := by omega
  have n4 : (k : Int) + 1 - 1 = (k : Int) := by omega
  have hc2 : ((strL t0).toList == [67, 77, 80]) = false := str_lit_ne (by rw [ht0]; exact hc)
  clear hc
  clear ht h hs hn hte hk ht0 hr1 hr3 hr5
  go_enter Tryd.func34, Tryd.ntmps34
  go_upto_region 2 with fail
  refine to_cls ?_
  intro U0 hU0 y0
  have r_b : ∀ z : Wb U0, Row z.at (w.heap.size) [.int .i64 0, .int .i64 0, .int .i64 0, .int .i64 0, .int .i64 0, .int .i64 0] 23 := Row.next (Row.old (Row.new' _ [.int .i64 0, .int .i64 0, .int .i64 0, .int .i64 0, .int .i64 0, .int .i64 0] _ _ (by simp)) _) hU0
  have r_c : ∀ z : Wb U0, Row z.at (w.heap.size + 1) [.int .i64 11, .int .i64 0, .int .i64 0, .int .i64 0, .int .i64 0, .int .i64 0] 23 := Row.next (Row.new' _ [.int .i64 11, .int .i64 0, .int .i64 0, .int .i64 0, .int .i64 0, .int .i64 0] _ _ (by simp)) hU0
  have KK := Lib.hid (KB.next (KB.alloc (KB.alloc (Below.refl _ _) _) _) hU0)
  have TZ := Lib.hid (fun z : Wb U0 => ((TH.out.below (KB.alloc (KB.alloc (Below.refl w.heap.size w) _) _)).below hU0).below z.bel)
  have SZ := Lib.hid (fun z : Wb U0 => ((SH.out.below (KB.alloc (KB.alloc (Below.refl w.heap.size w) _) _)).below hU0).below z.bel)
  clear hU0
  obtain ⟨c_b_0, c_b_1, c_b_2, c_b_3, c_b_4, c_b_5⟩ := six r_b
  obtain ⟨c_c_0, c_c_1, c_c_2, c_c_3, c_c_4, c_c_5⟩ := six r_c
  have f_b := rfree r_b
  have f_c := rfree r_c
  have ce := keepc KK CE
  have ct0 := keepc KK C0
  go_wp2_with fail
  refine (R1.out _ (TZ.out y0) (SZ.out y0)).mono ?_
  rintro e w1 ⟨rfl, g⟩
  obtain ⟨y1, rfl⟩ := Wb.next (x := y0) g
  clear g
  go_wp2_with fail
  refine (R3.out _ (TZ.out y1) (SZ.out y1)).mono ?_
  rintro e w1 ⟨rfl, g⟩
  obtain ⟨y2, rfl⟩ := Wb.next (x := y1) g
  clear g
  go_wp2_with fail
  refine (R5.out _ (TZ.out y2) (SZ.out y2)).mono ?_
  rintro e w1 ⟨rfl, g⟩
  obtain ⟨y3, rfl⟩ := Wb.next (x := y2) g
  clear g
  go_upto_region 26 with fail
  refine to_cls ?_
  intro U4 hU4 y4
  clear c_b_0 c_b_1 c_b_2 c_b_3 c_b_4 c_b_5 c_c_0 c_c_1 c_c_2 c_c_3 c_c_4 c_c_5 f_b f_c ce ct0
  have r_b : ∀ z : Wb U4, Row z.at (w.heap.size) [.int .i64 0, .int .i64 0, .int .i64 0, .int .i64 0, .int .i64 0, .int .i64 0] 23 := Row.next ((((r_b y3).oth (by omega) _ _).oth (by omega) _ _).oth (by omega) _ _) hU4
  have r_c : ∀ z : Wb U4, Row z.at (w.heap.size + 1) [.int .i64 11, .int .i64 r1, .int .i64 r3, .int .i64 r5, .int .i64 0, .int .i64 0] 23 := Row.next ((((r_c y3).set _ _).set _ _).set _ _) hU4
  have KK := Lib.hid (KB.next (KB.put (KB.put (KB.put (KK.out y3) (by omega) _ _) (by omega) _ _) (by omega) _ _) hU4)
  clear hU4
  obtain ⟨c_b_0, c_b_1, c_b_2, c_b_3, c_b_4, c_b_5⟩ := six r_b
  obtain ⟨c_c_0, c_c_1, c_c_2, c_c_3, c_c_4, c_c_5⟩ := six r_c
  have TZ := Lib.hid fun z => TH.out.below (KK.out z)
  have SZ := Lib.hid fun z => SH.out.below (KK.out z)
  have f_b := rfree r_b
  have f_c := rfree r_c
  have ce := keepc KK CE
  have ct0 := keepc KK C0
  go_wp2
  refine bodyPost_ret (v := iv ⟨11, r1, r3, r5, 0, 0⟩) (by simp [results, Tryd.results34, go_sem, iv, *]) rfl ⟨by rw [SP.out], ?_⟩
  repeat' (first | (with_reducible exact KK.out y4) | (with_reducible refine Below.setCell ?_ ?_ _) | (simp; done) | (simp; omega) | omega)

set_option maxRecDepth 100000 in
set_option maxHeartbeats 3200000 in
theorem aguess_12_c (L : List Tx) (a : Addr) (k cap : Nat) (w : World) (ht : Tab w) (h : SlT w (.slice (some a) (k + 1) cap) L) (hs : Short L) (hn : L.length = k + 1) (hk : k ≤ 7) (hc : L.getD 0 [] = CMP) : Calls Tryd.prog 34 #[.int .i64 12, .slice (some a) (k + 1) cap] w fun e w' => e = .returned (iv (guess 12 L)) ∧ Below w.heap.size w w' := by
  have TH := Lib.hid ht
  have SH := Lib.hid h
  obtain ⟨te, hte⟩ : ∃ t, t = L.getD k [] := ⟨_, rfl⟩
  have CE := Lib.hid (show w.cell? (a.add k) = _ from slT_at h k (by omega))
  rw [← hte] at CE
  obtain ⟨t0, ht0⟩ : ∃ t, t = L.getD 0 [] := ⟨_, rfl⟩
  have C0 := Lib.hid (show w.cell? (a) = _ from slT_at h 0 (by omega))
  rw [← ht0] at C0
  obtain ⟨r1, hr1⟩ : ∃ r, r = register L 1 := ⟨_, rfl⟩
  have R1 := Lib.hid (fun w2 (t2 : Tab w2) (s2 : SlT w2 (.slice (some a) (k + 1) cap) L) => aregister_any L _ 1 w2 t2.tb s2 (by omega))
  rw [← hr1] at R1
  obtain ⟨r3, hr3⟩ : ∃ r, r = register L 3 := ⟨_, rfl⟩
  have R3 := Lib.hid (fun w2 (t2 : Tab w2) (s2 : SlT w2 (.slice (some a) (k + 1) cap) L) => aregister_any L _ 3 w2 t2.tb s2 (by omega))
  rw [← hr3] at R3
  obtain ⟨r5, hr5⟩ : ∃ r, r = register L 5 := ⟨_, rfl⟩
  have R5 := Lib.hid (fun w2 (t2 : Tab w2) (s2 : SlT w2 (.slice (some a) (k + 1) cap) L) => aregister_any L _ 5 w2 t2.tb s2 (by omega))
  rw [← hr5] at R5
  have SP := Lib.hid (show guess 12 L = ⟨12, 31, r1, r3, 0, 0⟩ by
    rw [guess, if_neg (by omega), if_neg (by omega), if_neg (by omega), if_pos (by omega), if_pos hc, ← hr1, ← hr3])
  have n0 : (0 : Int) ≤ (k : Int) := by omega
  have n1 : (k : Int) ≤ 7 := by omega
  have n2 : ((k + 1 : Nat) : Int) = (k : Int) + 1 := by omega
  have n3 : (k : Int) < (k : Int) + 1 := by omega
  have n4 : (k : Int) + 1 - 1 = (k : Int) := by omega
  have hc2 : ((strL t0).toList == [67, 77, 80]) = true := str_lit_eq (by rw [ht0]; exact hc)
  clear hc
  clear ht h hs hn hte hk ht0 hr1 hr3 hr5
  go_enter Tryd.func34, Tryd.ntmps34
  go_upto_region 2 with fail
  refine to_cls ?_
  intro U0 hU0 y0
  have r_b : ∀ z : Wb U0, Row z.at (w.heap.size) [.int .i64 0, .int .i64 0, .int .i64 0, .int .i64 0, .int .i64 0, .int .i64 0] 23 := Row.next (Row.old (Row.new' _ [.int .i64 0, .int .i64 0, .int .i64 0, .int .i64 0, .int .i64 0, .int .i64 0] _ _ (by simp)) _) hU0
  have r_c : ∀ z : Wb U0, Row z.at (w.heap.size + 1) [.int .i64 12, .int .i64 0, .int .i64 0, .int .i64 0, .int .i64 0, .int .i64 0] 23 := Row.next (Row.new' _ [.int .i64 12, .int .i64 0, .int .i64 0, .int .i64 0, .int .i64 0, .int .i64 0] _ _ (by simp)) hU0
  have KK := Lib.hid (KB.next (KB.alloc (KB.alloc (Below.refl _ _) _) _) hU0)
  have TZ := Lib.hid (fun z : Wb U0 => ((TH.out.below (KB.alloc (KB.alloc (Below.refl w.heap.size w) _) _)).below hU0).below z.bel)
  have SZ := Lib.hid (fun z : Wb U0 => ((SH.out.below (KB.alloc (KB.alloc (Below.refl w.heap.size w) _) _)).below hU0).below z.bel)
  clear hU0
  obtain ⟨c_b_0, c_b_1, c_b_2, c_b_3, c_b_4, c_b_5⟩ := six r_b
  obtain ⟨c_c_0, c_c_1, c_c_2, c_c_3, c_c_4, c_c_5⟩ := six r_c
  have f_b := rfree r_b
  have f_c := rfree r_c
  have ce := keepc KK CE
  have ct0 := keepc KK C0
  go_wp2_with fail
  refine (R1.out _ (TZ.out y0) (SZ.out y0)).mono ?_
  rintro e w1 ⟨rfl, g⟩
  obtain ⟨y1, rfl⟩ := Wb.next (x := y0) g
  clear g
  go_wp2_with fail
  refine (R3.out _ (TZ.out y1) (SZ.out y1)).mono ?_
  rintro e w1 ⟨rfl, g⟩
  obtain ⟨y2, rfl⟩ := Wb.next (x := y1) g
  clear g
  go_wp2_with fail
  refine (R5.out _ (TZ.out y2) (SZ.out y2)).mono ?_
  rintro e w1 ⟨rfl, g⟩
  obtain ⟨y3, rfl⟩ := Wb.next (x := y2) g
  clear g
  go_upto_region 26 with fail
  refine to_cls ?_
  intro U4 hU4 y4
  clear c_b_0 c_b_1 c_b_2 c_b_3 c_b_4 c_b_5 c_c_0 c_c_1 c_c_2 c_c_3 c_c_4 c_c_5 f_b f_c ce ct0
  have r_b : ∀ z : Wb U4, Row z.at (w.heap.size) [.int .i64 0, .int .i64 0, .int .i64 0, .int .i64 0, .int .i64 0, .int .i64 0] 23 := Row.next ((((r_b y3).oth (by omega) _ _).oth (by omega) _ _).oth (by omega) _ _) hU4
  have r_c : ∀ z : Wb U4, Row z.at (w.heap.size + 1) [.int .i64 12, .int .i64 r1, .int .i64 r3, .int .i64 r5, .int .i64 0, .int .i64 0] 23 := Row.next ((((r_c y3).set _ _).set _ _).set _ _) hU4
  have KK := Lib.hid (KB.next (KB.put (KB.put (KB.put (KK.out y3) (by omega) _ _) (by omega) _ _) (by omega) _ _) hU4)
  clear hU4
  obtain ⟨c_b_0, c_b_1, c_b_2, c_b_3, c_b_4, c_b_5⟩ := six r_b
  obtain ⟨c_c_0, c_c_1, c_c_2, c_c_3, c_c_4, c_c_5⟩ := six r_c
  have TZ := Lib.hid fun z => TH.out.below (KK.out z)
  have SZ := Lib.hid fun z => SH.out.below (KK.out z)
  have f_b := rfree r_b
  have f_c := rfree r_c
  have ce := keepc KK CE
  have ct0 := keepc KK C0
  go_wp2_with fail
  refine (R1.out _ (TZ.out y4) (SZ.out y4)).mono ?_
  rintro e w1 ⟨rfl, g⟩
  obtain ⟨y5, rfl⟩ := Wb.next (x := y4) g
  clear g
  go_wp2_with fail
  refine (R3.out _ (TZ.out y5) (SZ.out y5)).mono ?_
  rintro e w1 ⟨rfl, g⟩
  obtain ⟨y6, rfl⟩ := Wb.next (x := y5) g
  clear g
  go_upto_region 45 with fail
  refine to_cls ?_
  intro U7 hU7 y7
  clear c_b_0 c_b_1 c_b_2 c_b_3 c_b_4 c_b_5 c_c_0 c_c_1 c_c_2 c_c_3 c_c_4 c_c_5 f_b f_c ce ct0
  have r_b : ∀ z : Wb U7, Row z.at (w.heap.size) [.int .i64 0, .int .i64 0, .int .i64 0, .int .i64 0, .int .i64 0, .int .i64 0] 23 := Row.next ((((r_b y6).oth (by omega) _ _).oth (by omega) _ _).oth (by omega) _ _) hU7
  have r_c : ∀ z : Wb U7, Row z.at (w.heap.size + 1) [.int .i64 12, .int .i64 31, .int .i64 r1, .int .i64 r3, .int .i64 0, .int .i64 0] 23 := Row.next ((((r_c y6).set _ _).set _ _).set _ _) hU7
  have KK := Lib.hid (KB.next (KB.put (KB.put (KB.put (KK.out y6) (by omega) _ _) (by omega) _ _) (by omega) _ _) hU7)
  clear hU7
  obtain ⟨c_b_0, c_b_1, c_b_2, c_b_3, c_b_4, c_b_5⟩ := six r_b
  obtain ⟨c_c_0, c_c_1, c_c_2, c_c_3, c_c_4, c_c_5⟩ := six r_c
  have TZ := Lib.hid fun z => TH.out.below (KK.out z)
  have SZ := Lib.hid fun z => SH.out.below (KK.out z)
  have f_b := rfree r_b
  have f_c := rfree r_c
  have ce := keepc KK CE
  have ct0 := keepc KK C0
  go_wp2
  refine bodyPost_ret (v := iv ⟨12, 31, r1, r3, 0, 0⟩) (by simp [results, Tryd.results34, go_sem, iv, *]) rfl ⟨by rw [SP.out], ?_⟩
  repeat' (first | (with_reducible exact KK.out y7) | (with_reducible refine Below.setCell ?_ ?_ _) | (simp; done) | (simp; omega) | omega)

set_option maxRecDepth 100000 in
set_option maxHeartbeats 3200000 in
theorem aguess_12_n (L : List Tx) (a : Addr) (k cap : Nat) (w : World) (ht : Tab w) (h : SlT w (.slice (some a) (k + 1) cap) L) (hs : Short L) (hn : L.length = k + 1) (hk : k ≤ 7) (hc : ¬ L.getD 0 [] = CMP) : Calls Tryd.prog 34 #[.int .i64 12, .slice (some a) (k + 1) cap] w fun e w' => e = .returned (iv (guess 12 L)) ∧ Below w.heap.size w w' := by
  have TH := Lib.hid ht
  have SH := Lib.hid h
  obtain ⟨te, hte⟩ : ∃ t, t = L.getD k [] := ⟨_, rfl⟩
  have CE := Lib.hid (show w.cell? (a.add k) = _ from slT_at h k (by omega))
  rw [← hte] at CE
  obtain ⟨t0, ht0⟩ : ∃ t, t = L.getD 0 [] := ⟨_, rfl⟩
  have C0 := Lib.hid (show w.cell? (a) = _ from slT_at h 0 (by omega))
  rw [← ht0] at C0
  obtain ⟨r1, hr1⟩ : ∃ r, r = register L 1 := ⟨_, rfl⟩
  have R1 := Lib.hid (fun w2 (t2 : Tab w2) (s2 : SlT w2 (.slice (some a) (k + 1) cap) L) => aregister_any L _ 1 w2 t2.tb s2 (by omega))
  rw [← hr1] at R1
  obtain ⟨r3, hr3⟩ : ∃ r, r = register L 3 := ⟨_, rfl⟩
  have R3 := Lib.hid (fun w2 (t2 : Tab w2) (s2 : SlT w2 (.slice (some a) (k + 1) cap) L) => aregister_any L _ 3 w2 t2.tb s2 (by omega))
  rw [← hr3] at R3
  obtain ⟨r5, hr5⟩ : ∃ r, r = register L 5 := ⟨_, rfl⟩
  have R5 := Lib.hid (fun w2 (t2 : Tab w2) (s2 : SlT w2 (.slice (some a) (k + 1) cap) L) => aregister_any L _ 5 w2 t2.tb s2 (by omega))
  rw [← hr5] at R5
  have SP := Lib.hid (show guess 12 L = ⟨12, r1, r3, r5, 0, 0⟩ by
    rw [guess, if_neg (by omega), if_neg (by omega), if_neg (by omega), if_pos (by omega), if_neg hc, ← hr1, ← hr3, ← hr5])
  have n0 : (0 : Int) ≤ (k : Int) := by omega
  have n1 : (k : Int) ≤ 7 := by omega
  have n2 : ((k + 1 : Nat) : Int) = (k : Int) + 1 := by omega
  have n3 : (k : Int) < (k : Int) + 1 := by omega
  have n4 : (k : Int) + 1 - 1 = (k : Int) := by omega
  have hc2 : ((strL t0).toList == [67, 77, 80]) = false := str_lit_ne (by rw [ht0]; exact hc)
  clear hc
  clear ht h hs hn hte hk ht0 hr1 hr3 hr5
  go_enter Tryd.func34, Tryd.ntmps34
  go_upto_region 2 with fail
  refine to_cls ?_
  intro U0 hU0 y0
  have r_b : ∀ z : Wb U0, Row z.at (w.heap.size) [.int .i64 0, .int .i64 0, .int .i64 0, .int .i64 0, .int .i64 0, .int .i64 0] 23 := Row.next (Row.old (Row.new' _ [.int .i64 0, .int .i64 0, .int .i64 0, .int .i64 0, .int .i64 0, .int .i64 0] _ _ (by simp)) _) hU0
  have r_c : ∀ z : Wb U0, Row z.at (w.heap.size + 1) [.int .i64 12, .int .i64 0, .int .i64 0, .int .i64 0, .int .i64 0, .int .i64 0] 23 := Row.next (Row.new' _ [.int .i64 12, .int .i64 0, .int .i64 0, .int .i64 0, .int .i64 0, .int .i64 0] _ _ (by simp)) hU0
  have KK := Lib.hid (KB.next (KB.alloc (KB.alloc (Below.refl _ _) _) _) hU0)
  have TZ := Lib.hid (fun z : Wb U0 => ((TH.out.below (KB.alloc (KB.alloc (Below.refl w.heap.size w) _) _)).below hU0).below z.bel)
  have SZ := Lib.hid (fun z : Wb U0 => ((SH.out.below (KB.alloc (KB.alloc (Below.refl w.heap.size w) _) _)).below hU0).below z.bel)
  clear hU0
  obtain ⟨c_b_0, c_b_1, c_b_2, c_b_3, c_b_4, c_b_5⟩ := six r_b
  obtain ⟨c_c_0, c_c_1, c_c_2, c_c_3, c_c_4, c_c_5⟩ := six r_c
  have f_b := rfree r_b
  have f_c := rfree r_c
  have ce := keepc KK CE
  have ct0 := keepc KK C0
  go_wp2_with fail
  refine (R1.out _ (TZ.out y0) (SZ.out y0)).mono ?_
  rintro e w1 ⟨rfl, g⟩
  obtain ⟨y1, rfl⟩ := Wb.next (x := y0) g
  clear g
  go_wp2_with fail
  refine (R3.out _ (TZ.out y1) (SZ.out y1)).mono ?_
  rintro e w1 ⟨rfl, g⟩
  obtain ⟨y2, rfl⟩ := Wb.next (x := y1) g
  clear g
  go_wp2_with fail
  refine (R5.out _ (TZ.out y2) (SZ.out y2)).mono ?_
  rintro e w1 ⟨rfl, g⟩
  obtain ⟨y3, rfl⟩ := Wb.next (x := y2) g
  clear g
  go_upto_region 26 with fail
  refine to_cls ?_
  intro U4 hU4 y4
  clear c_b_0 c_b_1 c_b_2 c_b_3 c_b_4 c_b_5 c_c_0 c_c_1 c_c_2 c_c_3 c_c_4 c_c_5 f_b f_c ce ct0
  have r_b : ∀ z : Wb U4, Row z.at (w.heap.size) [.int .i64 0, .int .i64 0, .int .i64 0, .int .i64 0, .int .i64 0, .int .i64 0] 23 := Row.next ((((r_b y3).oth (by omega) _ _).oth (by omega) _ _).oth (by omega) _ _) hU4
  have r_c : ∀ z : Wb U4, Row z.at (w.heap.size + 1) [.int .i64 12, .int .i64 r1, .int .i64 r3, .int .i64 r5, .int .i64 0, .int .i64 0] 23 := Row.next ((((r_c y3).set _ _).set _ _).set _ _) hU4
  have KK := Lib.hid (KB.next (KB.put (KB.put (KB.put (KK.out y3) (by omega) _ _) (by omega) _ _) (by omega) _ _) hU4)
  clear hU4
  obtain ⟨c_b_0, c_b_1, c_b_2, c_b_3, c_b_4, c_b_5⟩ := six r_b
  obtain ⟨c_c_0, c_c_1, c_c_2, c_c_3, c_c_4, c_c_5⟩ := six r_c
  have TZ := Lib.hid fun z => TH.out.below (KK.out z)
  have SZ := Lib.hid fun z => SH.out.below (KK.out z)
  have f_b := rfree r_b
  have f_c := rfree r_c
  have ce := keepc KK CE
  have ct0 := keepc KK C0
  go_wp2
  refine bodyPost_ret (v := iv ⟨12, r1, r3, r5, 0, 0⟩) (by simp [results, Tryd.results34, go_sem, iv, *]) rfl ⟨by rw [SP.out], ?_⟩
  repeat' (first | (with_reducible exact KK.out y4) | (with_reducible refine Below.setCell ?_ ?_ _) | (simp; done) | (simp; omega) | omega)

set_option maxRecDepth 100000 in
set_option maxHeartbeats 3200000 in
theorem aguess_13_c (L : List Tx) (a : Addr) (k cap : Nat) (w : World) (ht : Tab w) (h : SlT w (.slice (some a) (k + 1) cap) L) (hs : Short L) (hn : L.length = k + 1) (hk : k ≤ 7) (hc : L.getD 0 [] = CMP) : Calls Tryd.prog 34 #[.int .i64 13, .slice (some a) (k + 1) cap] w fun e w' => e = .returned (iv (guess 13 L)) ∧ Below w.heap.size w w' := by
  have TH := Lib.hid ht
  have SH := Lib.hid h
  obtain ⟨te, hte⟩ : ∃ t, t = L.getD k [] := ⟨_, rfl⟩
  have CE := Lib.hid (show w.cell? (a.add k) = _ from slT_at h k (by omega))
  rw [← hte] at CE
  obtain ⟨t0, ht0⟩ : ∃ t, t = L.getD 0 [] := ⟨_, rfl⟩
  have C0 := Lib.hid (show w.cell? (a) = _ from slT_at h 0 (by omega))
  rw [← ht0] at C0
  obtain ⟨r1, hr1⟩ : ∃ r, r = register L 1 := ⟨_, rfl⟩
  have R1 := Lib.hid (fun w2 (t2 : Tab w2) (s2 : SlT w2 (.slice (some a) (k + 1) cap) L) => aregister_any L _ 1 w2 t2.tb s2 (by omega))
  rw [← hr1] at R1
  obtain ⟨r3, hr3⟩ : ∃ r, r = register L 3 := ⟨_, rfl⟩
  have R3 := Lib.hid (fun w2 (t2 : Tab w2) (s2 : SlT w2 (.slice (some a) (k + 1) cap) L) => aregister_any L _ 3 w2 t2.tb s2 (by omega))
  rw [← hr3] at R3
  obtain ⟨r5, hr5⟩ : ∃ r, r = register L 5 := ⟨_, rfl⟩
  have R5 := Lib.hid (fun w2 (t2 : Tab w2) (s2 : SlT w2 (.slice (some a) (k + 1) cap) L) => aregister_any L _ 5 w2 t2.tb s2 (by omega))
  rw [← hr5] at R5
  have SP := Lib.hid (show guess 13 L = ⟨13, 31, r1, r3, 0, 0⟩ by
    rw [guess, if_neg (by omega), if_neg (by omega), if_neg (by omega), if_pos (by omega), if_pos hc, ← hr1, ← hr3])
  have n0 : (0 : Int) ≤ (k : Int) := by omega
  have n1 : (k : Int) ≤ 7 := by omega
  have n2 : ((k + 1 : Nat) : Int) = (k : Int) + 1 := by omega
  have n3 : (k : Int) < (k : Int) + 1 := by omega
  have n4 : (k : Int) + 1 - 1 = (k : Int) := by omega
  have hc2 : ((strL t0).toList == [67, 77, 80]) = true := str_lit_eq (by rw [ht0]; exact hc)
  clear hc
  clear ht h hs hn hte hk ht0 hr1 hr3 hr5
  go_enter Tryd.func34, Tryd.ntmps34
  go_upto_region 2 with fail
  refine to_cls ?_
  intro U0 hU0 y0
  have r_b : ∀ z : Wb U0, Row z.at (w.heap.size) [.int .i64 0, .int .i64 0, .int .i64 0, .int .i64 0, .int .i64 0, .int .i64 0] 23 := Row.next (Row.old (Row.new' _ [.int .i64 0, .int .i64 0, .int .i64 0, .int .i64 0, .int .i64 0, .int .i64 0] _ _ (by simp)) _) hU0
  have r_c : ∀ z : Wb U0, Row z.at (w.heap.size + 1) [.int .i64 13, .int .i64 0, .int .i64 0, .int .i64 0, .int .i64 0, .int .i64 0] 23 := Row.next (Row.new' _ [.int .i64 13, .int .i64 0, .int .i64 0, .int .i64 0, .int .i64 0, .int .i64 0] _ _ (by simp)) hU0
  have KK := Lib.hid (KB.next (KB.alloc (KB.alloc (Below.refl _ _) _) _) hU0)
  have TZ := Lib.hid (fun z : Wb U0 => ((TH.out.below (KB.alloc (KB.alloc (Below.refl w.heap.size w) _) _)).below hU0).below z.bel)
  have SZ := Lib.hid (fun z : Wb U0 => ((SH.out.below (KB.alloc (KB.alloc (Below.refl w.heap.size w) _) _)).below hU0).below z.bel)
  clear hU0
  obtain ⟨c_b_0, c_b_1, c_b_2, c_b_3, c_b_4, c_b_5⟩ := six r_b
  obtain ⟨c_c_0, c_c_1, c_c_2, c_c_3, c_c_4, c_c_5⟩ := six r_c
  have f_b := rfree r_b
  have f_c := rfree r_c
  have ce := keepc KK CE
  have ct0 := keepc KK C0
  go_wp2_with fail
  refine (R1.out _ (TZ.out y0) (SZ.out y0)).mono ?_
  rintro e w1 ⟨rfl, g⟩
  obtain ⟨y1, rfl⟩ := Wb.next (x := y0) g
  clear g
  go_wp2_with fail
  refine (R3.out _ (TZ.out y1) (SZ.out y1)).mono ?_
  rintro e w1 ⟨rfl, g⟩
  obtain ⟨y2, rfl⟩ := Wb.next (x := y1) g
  clear g
  go_wp2_with fail
  refine (R5.out _ (TZ.out y2) (SZ.out y2)).mono ?_
  rintro e w1 ⟨rfl, g⟩
  obtain ⟨y3, rfl⟩ := Wb.next (x := y2) g
  clear g
  go_upto_region 26 with fail
  refine to_cls ?_
  intro U4 hU4 y4
  clear c_b_0 c_b_1 c_b_2 c_b_3 c_b_4 c_b_5 c_c_0 c_c_1 c_c_2 c_c_3 c_c_4 c_c_5 f_b f_c ce ct0
  have r_b : ∀ z : Wb U4, Row z.at (w.heap.size) [.int .i64 0, .int .i64 0, .int .i64 0, .int .i64 0, .int .i64 0, .int .i64 0] 23 := Row.next ((((r_b y3).oth (by omega) _ _).oth (by omega) _ _).oth (by omega) _ _) hU4
  have r_c : ∀ z : Wb U4, Row z.at (w.heap.size + 1) [.int .i64 13, .int .i64 r1, .int .i64 r3, .int .i64 r5, .int .i64 0, .int .i64 0] 23 := Row.next ((((r_c y3).set _ _).set _ _).set _ _) hU4
  have KK := Lib.hid (KB.next (KB.put (KB.put (KB.put (KK.out y3) (by omega) _ _) (by omega) _ _) (by omega) _ _) hU4)
  clear hU4
  obtain ⟨c_b_0, c_b_1, c_b_2, c_b_3, c_b_4, c_b_5⟩ := six r_b
  obtain ⟨c_c_0, c_c_1, c_c_2, c_c_3, c_c_4, c_c_5⟩ := six r_c
  have TZ := Lib.hid fun z => TH.out.below (KK.out z)
  have SZ := Lib.hid fun z => SH.out.below (KK.out z)
  have f_b := rfree r_b
  have f_c := rfree r_c
  have ce := keepc KK CE
  have ct0 := keepc KK C0
  go_wp2_with fail
  refine (R1.out _ (TZ.out y4) (SZ.out y4)).mono ?_
  rintro e w1 ⟨rfl, g⟩
  obtain ⟨y5, rfl⟩ := Wb.next (x := y4) g
  clear g
  go_wp2_with fail
  refine (R3.out _ (TZ.out y5) (SZ.out y5)).mono ?_
  rintro e w1 ⟨rfl, g⟩
  obtain ⟨y6, rfl⟩ := Wb.next (x := y5) g
  clear g
  go_upto_region 45 with fail
  refine to_cls ?_
  intro U7 hU7 y7
  clear c_b_0 c_b_1 c_b_2 c_b_3 c_b_4 c_b_5 c_c_0 c_c_1 c_c_2 c_c_3 c_c_4 c_c_5 f_b f_c ce ct0
  have r_b : ∀ z : Wb U7, Row z.at (w.heap.size) [.int .i64 0, .int .i64 0, .int .i64 0, .int .i64 0, .int .i64 0, .int .i64 0] 23 := Row.next ((((r_b y6).oth (by omega) _ _).oth (by omega) _ _).oth (by omega) _ _) hU7
  have r_c : ∀ z : Wb U7, Row z.at (w.heap.size + 1) [.int .i64 13, .int .i64 31, .int .i64 r1, .int .i64 r3, .int .i64 0, .int .i64 0] 23 := Row.next ((((r_c y6).set _ _).set _ _).set _ _) hU7
  have KK := Lib.hid (KB.next (KB.put (KB.put (KB.put (KK.out y6) (by omega) _ _) (by omega) _ _) (by omega) _ _) hU7)
  clear hU7
  obtain ⟨c_b_0, c_b_1, c_b_2, c_b_3, c_b_4, c_b_5⟩ := six r_b
  obtain ⟨c_c_0, c_c_1, c_c_2, c_c_3, c_c_4, c_c_5⟩ := six r_c
  have TZ := Lib.hid fun z => TH.out.below (KK.out z)
  have SZ := Lib.hid fun z => SH.out.below (KK.out z)
  have f_b := rfree r_b
  have f_c := rfree r_c
  have ce := keepc KK CE
  have ct0 := keepc KK C0
  go_wp2
  refine bodyPost_ret (v := iv ⟨13, 31, r1, r3, 0, 0⟩) (by simp [results, Tryd.results34, go_sem, iv, *]) rfl ⟨by rw [SP.out], ?_⟩
  repeat' (first | (with_reducible exact KK.out y7) | (with_reducible refine Below.setCell ?_ ?_ _) | (simp; done) | (simp; omega) | omega)

set_option maxRecDepth 100000 in
set_option maxHeartbeats 3200000 in
theorem aguess_13_n (L : List Tx) (a : Addr) (k cap : Nat) (w : World) (ht : Tab w) (h : SlT w (.slice (some a) (k + 1) cap) L) (hs : Short L) (hn : L.length = k + 1) (hk : k ≤ 7) (hc : ¬ L.getD 0 [] = CMP) : Calls Tryd.prog 34 #[.int .i64 13, .slice (some a) (k + 1) cap] w fun e w' => e = .returned (iv (guess 13 L)) ∧ Below w.heap.size w w' := by
  have TH := Lib.hid ht
  have SH := Lib.hid h
  obtain ⟨te, hte⟩ : ∃ t, t = L.getD k [] := ⟨_, rfl⟩
  have CE := Lib.hid (show w.cell? (a.add k) = _ from slT_at h k (by omega))
  rw [← hte] at CE
  obtain ⟨t0, ht0⟩ : ∃ t, t = L.getD 0 [] := ⟨_, rfl⟩
  have C0 := Lib.hid (show w.cell? (a) = _ from slT_at h 0 (by omega))
  rw [← ht0] at C0
  obtain ⟨r1, hr1⟩ : ∃ r, r = register L 1 := ⟨_, rfl⟩
  have R1 := Lib.hid (fun w2 (t2 : Tab w2) (s2 : SlT w2 (.slice (some a) (k + 1) cap) L) => aregister_any L _ 1 w2 t2.tb s2 (by omega))
  rw [← hr1] at R1
  obtain ⟨r3, hr3⟩ : ∃ r, r = register L 3 := ⟨_, rfl⟩
  have R3 := Lib.hid (fun w2 (t2 : Tab w2) (s2 : SlT w2 (.slice (some a) (k + 1) cap) L) => aregister_any L _ 3 w2 t2.tb s2 (by omega))
  rw [← hr3] at R3
  obtain ⟨r5, hr5⟩ : ∃ r, r = register L 5 := ⟨_, rfl⟩
  have R5 := Lib.hid (fun w2 (t2 : Tab w2) (s2 : SlT w2 (.slice (some a) (k + 1) cap) L) => aregister_any L _ 5 w2 t2.tb s2 (by omega))
  rw [← hr5] at R5
  have SP := Lib.hid (show guess 13 L = ⟨13, r1, r3, r5, 0, 0⟩ by
    rw [guess, if_neg (by omega), if_neg (by omega), if_neg (by omega), if_pos (by omega), if_neg hc, ← hr1, ← hr3, ← hr5])
  have n0 : (0 : Int) ≤ (k : Int) := by omega
  have n1 : (k : Int) ≤ 7 := by omega
  have n2 : ((k + 1 : Nat) : Int) = (k : Int) + 1 := by omega
  have n3 : (k : Int) < (k : Int) + 1 := by omega
  have n4 : (k : Int) + 1 - 1 = (k : Int) := by omega
  have hc2 : ((strL t0).toList == [67, 77, 80]) = false := str_lit_ne (by rw [ht0]; exact hc)
  clear hc
  clear ht h hs hn hte hk ht0 hr1 hr3 hr5
  go_enter Tryd.func34, Tryd.ntmps34
  go_upto_region 2 with fail
  refine to_cls ?_
  intro U0 hU0 y0
  have r_b : ∀ z : Wb U0, Row z.at (w.heap.size) [.int .i64 0, .int .i64 0, .int .i64 0, .int .i64 0, .int .i64 0, .int .i64 0] 23 := Row.next (Row.old (Row.new' _ [.int .i64 0, .int .i64 0, .int .i64 0, .int .i64 0, .int .i64 0, .int .i64 0] _ _ (by simp)) _) hU0
  have r_c : ∀ z : Wb U0, Row z.at (w.heap.size + 1) [.int .i64 13, .int .i64 0, .int .i64 0, .int .i64 0, .int .i64 0, .int .i64 0] 23 := Row.next (Row.new' _ [.int .i64 13, .int .i64 0, .int .i64 0, .int .i64 0, .int .i64 0, .int .i64 0] _ _ (by simp)) hU0
  have KK := Lib.hid (KB.next (KB.alloc (KB.alloc (Below.refl _ _) _) _) hU0)
  have TZ := Lib.hid (fun z : Wb U0 => ((TH.out.below (KB.alloc (KB.alloc (Below.refl w.heap.size w) _) _)).below hU0).below z.bel)
  have SZ := Lib.hid (fun z : Wb U0 => ((SH.out.below (KB.alloc (KB.alloc (Below.refl w.heap.size w) _) _)).below hU0).below z.bel)
  clear hU0
  obtain ⟨c_b_0, c_b_1, c_b_2, c_b_3, c_b_4, c_b_5⟩ := six r_b
  obtain ⟨c_c_0, c_c_1, c_c_2, c_c_3, c_c_4, c_c_5⟩ := six r_c
  have f_b := rfree r_b
  have f_c := rfree r_c
  have ce := keepc KK CE
  have ct0 := keepc KK C0
  go_wp2_with fail
  refine (R1.out _ (TZ.out y0) (SZ.out y0)).mono ?_
  rintro e w1 ⟨rfl, g⟩
  obtain ⟨y1, rfl⟩ := Wb.next (x := y0) g
  clear g
  go_wp2_with fail
  refine (R3.out _ (TZ.out y1) (SZ.out y1)).mono ?_
  rintro e w1 ⟨rfl, g⟩
  obtain ⟨y2, rfl⟩ := Wb.next (x := y1) g
  clear g
  go_wp2_with fail
  refine (R5.out _ (TZ.out y2) (SZ.out y2)).mono ?_
  rintro e w1 ⟨rfl, g⟩
  obtain ⟨y3, rfl⟩ := Wb.next (x := y2) g
  clear g
  go_upto_region 26 with fail
  refine to_cls ?_
  intro U4 hU4 y4
  clear c_b_0 c_b_1 c_b_2 c_b_3 c_b_4 c_b_5 c_c_0 c_c_1 c_c_2 c_c_3 c_c_4 c_c_5 f_b f_c ce ct0
  have r_b : ∀ z : Wb U4, Row z.at (w.heap.size) [.int .i64 0, .int .i64 0, .int .i64 0, .int .i64 0, .int .i64 0, .int .i64 0] 23 := Row.next ((((r_b y3).oth (by omega) _ _).oth (by omega) _ _).oth (by omega) _ _) hU4
  have r_c : ∀ z : Wb U4, Row z.at (w.heap.size + 1) [.int .i64 13, .int .i64 r1, .int .i64 r3, .int .i64 r5, .int .i64 0, .int .i64 0] 23 := Row.next ((((r_c y3).set _ _).set _ _).set _ _) hU4
  have KK := Lib.hid (KB.next (KB.put (KB.put (KB.put (KK.out y3) (by omega) _ _) (by omega) _ _) (by omega) _ _) hU4)
  clear hU4
  obtain ⟨c_b_0, c_b_1, c_b_2, c_b_3, c_b_4, c_b_5⟩ := six r_b
  obtain ⟨c_c_0, c_c_1, c_c_2, c_c_3, c_c_4, c_c_5⟩ := six r_c
  have TZ := Lib.hid fun z => TH.out.below (KK.out z)
  have SZ := Lib.hid fun z => SH.out.below (KK.out z)
  have f_b := rfree r_b
  have f_c := rfree r_c
  have ce := keepc KK CE
  have ct0 := keepc KK C0
  go_wp2
  refine bodyPost_ret (v := iv ⟨13, r1, r3, r5, 0, 0⟩) (by simp [results, Tryd.results34, go_sem, iv, *]) rfl ⟨by rw [SP.out], ?_⟩
  repeat' (first | (with_reducible exact KK.out y4) | (with_reducible refine Below.setCell ?_ ?_ _) | (simp; done) | (simp; omega) | omega)

end Go.Proofs.YtebpmngllljkaaaDoor
