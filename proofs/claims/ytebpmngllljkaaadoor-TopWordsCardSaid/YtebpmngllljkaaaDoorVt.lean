/-
  Layer 4, the walks: guess.
  Layer 4, the walks: guess.
-/
import Derived.Test.YtebpmngllljkaaaDoorV1
set_option linter.unusedSimpArgs false
set_option linter.unusedVariables false
namespace Go.Proofs.YtebpmngllljkaaaDoor
open Go.RowKit GrP GrA


set_option maxRecDepth 100000 in
set_option maxHeartbeats 3200000 in
theorem aguess_2_8 (L : List Tx) (a : Addr) (cap : Nat) (w : World) (ht : Tab w) (h : SlT w (.slice (some a) (8) cap) L) (hs : Short L) (hn : L.length = 8) : Calls Tryd.prog 34 #[.int .i64 2, .slice (some a) (8) cap] w fun e w' => e = .returned (iv (guess 2 L)) ∧ Below w.heap.size w w' := by
  have TH := Lib.hid ht
  have SH := Lib.hid h
  obtain ⟨te, hte⟩ : ∃ t, t = L.getD 7 [] := ⟨_, rfl⟩
  have CE := Lib.hid (show w.cell? (⟨a.block, a.off + 7, none⟩) = _ from slT_at h 7 (by omega))
  rw [← hte] at CE
  obtain ⟨t6, ht6⟩ : ∃ t, t = L.getD 6 [] := ⟨_, rfl⟩
  have C6 := Lib.hid (show w.cell? (⟨a.block, a.off + 6, none⟩) = _ from slT_at h 6 (by omega))
  rw [← ht6] at C6
  obtain ⟨r1, hr1⟩ : ∃ r, r = register L 1 := ⟨_, rfl⟩
  have R1 := Lib.hid (fun w2 (t2 : Tab w2) (s2 : SlT w2 (.slice (some a) (8) cap) L) => aregister_any L _ 1 w2 t2.tb s2 (by omega))
  rw [← hr1] at R1
  obtain ⟨r4, hr4⟩ : ∃ r, r = register L 4 := ⟨_, rfl⟩
  have R4 := Lib.hid (fun w2 (t2 : Tab w2) (s2 : SlT w2 (.slice (some a) (8) cap) L) => aregister_any L _ 4 w2 t2.tb s2 (by omega))
  rw [← hr4] at R4
  obtain ⟨m6, hm6⟩ : ∃ m, m = numberIn t6 := ⟨_, rfl⟩
  have N6 := Lib.hid (fun w2 => numberIn_any t6 w2 (by rw [ht6]; exact short_at hs 6 (by omega)))
  rw [← hm6] at N6
  have SP := Lib.hid (show guess 2 L = ⟨2, r1, r4, 0, m6, 0⟩ by
    simp [guess, hn, hr1, hr4, hm6, ht6])
  clear ht h hs hn hte ht6 hr1 hr4 hm6
  go_enter Tryd.func34, Tryd.ntmps34
  go_upto_region 2 with fail
  refine to_cls ?_
  intro U0 hU0 y0
  have r_b : ∀ z : Wb U0, Row z.at (w.heap.size) [.int .i64 0, .int .i64 0, .int .i64 0, .int .i64 0, .int .i64 0, .int .i64 0] 23 := Row.next (Row.old (Row.new' _ [.int .i64 0, .int .i64 0, .int .i64 0, .int .i64 0, .int .i64 0, .int .i64 0] _ _ (by simp)) _) hU0
  have r_c : ∀ z : Wb U0, Row z.at (w.heap.size + 1) [.int .i64 2, .int .i64 0, .int .i64 0, .int .i64 0, .int .i64 0, .int .i64 0] 23 := Row.next (Row.new' _ [.int .i64 2, .int .i64 0, .int .i64 0, .int .i64 0, .int .i64 0, .int .i64 0] _ _ (by simp)) hU0
  have KK := Lib.hid (KB.next (KB.alloc (KB.alloc (Below.refl _ _) _) _) hU0)
  have TZ := Lib.hid (fun z : Wb U0 => ((TH.out.below (KB.alloc (KB.alloc (Below.refl w.heap.size w) _) _)).below hU0).below z.bel)
  have SZ := Lib.hid (fun z : Wb U0 => ((SH.out.below (KB.alloc (KB.alloc (Below.refl w.heap.size w) _) _)).below hU0).below z.bel)
  clear hU0
  obtain ⟨c_b_0, c_b_1, c_b_2, c_b_3, c_b_4, c_b_5⟩ := six r_b
  obtain ⟨c_c_0, c_c_1, c_c_2, c_c_3, c_c_4, c_c_5⟩ := six r_c
  have f_b := rfree r_b
  have f_c := rfree r_c
  have ce := keepc KK CE
  have ct6 := keepc KK C6
  go_wp2_with fail
  refine (R1.out _ (TZ.out y0) (SZ.out y0)).mono ?_
  rintro e w1 ⟨rfl, g⟩
  obtain ⟨y1, rfl⟩ := Wb.next (x := y0) g
  clear g
  go_wp2_with fail
  refine (R4.out _ (TZ.out y1) (SZ.out y1)).mono ?_
  rintro e w1 ⟨rfl, g⟩
  obtain ⟨y2, rfl⟩ := Wb.next (x := y1) g
  clear g
  go_upto_region 9 with fail
  refine to_cls ?_
  intro U3 hU3 y3
  clear c_b_0 c_b_1 c_b_2 c_b_3 c_b_4 c_b_5 c_c_0 c_c_1 c_c_2 c_c_3 c_c_4 c_c_5 f_b f_c ce ct6
  have r_b : ∀ z : Wb U3, Row z.at (w.heap.size) [.int .i64 0, .int .i64 0, .int .i64 0, .int .i64 0, .int .i64 0, .int .i64 0] 23 := Row.next (((r_b y2).oth (by omega) _ _).oth (by omega) _ _) hU3
  have r_c : ∀ z : Wb U3, Row z.at (w.heap.size + 1) [.int .i64 2, .int .i64 r1, .int .i64 r4, .int .i64 0, .int .i64 0, .int .i64 0] 23 := Row.next (((r_c y2).set _ _).set _ _) hU3
  have KK := Lib.hid (KB.next (KB.put (KB.put (KK.out y2) (by omega) _ _) (by omega) _ _) hU3)
  clear hU3
  obtain ⟨c_b_0, c_b_1, c_b_2, c_b_3, c_b_4, c_b_5⟩ := six r_b
  obtain ⟨c_c_0, c_c_1, c_c_2, c_c_3, c_c_4, c_c_5⟩ := six r_c
  have TZ := Lib.hid fun z => TH.out.below (KK.out z)
  have SZ := Lib.hid fun z => SH.out.below (KK.out z)
  have f_b := rfree r_b
  have f_c := rfree r_c
  have ce := keepc KK CE
  have ct6 := keepc KK C6
  go_wp2_with fail
  refine (N6.out _).mono ?_
  rintro e w1 ⟨rfl, g⟩
  obtain ⟨y4, rfl⟩ := Wb.next (x := y3) g
  clear g
  go_upto_region 45 with fail
  refine to_cls ?_
  intro U5 hU5 y5
  clear c_b_0 c_b_1 c_b_2 c_b_3 c_b_4 c_b_5 c_c_0 c_c_1 c_c_2 c_c_3 c_c_4 c_c_5 f_b f_c ce ct6
  have r_b : ∀ z : Wb U5, Row z.at (w.heap.size) [.int .i64 0, .int .i64 0, .int .i64 0, .int .i64 0, .int .i64 0, .int .i64 0] 23 := Row.next ((r_b y4).oth (by omega) _ _) hU5
  have r_c : ∀ z : Wb U5, Row z.at (w.heap.size + 1) [.int .i64 2, .int .i64 r1, .int .i64 r4, .int .i64 0, .int .i64 m6, .int .i64 0] 23 := Row.next ((r_c y4).set _ _) hU5
  have KK := Lib.hid (KB.next (KB.put (KK.out y4) (by omega) _ _) hU5)
  clear hU5
  obtain ⟨c_b_0, c_b_1, c_b_2, c_b_3, c_b_4, c_b_5⟩ := six r_b
  obtain ⟨c_c_0, c_c_1, c_c_2, c_c_3, c_c_4, c_c_5⟩ := six r_c
  have TZ := Lib.hid fun z => TH.out.below (KK.out z)
  have SZ := Lib.hid fun z => SH.out.below (KK.out z)
  have f_b := rfree r_b
  have f_c := rfree r_c
  have ce := keepc KK CE
  have ct6 := keepc KK C6
  go_wp2
  refine bodyPost_ret (v := iv ⟨2, r1, r4, 0, m6, 0⟩) (by simp [results, Tryd.results34, go_sem, iv, *]) rfl ⟨by rw [SP.out], ?_⟩
  repeat' (first | (with_reducible exact KK.out y5) | (with_reducible refine Below.setCell ?_ ?_ _) | (simp; done) | (simp; omega) | omega)

set_option maxRecDepth 100000 in
set_option maxHeartbeats 3200000 in
theorem aguess_2_n (L : List Tx) (a : Addr) (k cap : Nat) (w : World) (ht : Tab w) (h : SlT w (.slice (some a) (k + 1) cap) L) (hs : Short L) (hn : L.length = k + 1) (hk : k ≤ 7) (h8 : k ≠ 7) : Calls Tryd.prog 34 #[.int .i64 2, .slice (some a) (k + 1) cap] w fun e w' => e = .returned (iv (guess 2 L)) ∧ Below w.heap.size w w' := by
  have TH := Lib.hid ht
  have SH := Lib.hid h
  obtain ⟨te, hte⟩ : ∃ t, t = L.getD k [] := ⟨_, rfl⟩
  have CE := Lib.hid (show w.cell? (a.add k) = _ from slT_at h k (by omega))
  rw [← hte] at CE
  obtain ⟨r1, hr1⟩ : ∃ r, r = register L 1 := ⟨_, rfl⟩
  have R1 := Lib.hid (fun w2 (t2 : Tab w2) (s2 : SlT w2 (.slice (some a) (k + 1) cap) L) => aregister_any L _ 1 w2 t2.tb s2 (by omega))
  rw [← hr1] at R1
  obtain ⟨r4, hr4⟩ : ∃ r, r = register L 4 := ⟨_, rfl⟩
  have R4 := Lib.hid (fun w2 (t2 : Tab w2) (s2 : SlT w2 (.slice (some a) (k + 1) cap) L) => aregister_any L _ 4 w2 t2.tb s2 (by omega))
  rw [← hr4] at R4
  have SP := Lib.hid (show guess 2 L = ⟨2, r1, r4, 0, 0, 0⟩ by
    simp [guess, hn, hr1, hr4, h8])
  have n0 : (0 : Int) ≤ (k : Int) := by omega
  have n1 : (k : Int) ≤ 7 := by omega
  have n2 : ((k + 1 : Nat) : Int) = (k : Int) + 1 := by omega
  have n3 : (k : Int) < (k : Int) + 1 := by omega
  have n4 : (k : Int) + 1 - 1 = (k : Int) := by omega
  have g1 : ¬ (k : Int) + 1 = 8 := by omega
  have g2 : ((k : Int) + 1 == 8) = false := by simp; omega
  clear h8
  clear ht h hs hn hte hk hr1 hr4
  go_enter Tryd.func34, Tryd.ntmps34
  go_upto_region 2 with fail
  refine to_cls ?_
  intro U0 hU0 y0
  have r_b : ∀ z : Wb U0, Row z.at (w.heap.size) [.int .i64 0, .int .i64 0, .int .i64 0, .int .i64 0, .int .i64 0, .int .i64 0] 23 := Row.next (Row.old (Row.new' _ [.int .i64 0, .int .i64 0, .int .i64 0, .int .i64 0, .int .i64 0, .int .i64 0] _ _ (by simp)) _) hU0
  have r_c : ∀ z : Wb U0, Row z.at (w.heap.size + 1) [.int .i64 2, .int .i64 0, .int .i64 0, .int .i64 0, .int .i64 0, .int .i64 0] 23 := Row.next (Row.new' _ [.int .i64 2, .int .i64 0, .int .i64 0, .int .i64 0, .int .i64 0, .int .i64 0] _ _ (by simp)) hU0
  have KK := Lib.hid (KB.next (KB.alloc (KB.alloc (Below.refl _ _) _) _) hU0)
  have TZ := Lib.hid (fun z : Wb U0 => ((TH.out.below (KB.alloc (KB.alloc (Below.refl w.heap.size w) _) _)).below hU0).below z.bel)
  have SZ := Lib.hid (fun z : Wb U0 => ((SH.out.below (KB.alloc (KB.alloc (Below.refl w.heap.size w) _) _)).below hU0).below z.bel)
  clear hU0
  obtain ⟨c_b_0, c_b_1, c_b_2, c_b_3, c_b_4, c_b_5⟩ := six r_b
  obtain ⟨c_c_0, c_c_1, c_c_2, c_c_3, c_c_4, c_c_5⟩ := six r_c
  have f_b := rfree r_b
  have f_c := rfree r_c
  have ce := keepc KK CE
  go_wp2_with fail
  refine (R1.out _ (TZ.out y0) (SZ.out y0)).mono ?_
  rintro e w1 ⟨rfl, g⟩
  obtain ⟨y1, rfl⟩ := Wb.next (x := y0) g
  clear g
  go_wp2_with fail
  refine (R4.out _ (TZ.out y1) (SZ.out y1)).mono ?_
  rintro e w1 ⟨rfl, g⟩
  obtain ⟨y2, rfl⟩ := Wb.next (x := y1) g
  clear g
  go_upto_region 9 with fail
  refine to_cls ?_
  intro U3 hU3 y3
  clear c_b_0 c_b_1 c_b_2 c_b_3 c_b_4 c_b_5 c_c_0 c_c_1 c_c_2 c_c_3 c_c_4 c_c_5 f_b f_c ce
  have r_b : ∀ z : Wb U3, Row z.at (w.heap.size) [.int .i64 0, .int .i64 0, .int .i64 0, .int .i64 0, .int .i64 0, .int .i64 0] 23 := Row.next (((r_b y2).oth (by omega) _ _).oth (by omega) _ _) hU3
  have r_c : ∀ z : Wb U3, Row z.at (w.heap.size + 1) [.int .i64 2, .int .i64 r1, .int .i64 r4, .int .i64 0, .int .i64 0, .int .i64 0] 23 := Row.next (((r_c y2).set _ _).set _ _) hU3
  have KK := Lib.hid (KB.next (KB.put (KB.put (KK.out y2) (by omega) _ _) (by omega) _ _) hU3)
  clear hU3
  obtain ⟨c_b_0, c_b_1, c_b_2, c_b_3, c_b_4, c_b_5⟩ := six r_b
  obtain ⟨c_c_0, c_c_1, c_c_2, c_c_3, c_c_4, c_c_5⟩ := six r_c
  have TZ := Lib.hid fun z => TH.out.below (KK.out z)
  have SZ := Lib.hid fun z => SH.out.below (KK.out z)
  have f_b := rfree r_b
  have f_c := rfree r_c
  have ce := keepc KK CE
  go_wp2
  refine bodyPost_ret (v := iv ⟨2, r1, r4, 0, 0, 0⟩) (by simp [results, Tryd.results34, go_sem, iv, *]) rfl ⟨by rw [SP.out], ?_⟩
  repeat' (first | (with_reducible exact KK.out y3) | (with_reducible refine Below.setCell ?_ ?_ _) | (simp; done) | (simp; omega) | omega)

set_option maxRecDepth 100000 in
set_option maxHeartbeats 3200000 in
theorem aguess_3_8 (L : List Tx) (a : Addr) (cap : Nat) (w : World) (ht : Tab w) (h : SlT w (.slice (some a) (8) cap) L) (hs : Short L) (hn : L.length = 8) : Calls Tryd.prog 34 #[.int .i64 3, .slice (some a) (8) cap] w fun e w' => e = .returned (iv (guess 3 L)) ∧ Below w.heap.size w w' := by
  have TH := Lib.hid ht
  have SH := Lib.hid h
  obtain ⟨te, hte⟩ : ∃ t, t = L.getD 7 [] := ⟨_, rfl⟩
  have CE := Lib.hid (show w.cell? (⟨a.block, a.off + 7, none⟩) = _ from slT_at h 7 (by omega))
  rw [← hte] at CE
  obtain ⟨t6, ht6⟩ : ∃ t, t = L.getD 6 [] := ⟨_, rfl⟩
  have C6 := Lib.hid (show w.cell? (⟨a.block, a.off + 6, none⟩) = _ from slT_at h 6 (by omega))
  rw [← ht6] at C6
  obtain ⟨r1, hr1⟩ : ∃ r, r = register L 1 := ⟨_, rfl⟩
  have R1 := Lib.hid (fun w2 (t2 : Tab w2) (s2 : SlT w2 (.slice (some a) (8) cap) L) => aregister_any L _ 1 w2 t2.tb s2 (by omega))
  rw [← hr1] at R1
  obtain ⟨r4, hr4⟩ : ∃ r, r = register L 4 := ⟨_, rfl⟩
  have R4 := Lib.hid (fun w2 (t2 : Tab w2) (s2 : SlT w2 (.slice (some a) (8) cap) L) => aregister_any L _ 4 w2 t2.tb s2 (by omega))
  rw [← hr4] at R4
  obtain ⟨m6, hm6⟩ : ∃ m, m = numberIn t6 := ⟨_, rfl⟩
  have N6 := Lib.hid (fun w2 => numberIn_any t6 w2 (by rw [ht6]; exact short_at hs 6 (by omega)))
  rw [← hm6] at N6
  have SP := Lib.hid (show guess 3 L = ⟨3, r1, r4, 0, m6, 0⟩ by
    simp [guess, hn, hr1, hr4, hm6, ht6])
  clear ht h hs hn hte ht6 hr1 hr4 hm6
  go_enter Tryd.func34, Tryd.ntmps34
  go_upto_region 2 with fail
  refine to_cls ?_
  intro U0 hU0 y0
  have r_b : ∀ z : Wb U0, Row z.at (w.heap.size) [.int .i64 0, .int .i64 0, .int .i64 0, .int .i64 0, .int .i64 0, .int .i64 0] 23 := Row.next (Row.old (Row.new' _ [.int .i64 0, .int .i64 0, .int .i64 0, .int .i64 0, .int .i64 0, .int .i64 0] _ _ (by simp)) _) hU0
  have r_c : ∀ z : Wb U0, Row z.at (w.heap.size + 1) [.int .i64 3, .int .i64 0, .int .i64 0, .int .i64 0, .int .i64 0, .int .i64 0] 23 := Row.next (Row.new' _ [.int .i64 3, .int .i64 0, .int .i64 0, .int .i64 0, .int .i64 0, .int .i64 0] _ _ (by simp)) hU0
  have KK := Lib.hid (KB.next (KB.alloc (KB.alloc (Below.refl _ _) _) _) hU0)
  have TZ := Lib.hid (fun z : Wb U0 => ((TH.out.below (KB.alloc (KB.alloc (Below.refl w.heap.size w) _) _)).below hU0).below z.bel)
  have SZ := Lib.hid (fun z : Wb U0 => ((SH.out.below (KB.alloc (KB.alloc (Below.refl w.heap.size w) _) _)).below hU0).below z.bel)
  clear hU0
  obtain ⟨c_b_0, c_b_1, c_b_2, c_b_3, c_b_4, c_b_5⟩ := six r_b
  obtain ⟨c_c_0, c_c_1, c_c_2, c_c_3, c_c_4, c_c_5⟩ := six r_c
  have f_b := rfree r_b
  have f_c := rfree r_c
  have ce := keepc KK CE
  have ct6 := keepc KK C6
  go_wp2_with fail
  refine (R1.out _ (TZ.out y0) (SZ.out y0)).mono ?_
  rintro e w1 ⟨rfl, g⟩
  obtain ⟨y1, rfl⟩ := Wb.next (x := y0) g
  clear g
  go_wp2_with fail
  refine (R4.out _ (TZ.out y1) (SZ.out y1)).mono ?_
  rintro e w1 ⟨rfl, g⟩
  obtain ⟨y2, rfl⟩ := Wb.next (x := y1) g
  clear g
  go_upto_region 9 with fail
  refine to_cls ?_
  intro U3 hU3 y3
  clear c_b_0 c_b_1 c_b_2 c_b_3 c_b_4 c_b_5 c_c_0 c_c_1 c_c_2 c_c_3 c_c_4 c_c_5 f_b f_c ce ct6
  have r_b : ∀ z : Wb U3, Row z.at (w.heap.size) [.int .i64 0, .int .i64 0, .int .i64 0, .int .i64 0, .int .i64 0, .int .i64 0] 23 := Row.next (((r_b y2).oth (by omega) _ _).oth (by omega) _ _) hU3
  have r_c : ∀ z : Wb U3, Row z.at (w.heap.size + 1) [.int .i64 3, .int .i64 r1, .int .i64 r4, .int .i64 0, .int .i64 0, .int .i64 0] 23 := Row.next (((r_c y2).set _ _).set _ _) hU3
  have KK := Lib.hid (KB.next (KB.put (KB.put (KK.out y2) (by omega) _ _) (by omega) _ _) hU3)
  clear hU3
  obtain ⟨c_b_0, c_b_1, c_b_2, c_b_3, c_b_4, c_b_5⟩ := six r_b
  obtain ⟨c_c_0, c_c_1, c_c_2, c_c_3, c_c_4, c_c_5⟩ := six r_c
  have TZ := Lib.hid fun z => TH.out.below (KK.out z)
  have SZ := Lib.hid fun z => SH.out.below (KK.out z)
  have f_b := rfree r_b
  have f_c := rfree r_c
  have ce := keepc KK CE
  have ct6 := keepc KK C6
  go_wp2_with fail
  refine (N6.out _).mono ?_
  rintro e w1 ⟨rfl, g⟩
  obtain ⟨y4, rfl⟩ := Wb.next (x := y3) g
  clear g
  go_upto_region 45 with fail
  refine to_cls ?_
  intro U5 hU5 y5
  clear c_b_0 c_b_1 c_b_2 c_b_3 c_b_4 c_b_5 c_c_0 c_c_1 c_c_2 c_c_3 c_c_4 c_c_5 f_b f_c ce ct6
  have r_b : ∀ z : Wb U5, Row z.at (w.heap.size) [.int .i64 0, .int .i64 0, .int .i64 0, .int .i64 0, .int .i64 0, .int .i64 0] 23 := Row.next ((r_b y4).oth (by omega) _ _) hU5
  have r_c : ∀ z : Wb U5, Row z.at (w.heap.size + 1) [.int .i64 3, .int .i64 r1, .int .i64 r4, .int .i64 0, .int .i64 m6, .int .i64 0] 23 := Row.next ((r_c y4).set _ _) hU5
  have KK := Lib.hid (KB.next (KB.put (KK.out y4) (by omega) _ _) hU5)
  clear hU5
  obtain ⟨c_b_0, c_b_1, c_b_2, c_b_3, c_b_4, c_b_5⟩ := six r_b
  obtain ⟨c_c_0, c_c_1, c_c_2, c_c_3, c_c_4, c_c_5⟩ := six r_c
  have TZ := Lib.hid fun z => TH.out.below (KK.out z)
  have SZ := Lib.hid fun z => SH.out.below (KK.out z)
  have f_b := rfree r_b
  have f_c := rfree r_c
  have ce := keepc KK CE
  have ct6 := keepc KK C6
  go_wp2
  refine bodyPost_ret (v := iv ⟨3, r1, r4, 0, m6, 0⟩) (by simp [results, Tryd.results34, go_sem, iv, *]) rfl ⟨by rw [SP.out], ?_⟩
  repeat' (first | (with_reducible exact KK.out y5) | (with_reducible refine Below.setCell ?_ ?_ _) | (simp; done) | (simp; omega) | omega)

set_option maxRecDepth 100000 in
set_option maxHeartbeats 3200000 in
theorem aguess_3_n (L : List Tx) (a : Addr) (k cap : Nat) (w : World) (ht : Tab w) (h : SlT w (.slice (some a) (k + 1) cap) L) (hs : Short L) (hn : L.length = k + 1) (hk : k ≤ 7) (h8 : k ≠ 7) : Calls Tryd.prog 34 #[.int .i64 3, .slice (some a) (k + 1) cap] w fun e w' => e = .returned (iv (guess 3 L)) ∧ Below w.heap.size w w' := by
  have TH := Lib.hid ht
  have SH := Lib.hid h
  obtain ⟨te, hte⟩ : ∃ t, t = L.getD k [] := ⟨_, rfl⟩
  have CE := Lib.hid (show w.cell? (a.add k) = _ from slT_at h k (by omega))
  rw [← hte] at CE
  obtain ⟨r1, hr1⟩ : ∃ r, r = register L 1 := ⟨_, rfl⟩
  have R1 := Lib.hid (fun w2 (t2 : Tab w2) (s2 : SlT w2 (.slice (some a) (k + 1) cap) L) => aregister_any L _ 1 w2 t2.tb s2 (by omega))
  rw [← hr1] at R1
  obtain ⟨r4, hr4⟩ : ∃ r, r = register L 4 := ⟨_, rfl⟩
  have R4 := Lib.hid (fun w2 (t2 : Tab w2) (s2 : SlT w2 (.slice (some a) (k + 1) cap) L) => aregister_any L _ 4 w2 t2.tb s2 (by omega))
  rw [← hr4] at R4
  have SP := Lib.hid (show guess 3 L = ⟨3, r1, r4, 0, 0, 0⟩ by
    simp [guess, hn, hr1, hr4, h8])
  have n0 : (0 : Int) ≤ (k : Int) := by omega
  have n1 : (k : Int) ≤ 7 := by omega
  have n2 : ((k + 1 : Nat) : Int) = (k : Int) + 1 := by omega
  have n3 : (k : Int) < (k : Int) + 1 := by omega
  have n4 : (k : Int) + 1 - 1 = (k : Int) := by omega
  have g1 : ¬ (k : Int) + 1 = 8 := by omega
  have g2 : ((k : Int) + 1 == 8) = false := by simp; omega
  clear h8
  clear ht h hs hn hte hk hr1 hr4
  go_enter Tryd.func34, Tryd.ntmps34
  go_upto_region 2 with fail
  refine to_cls ?_
  intro U0 hU0 y0
  have r_b : ∀ z : Wb U0, Row z.at (w.heap.size) [.int .i64 0, .int .i64 0, .int .i64 0, .int .i64 0, .int .i64 0, .int .i64 0] 23 := Row.next (Row.old (Row.new' _ [.int .i64 0, .int .i64 0, .int .i64 0, .int .i64 0, .int .i64 0, .int .i64 0] _ _ (by simp)) _) hU0
  have r_c : ∀ z : Wb U0, Row z.at (w.heap.size + 1) [.int .i64 3, .int .i64 0, .int .i64 0, .int .i64 0, .int .i64 0, .int .i64 0] 23 := Row.next (Row.new' _ [.int .i64 3, .int .i64 0, .int .i64 0, .int .i64 0, .int .i64 0, .int .i64 0] _ _ (by simp)) hU0
  have KK := Lib.hid (KB.next (KB.alloc (KB.alloc (Below.refl _ _) _) _) hU0)
  have TZ := Lib.hid (fun z : Wb U0 => ((TH.out.below (KB.alloc (KB.alloc (Below.refl w.heap.size w) _) _)).below hU0).below z.bel)
  have SZ := Lib.hid (fun z : Wb U0 => ((SH.out.below (KB.alloc (KB.alloc (Below.refl w.heap.size w) _) _)).below hU0).below z.bel)
  clear hU0
  obtain ⟨c_b_0, c_b_1, c_b_2, c_b_3, c_b_4, c_b_5⟩ := six r_b
  obtain ⟨c_c_0, c_c_1, c_c_2, c_c_3, c_c_4, c_c_5⟩ := six r_c
  have f_b := rfree r_b
  have f_c := rfree r_c
  have ce := keepc KK CE
  go_wp2_with fail
  refine (R1.out _ (TZ.out y0) (SZ.out y0)).mono ?_
  rintro e w1 ⟨rfl, g⟩
  obtain ⟨y1, rfl⟩ := Wb.next (x := y0) g
  clear g
  go_wp2_with fail
  refine (R4.out _ (TZ.out y1) (SZ.out y1)).mono ?_
  rintro e w1 ⟨rfl, g⟩
  obtain ⟨y2, rfl⟩ := Wb.next (x := y1) g
  clear g
  go_upto_region 9 with fail
  refine to_cls ?_
  intro U3 hU3 y3
  clear c_b_0 c_b_1 c_b_2 c_b_3 c_b_4 c_b_5 c_c_0 c_c_1 c_c_2 c_c_3 c_c_4 c_c_5 f_b f_c ce
  have r_b : ∀ z : Wb U3, Row z.at (w.heap.size) [.int .i64 0, .int .i64 0, .int .i64 0, .int .i64 0, .int .i64 0, .int .i64 0] 23 := Row.next (((r_b y2).oth (by omega) _ _).oth (by omega) _ _) hU3
  have r_c : ∀ z : Wb U3, Row z.at (w.heap.size + 1) [.int .i64 3, .int .i64 r1, .int .i64 r4, .int .i64 0, .int .i64 0, .int .i64 0] 23 := Row.next (((r_c y2).set _ _).set _ _) hU3
  have KK := Lib.hid (KB.next (KB.put (KB.put (KK.out y2) (by omega) _ _) (by omega) _ _) hU3)
  clear hU3
  obtain ⟨c_b_0, c_b_1, c_b_2, c_b_3, c_b_4, c_b_5⟩ := six r_b
  obtain ⟨c_c_0, c_c_1, c_c_2, c_c_3, c_c_4, c_c_5⟩ := six r_c
  have TZ := Lib.hid fun z => TH.out.below (KK.out z)
  have SZ := Lib.hid fun z => SH.out.below (KK.out z)
  have f_b := rfree r_b
  have f_c := rfree r_c
  have ce := keepc KK CE
  go_wp2
  refine bodyPost_ret (v := iv ⟨3, r1, r4, 0, 0, 0⟩) (by simp [results, Tryd.results34, go_sem, iv, *]) rfl ⟨by rw [SP.out], ?_⟩
  repeat' (first | (with_reducible exact KK.out y3) | (with_reducible refine Below.setCell ?_ ?_ _) | (simp; done) | (simp; omega) | omega)

set_option maxRecDepth 100000 in
set_option maxHeartbeats 3200000 in
theorem aguess_4_8 (L : List Tx) (a : Addr) (cap : Nat) (w : World) (ht : Tab w) (h : SlT w (.slice (some a) (8) cap) L) (hs : Short L) (hn : L.length = 8) : Calls Tryd.prog 34 #[.int .i64 4, .slice (some a) (8) cap] w fun e w' => e = .returned (iv (guess 4 L)) ∧ Below w.heap.size w w' := by
  have TH := Lib.hid ht
  have SH := Lib.hid h
  obtain ⟨te, hte⟩ : ∃ t, t = L.getD 7 [] := ⟨_, rfl⟩
  have CE := Lib.hid (show w.cell? (⟨a.block, a.off + 7, none⟩) = _ from slT_at h 7 (by omega))
  rw [← hte] at CE
  obtain ⟨t6, ht6⟩ : ∃ t, t = L.getD 6 [] := ⟨_, rfl⟩
  have C6 := Lib.hid (show w.cell? (⟨a.block, a.off + 6, none⟩) = _ from slT_at h 6 (by omega))
  rw [← ht6] at C6
  obtain ⟨r1, hr1⟩ : ∃ r, r = register L 1 := ⟨_, rfl⟩
  have R1 := Lib.hid (fun w2 (t2 : Tab w2) (s2 : SlT w2 (.slice (some a) (8) cap) L) => aregister_any L _ 1 w2 t2.tb s2 (by omega))
  rw [← hr1] at R1
  obtain ⟨r4, hr4⟩ : ∃ r, r = register L 4 := ⟨_, rfl⟩
  have R4 := Lib.hid (fun w2 (t2 : Tab w2) (s2 : SlT w2 (.slice (some a) (8) cap) L) => aregister_any L _ 4 w2 t2.tb s2 (by omega))
  rw [← hr4] at R4
  obtain ⟨m6, hm6⟩ : ∃ m, m = numberIn t6 := ⟨_, rfl⟩
  have N6 := Lib.hid (fun w2 => numberIn_any t6 w2 (by rw [ht6]; exact short_at hs 6 (by omega)))
  rw [← hm6] at N6
  have SP := Lib.hid (show guess 4 L = ⟨4, r1, r4, 0, m6, 0⟩ by
    simp [guess, hn, hr1, hr4, hm6, ht6])
  clear ht h hs hn hte ht6 hr1 hr4 hm6
  go_enter Tryd.func34, Tryd.ntmps34
  go_upto_region 2 with fail
  refine to_cls ?_
  intro U0 hU0 y0
  have r_b : ∀ z : Wb U0, Row z.at (w.heap.size) [.int .i64 0, .int .i64 0, .int .i64 0, .int .i64 0, .int .i64 0, .int .i64 0] 23 := Row.next (Row.old (Row.new' _ [.int .i64 0, .int .i64 0, .int .i64 0, .int .i64 0, .int .i64 0, .int .i64 0] _ _ (by simp)) _) hU0
  have r_c : ∀ z : Wb U0, Row z.at (w.heap.size + 1) [.int .i64 4, .int .i64 0, .int .i64 0, .int .i64 0, .int .i64 0, .int .i64 0] 23 := Row.next (Row.new' _ [.int .i64 4, .int .i64 0, .int .i64 0, .int .i64 0, .int .i64 0, .int .i64 0] _ _ (by simp)) hU0
  have KK := Lib.hid (KB.next (KB.alloc (KB.alloc (Below.refl _ _) _) _) hU0)
  have TZ := Lib.hid (fun z : Wb U0 => ((TH.out.below (KB.alloc (KB.alloc (Below.refl w.heap.size w) _) _)).below hU0).below z.bel)
  have SZ := Lib.hid (fun z : Wb U0 => ((SH.out.below (KB.alloc (KB.alloc (Below.refl w.heap.size w) _) _)).below hU0).below z.bel)
  clear hU0
  obtain ⟨c_b_0, c_b_1, c_b_2, c_b_3, c_b_4, c_b_5⟩ := six r_b
  obtain ⟨c_c_0, c_c_1, c_c_2, c_c_3, c_c_4, c_c_5⟩ := six r_c
  have f_b := rfree r_b
  have f_c := rfree r_c
  have ce := keepc KK CE
  have ct6 := keepc KK C6
  go_wp2_with fail
  refine (R1.out _ (TZ.out y0) (SZ.out y0)).mono ?_
  rintro e w1 ⟨rfl, g⟩
  obtain ⟨y1, rfl⟩ := Wb.next (x := y0) g
  clear g
  go_wp2_with fail
  refine (R4.out _ (TZ.out y1) (SZ.out y1)).mono ?_
  rintro e w1 ⟨rfl, g⟩
  obtain ⟨y2, rfl⟩ := Wb.next (x := y1) g
  clear g
  go_upto_region 9 with fail
  refine to_cls ?_
  intro U3 hU3 y3
  clear c_b_0 c_b_1 c_b_2 c_b_3 c_b_4 c_b_5 c_c_0 c_c_1 c_c_2 c_c_3 c_c_4 c_c_5 f_b f_c ce ct6
  have r_b : ∀ z : Wb U3, Row z.at (w.heap.size) [.int .i64 0, .int .i64 0, .int .i64 0, .int .i64 0, .int .i64 0, .int .i64 0] 23 := Row.next (((r_b y2).oth (by omega) _ _).oth (by omega) _ _) hU3
  have r_c : ∀ z : Wb U3, Row z.at (w.heap.size + 1) [.int .i64 4, .int .i64 r1, .int .i64 r4, .int .i64 0, .int .i64 0, .int .i64 0] 23 := Row.next (((r_c y2).set _ _).set _ _) hU3
  have KK := Lib.hid (KB.next (KB.put (KB.put (KK.out y2) (by omega) _ _) (by omega) _ _) hU3)
  clear hU3
  obtain ⟨c_b_0, c_b_1, c_b_2, c_b_3, c_b_4, c_b_5⟩ := six r_b
  obtain ⟨c_c_0, c_c_1, c_c_2, c_c_3, c_c_4, c_c_5⟩ := six r_c
  have TZ := Lib.hid fun z => TH.out.below (KK.out z)
  have SZ := Lib.hid fun z => SH.out.below (KK.out z)
  have f_b := rfree r_b
  have f_c := rfree r_c
  have ce := keepc KK CE
  have ct6 := keepc KK C6
  go_wp2_with fail
  refine (N6.out _).mono ?_
  rintro e w1 ⟨rfl, g⟩
  obtain ⟨y4, rfl⟩ := Wb.next (x := y3) g
  clear g
  go_upto_region 45 with fail
  refine to_cls ?_
  intro U5 hU5 y5
  clear c_b_0 c_b_1 c_b_2 c_b_3 c_b_4 c_b_5 c_c_0 c_c_1 c_c_2 c_c_3 c_c_4 c_c_5 f_b f_c ce ct6
  have r_b : ∀ z : Wb U5, Row z.at (w.heap.size) [.int .i64 0, .int .i64 0, .int .i64 0, .int .i64 0, .int .i64 0, .int .i64 0] 23 := Row.next ((r_b y4).oth (by omega) _ _) hU5
  have r_c : ∀ z : Wb U5, Row z.at (w.heap.size + 1) [.int .i64 4, .int .i64 r1, .int .i64 r4, .int .i64 0, .int .i64 m6, .int .i64 0] 23 := Row.next ((r_c y4).set _ _) hU5
  have KK := Lib.hid (KB.next (KB.put (KK.out y4) (by omega) _ _) hU5)
  clear hU5
  obtain ⟨c_b_0, c_b_1, c_b_2, c_b_3, c_b_4, c_b_5⟩ := six r_b
  obtain ⟨c_c_0, c_c_1, c_c_2, c_c_3, c_c_4, c_c_5⟩ := six r_c
  have TZ := Lib.hid fun z => TH.out.below (KK.out z)
  have SZ := Lib.hid fun z => SH.out.below (KK.out z)
  have f_b := rfree r_b
  have f_c := rfree r_c
  have ce := keepc KK CE
  have ct6 := keepc KK C6
  go_wp2
  refine bodyPost_ret (v := iv ⟨4, r1, r4, 0, m6, 0⟩) (by simp [results, Tryd.results34, go_sem, iv, *]) rfl ⟨by rw [SP.out], ?_⟩
  repeat' (first | (with_reducible exact KK.out y5) | (with_reducible refine Below.setCell ?_ ?_ _) | (simp; done) | (simp; omega) | omega)

set_option maxRecDepth 100000 in
set_option maxHeartbeats 3200000 in
theorem aguess_4_n (L : List Tx) (a : Addr) (k cap : Nat) (w : World) (ht : Tab w) (h : SlT w (.slice (some a) (k + 1) cap) L) (hs : Short L) (hn : L.length = k + 1) (hk : k ≤ 7) (h8 : k ≠ 7) : Calls Tryd.prog 34 #[.int .i64 4, .slice (some a) (k + 1) cap] w fun e w' => e = .returned (iv (guess 4 L)) ∧ Below w.heap.size w w' := by
  have TH := Lib.hid ht
  have SH := Lib.hid h
  obtain ⟨te, hte⟩ : ∃ t, t = L.getD k [] := ⟨_, rfl⟩
  have CE := Lib.hid (show w.cell? (a.add k) = _ from slT_at h k (by omega))
  rw [← hte] at CE
  obtain ⟨r1, hr1⟩ : ∃ r, r = register L 1 := ⟨_, rfl⟩
  have R1 := Lib.hid (fun w2 (t2 : Tab w2) (s2 : SlT w2 (.slice (some a) (k + 1) cap) L) => aregister_any L _ 1 w2 t2.tb s2 (by omega))
  rw [← hr1] at R1
  obtain ⟨r4, hr4⟩ : ∃ r, r = register L 4 := ⟨_, rfl⟩
  have R4 := Lib.hid (fun w2 (t2 : Tab w2) (s2 : SlT w2 (.slice (some a) (k + 1) cap) L) => aregister_any L _ 4 w2 t2.tb s2 (by omega))
  rw [← hr4] at R4
  have SP := Lib.hid (show guess 4 L = ⟨4, r1, r4, 0, 0, 0⟩ by
    simp [guess, hn, hr1, hr4, h8])
  have n0 : (0 : Int) ≤ (k : Int) := by omega
  have n1 : (k : Int) ≤ 7 := by omega
  have n2 : ((k + 1 : Nat) : Int) = (k : Int) + 1 := by omega
  have n3 : (k : Int) < (k : Int) + 1 := by omega
  have n4 : (k : Int) + 1 - 1 = (k : Int) := by omega
  have g1 : ¬ (k : Int) + 1 = 8 := by omega
  have g2 : ((k : Int) + 1 == 8) = false := by simp; omega
  clear h8
  clear ht h hs hn hte hk hr1 hr4
  go_enter Tryd.func34, Tryd.ntmps34
  go_upto_region 2 with fail
  refine to_cls ?_
  intro U0 hU0 y0
  have r_b : ∀ z : Wb U0, Row z.at (w.heap.size) [.int .i64 0, .int .i64 0, .int .i64 0, .int .i64 0, .int .i64 0, .int .i64 0] 23 := Row.next (Row.old (Row.new' _ [.int .i64 0, .int .i64 0, .int .i64 0, .int .i64 0, .int .i64 0, .int .i64 0] _ _ (by simp)) _) hU0
  have r_c : ∀ z : Wb U0, Row z.at (w.heap.size + 1) [.int .i64 4, .int .i64 0, .int .i64 0, .int .i64 0, .int .i64 0, .int .i64 0] 23 := Row.next (Row.new' _ [.int .i64 4, .int .i64 0, .int .i64 0, .int .i64 0, .int .i64 0, .int .i64 0] _ _ (by simp)) hU0
  have KK := Lib.hid (KB.next (KB.alloc (KB.alloc (Below.refl _ _) _) _) hU0)
  have TZ := Lib.hid (fun z : Wb U0 => ((TH.out.below (KB.alloc (KB.alloc (Below.refl w.heap.size w) _) _)).below hU0).below z.bel)
  have SZ := Lib.hid (fun z : Wb U0 => ((SH.out.below (KB.alloc (KB.alloc (Below.refl w.heap.size w) _) _)).below hU0).below z.bel)
  clear hU0
  obtain ⟨c_b_0, c_b_1, c_b_2, c_b_3, c_b_4, c_b_5⟩ := six r_b
  obtain ⟨c_c_0, c_c_1, c_c_2, c_c_3, c_c_4, c_c_5⟩ := six r_c
  have f_b := rfree r_b
  have f_c := rfree r_c
  have ce := keepc KK CE
  go_wp2_with fail
  refine (R1.out _ (TZ.out y0) (SZ.out y0)).mono ?_
  rintro e w1 ⟨rfl, g⟩
  obtain ⟨y1, rfl⟩ := Wb.next (x := y0) g
  clear g
  go_wp2_with fail
  refine (R4.out _ (TZ.out y1) (SZ.out y1)).mono ?_
  rintro e w1 ⟨rfl, g⟩
  obtain ⟨y2, rfl⟩ := Wb.next (x := y1) g
  clear g
  go_upto_region 9 with fail
  refine to_cls ?_
  intro U3 hU3 y3
  clear c_b_0 c_b_1 c_b_2 c_b_3 c_b_4 c_b_5 c_c_0 c_c_1 c_c_2 c_c_3 c_c_4 c_c_5 f_b f_c ce
  have r_b : ∀ z : Wb U3, Row z.at (w.heap.size) [.int .i64 0, .int .i64 0, .int .i64 0, .int .i64 0, .int .i64 0, .int .i64 0] 23 := Row.next (((r_b y2).oth (by omega) _ _).oth (by omega) _ _) hU3
  have r_c : ∀ z : Wb U3, Row z.at (w.heap.size + 1) [.int .i64 4, .int .i64 r1, .int .i64 r4, .int .i64 0, .int .i64 0, .int .i64 0] 23 := Row.next (((r_c y2).set _ _).set _ _) hU3
  have KK := Lib.hid (KB.next (KB.put (KB.put (KK.out y2) (by omega) _ _) (by omega) _ _) hU3)
  clear hU3
  obtain ⟨c_b_0, c_b_1, c_b_2, c_b_3, c_b_4, c_b_5⟩ := six r_b
  obtain ⟨c_c_0, c_c_1, c_c_2, c_c_3, c_c_4, c_c_5⟩ := six r_c
  have TZ := Lib.hid fun z => TH.out.below (KK.out z)
  have SZ := Lib.hid fun z => SH.out.below (KK.out z)
  have f_b := rfree r_b
  have f_c := rfree r_c
  have ce := keepc KK CE
  go_wp2
  refine bodyPost_ret (v := iv ⟨4, r1, r4, 0, 0, 0⟩) (by simp [results, Tryd.results34, go_sem, iv, *]) rfl ⟨by rw [SP.out], ?_⟩
  repeat' (first | (with_reducible exact KK.out y3) | (with_reducible refine Below.setCell ?_ ?_ _) | (simp; done) | (simp; omega) | omega)

set_option maxRecDepth 100000 in
set_option maxHeartbeats 3200000 in
theorem aguess_5_8 (L : List Tx) (a : Addr) (cap : Nat) (w : World) (ht : Tab w) (h : SlT w (.slice (some a) (8) cap) L) (hs : Short L) (hn : L.length = 8) : Calls Tryd.prog 34 #[.int .i64 5, .slice (some a) (8) cap] w fun e w' => e = .returned (iv (guess 5 L)) ∧ Below w.heap.size w w' := by
  have TH := Lib.hid ht
  have SH := Lib.hid h
  obtain ⟨te, hte⟩ : ∃ t, t = L.getD 7 [] := ⟨_, rfl⟩
  have CE := Lib.hid (show w.cell? (⟨a.block, a.off + 7, none⟩) = _ from slT_at h 7 (by omega))
  rw [← hte] at CE
  obtain ⟨t6, ht6⟩ : ∃ t, t = L.getD 6 [] := ⟨_, rfl⟩
  have C6 := Lib.hid (show w.cell? (⟨a.block, a.off + 6, none⟩) = _ from slT_at h 6 (by omega))
  rw [← ht6] at C6
  obtain ⟨r1, hr1⟩ : ∃ r, r = register L 1 := ⟨_, rfl⟩
  have R1 := Lib.hid (fun w2 (t2 : Tab w2) (s2 : SlT w2 (.slice (some a) (8) cap) L) => aregister_any L _ 1 w2 t2.tb s2 (by omega))
  rw [← hr1] at R1
  obtain ⟨r4, hr4⟩ : ∃ r, r = register L 4 := ⟨_, rfl⟩
  have R4 := Lib.hid (fun w2 (t2 : Tab w2) (s2 : SlT w2 (.slice (some a) (8) cap) L) => aregister_any L _ 4 w2 t2.tb s2 (by omega))
  rw [← hr4] at R4
  obtain ⟨m6, hm6⟩ : ∃ m, m = numberIn t6 := ⟨_, rfl⟩
  have N6 := Lib.hid (fun w2 => numberIn_any t6 w2 (by rw [ht6]; exact short_at hs 6 (by omega)))
  rw [← hm6] at N6
  have SP := Lib.hid (show guess 5 L = ⟨5, r1, r4, 0, m6, 0⟩ by
    simp [guess, hn, hr1, hr4, hm6, ht6])
  clear ht h hs hn hte ht6 hr1 hr4 hm6
  go_enter Tryd.func34, Tryd.ntmps34
  go_upto_region 2 with fail
  refine to_cls ?_
  intro U0 hU0 y0
  have r_b : ∀ z : Wb U0, Row z.at (w.heap.size) [.int .i64 0, .int .i64 0, .int .i64 0, .int .i64 0, .int .i64 0, .int .i64 0] 23 := Row.next (Row.old (Row.new' _ [.int .i64 0, .int .i64 0, .int .i64 0, .int .i64 0, .int .i64 0, .int .i64 0] _ _ (by simp)) _) hU0
  have r_c : ∀ z : Wb U0, Row z.at (w.heap.size + 1) [.int .i64 5, .int .i64 0, .int .i64 0, .int .i64 0, .int .i64 0, .int .i64 0] 23 := Row.next (Row.new' _ [.int .i64 5, .int .i64 0, .int .i64 0, .int .i64 0, .int .i64 0, .int .i64 0] _ _ (by simp)) hU0
  have KK := Lib.hid (KB.next (KB.alloc (KB.alloc (Below.refl _ _) _) _) hU0)
  have TZ := Lib.hid (fun z : Wb U0 => ((TH.out.below (KB.alloc (KB.alloc (Below.refl w.heap.size w) _) _)).below hU0).below z.bel)
  have SZ := Lib.hid (fun z : Wb U0 => ((SH.out.below (KB.alloc (KB.alloc (Below.refl w.heap.size w) _) _)).below hU0).below z.bel)
  clear hU0
  obtain ⟨c_b_0, c_b_1, c_b_2, c_b_3, c_b_4, c_b_5⟩ := six r_b
  obtain ⟨c_c_0, c_c_1, c_c_2, c_c_3, c_c_4, c_c_5⟩ := six r_c
  have f_b := rfree r_b
  have f_c := rfree r_c
  have ce := keepc KK CE
  have ct6 := keepc KK C6
  go_wp2_with fail
  refine (R1.out _ (TZ.out y0) (SZ.out y0)).mono ?_
  rintro e w1 ⟨rfl, g⟩
  obtain ⟨y1, rfl⟩ := Wb.next (x := y0) g
  clear g
  go_wp2_with fail
  refine (R4.out _ (TZ.out y1) (SZ.out y1)).mono ?_
  rintro e w1 ⟨rfl, g⟩
  obtain ⟨y2, rfl⟩ := Wb.next (x := y1) g
  clear g
  go_upto_region 9 with fail
  refine to_cls ?_
  intro U3 hU3 y3
  clear c_b_0 c_b_1 c_b_2 c_b_3 c_b_4 c_b_5 c_c_0 c_c_1 c_c_2 c_c_3 c_c_4 c_c_5 f_b f_c ce ct6
  have r_b : ∀ z : Wb U3, Row z.at (w.heap.size) [.int .i64 0, .int .i64 0, .int .i64 0, .int .i64 0, .int .i64 0, .int .i64 0] 23 := Row.next (((r_b y2).oth (by omega) _ _).oth (by omega) _ _) hU3
  have r_c : ∀ z : Wb U3, Row z.at (w.heap.size + 1) [.int .i64 5, .int .i64 r1, .int .i64 r4, .int .i64 0, .int .i64 0, .int .i64 0] 23 := Row.next (((r_c y2).set _ _).set _ _) hU3
  have KK := Lib.hid (KB.next (KB.put (KB.put (KK.out y2) (by omega) _ _) (by omega) _ _) hU3)
  clear hU3
  obtain ⟨c_b_0, c_b_1, c_b_2, c_b_3, c_b_4, c_b_5⟩ := six r_b
  obtain ⟨c_c_0, c_c_1, c_c_2, c_c_3, c_c_4, c_c_5⟩ := six r_c
  have TZ := Lib.hid fun z => TH.out.below (KK.out z)
  have SZ := Lib.hid fun z => SH.out.below (KK.out z)
  have f_b := rfree r_b
  have f_c := rfree r_c
  have ce := keepc KK CE
  have ct6 := keepc KK C6
  go_wp2_with fail
  refine (N6.out _).mono ?_
  rintro e w1 ⟨rfl, g⟩
  obtain ⟨y4, rfl⟩ := Wb.next (x := y3) g
  clear g
  go_upto_region 45 with fail
  refine to_cls ?_
  intro U5 hU5 y5
  clear c_b_0 c_b_1 c_b_2 c_b_3 c_b_4 c_b_5 c_c_0 c_c_1 c_c_2 c_c_3 c_c_4 c_c_5 f_b f_c ce ct6
  have r_b : ∀ z : Wb U5, Row z.at (w.heap.size) [.int .i64 0, .int .i64 0, .int .i64 0, .int .i64 0, .int .i64 0, .int .i64 0] 23 := Row.next ((r_b y4).oth (by omega) _ _) hU5
  have r_c : ∀ z : Wb U5, Row z.at (w.heap.size + 1) [.int .i64 5, .int .i64 r1, .int .i64 r4, .int .i64 0, .int .i64 m6, .int .i64 0] 23 := Row.next ((r_c y4).set _ _) hU5
  have KK := Lib.hid (KB.next (KB.put (KK.out y4) (by omega) _ _) hU5)
  clear hU5
  obtain ⟨c_b_0, c_b_1, c_b_2, c_b_3, c_b_4, c_b_5⟩ := six r_b
  obtain ⟨c_c_0, c_c_1, c_c_2, c_c_3, c_c_4, c_c_5⟩ := six r_c
  have TZ := Lib.hid fun z => TH.out.below (KK.out z)
  have SZ := Lib.hid fun z => SH.out.below (KK.out z)
  have f_b := rfree r_b
  have f_c := rfree r_c
  have ce := keepc KK CE
  have ct6 := keepc KK C6
  go_wp2
  refine bodyPost_ret (v := iv ⟨5, r1, r4, 0, m6, 0⟩) (by simp [results, Tryd.results34, go_sem, iv, *]) rfl ⟨by rw [SP.out], ?_⟩
  repeat' (first | (with_reducible exact KK.out y5) | (with_reducible refine Below.setCell ?_ ?_ _) | (simp; done) | (simp; omega) | omega)

set_option maxRecDepth 100000 in
set_option maxHeartbeats 3200000 in
theorem aguess_5_n (L : List Tx) (a : Addr) (k cap : Nat) (w : World) (ht : Tab w) (h : SlT w (.slice (some a) (k + 1) cap) L) (hs : Short L) (hn : L.length = k + 1) (hk : k ≤ 7) (h8 : k ≠ 7) : Calls Tryd.prog 34 #[.int .i64 5, .slice (some a) (k + 1) cap] w fun e w' => e = .returned (iv (guess 5 L)) ∧ Below w.heap.size w w' := by
  have TH := Lib.hid ht
  have SH := Lib.hid h
  obtain ⟨te, hte⟩ : ∃ t, t = L.getD k [] := ⟨_, rfl⟩
  have CE := Lib.hid (show w.cell? (a.add k) = _ from slT_at h k (by omega))
  rw [← hte] at CE
  obtain ⟨r1, hr1⟩ : ∃ r, r = register L 1 := ⟨_, rfl⟩
  have R1 := Lib.hid (fun w2 (t2 : Tab w2) (s2 : SlT w2 (.slice (some a) (k + 1) cap) L) => aregister_any L _ 1 w2 t2.tb s2 (by omega))
  rw [← hr1] at R1
  obtain ⟨r4, hr4⟩ : ∃ r, r = register L 4 := ⟨_, rfl⟩
  have R4 := Lib.hid (fun w2 (t2 : Tab w2) (s2 : SlT w2 (.slice (some a) (k + 1) cap) L) => aregister_any L _ 4 w2 t2.tb s2 (by omega))
  rw [← hr4] at R4
  have SP := Lib.hid (show guess 5 L = ⟨5, r1, r4, 0, 0, 0⟩ by
    simp [guess, hn, hr1, hr4, h8])
  have n0 : (0 : Int) ≤ (k : Int) := by omega
  have n1 : (k : Int) ≤ 7 := by omega
  have n2 : ((k + 1 : Nat) : Int) = (k : Int) + 1 := by omega
  have n3 : (k : Int) < (k : Int) + 1 := by omega
  have n4 : (k : Int) + 1 - 1 = (k : Int) := by omega
  have g1 : ¬ (k : Int) + 1 = 8 := by omega
  have g2 : ((k : Int) + 1 == 8) = false := by simp; omega
  clear h8
  clear ht h hs hn hte hk hr1 hr4
  go_enter Tryd.func34, Tryd.ntmps34
  go_upto_region 2 with fail
  refine to_cls ?_
  intro U0 hU0 y0
  have r_b : ∀ z : Wb U0, Row z.at (w.heap.size) [.int .i64 0, .int .i64 0, .int .i64 0, .int .i64 0, .int .i64 0, .int .i64 0] 23 := Row.next (Row.old (Row.new' _ [.int .i64 0, .int .i64 0, .int .i64 0, .int .i64 0, .int .i64 0, .int .i64 0] _ _ (by simp)) _) hU0
  have r_c : ∀ z : Wb U0, Row z.at (w.heap.size + 1) [.int .i64 5, .int .i64 0, .int .i64 0, .int .i64 0, .int .i64 0, .int .i64 0] 23 := Row.next (Row.new' _ [.int .i64 5, .int .i64 0, .int .i64 0, .int .i64 0, .int .i64 0, .int .i64 0] _ _ (by simp)) hU0
  have KK := Lib.hid (KB.next (KB.alloc (KB.alloc (Below.refl _ _) _) _) hU0)
  have TZ := Lib.hid (fun z : Wb U0 => ((TH.out.below (KB.alloc (KB.alloc (Below.refl w.heap.size w) _) _)).below hU0).below z.bel)
  have SZ := Lib.hid (fun z : Wb U0 => ((SH.out.below (KB.alloc (KB.alloc (Below.refl w.heap.size w) _) _)).below hU0).below z.bel)
  clear hU0
  obtain ⟨c_b_0, c_b_1, c_b_2, c_b_3, c_b_4, c_b_5⟩ := six r_b
  obtain ⟨c_c_0, c_c_1, c_c_2, c_c_3, c_c_4, c_c_5⟩ := six r_c
  have f_b := rfree r_b
  have f_c := rfree r_c
  have ce := keepc KK CE
  go_wp2_with fail
  refine (R1.out _ (TZ.out y0) (SZ.out y0)).mono ?_
  rintro e w1 ⟨rfl, g⟩
  obtain ⟨y1, rfl⟩ := Wb.next (x := y0) g
  clear g
  go_wp2_with fail
  refine (R4.out _ (TZ.out y1) (SZ.out y1)).mono ?_
  rintro e w1 ⟨rfl, g⟩
  obtain ⟨y2, rfl⟩ := Wb.next (x := y1) g
  clear g
  go_upto_region 9 with fail
  refine to_cls ?_
  intro U3 hU3 y3
  clear c_b_0 c_b_1 c_b_2 c_b_3 c_b_4 c_b_5 c_c_0 c_c_1 c_c_2 c_c_3 c_c_4 c_c_5 f_b f_c ce
  have r_b : ∀ z : Wb U3, Row z.at (w.heap.size) [.int .i64 0, .int .i64 0, .int .i64 0, .int .i64 0, .int .i64 0, .int .i64 0] 23 := Row.next (((r_b y2).oth (by omega) _ _).oth (by omega) _ _) hU3
  have r_c : ∀ z : Wb U3, Row z.at (w.heap.size + 1) [.int .i64 5, .int .i64 r1, .int .i64 r4, .int .i64 0, .int .i64 0, .int .i64 0] 23 := Row.next (((r_c y2).set _ _).set _ _) hU3
  have KK := Lib.hid (KB.next (KB.put (KB.put (KK.out y2) (by omega) _ _) (by omega) _ _) hU3)
  clear hU3
  obtain ⟨c_b_0, c_b_1, c_b_2, c_b_3, c_b_4, c_b_5⟩ := six r_b
  obtain ⟨c_c_0, c_c_1, c_c_2, c_c_3, c_c_4, c_c_5⟩ := six r_c
  have TZ := Lib.hid fun z => TH.out.below (KK.out z)
  have SZ := Lib.hid fun z => SH.out.below (KK.out z)
  have f_b := rfree r_b
  have f_c := rfree r_c
  have ce := keepc KK CE
  go_wp2
  refine bodyPost_ret (v := iv ⟨5, r1, r4, 0, 0, 0⟩) (by simp [results, Tryd.results34, go_sem, iv, *]) rfl ⟨by rw [SP.out], ?_⟩
  repeat' (first | (with_reducible exact KK.out y3) | (with_reducible refine Below.setCell ?_ ?_ _) | (simp; done) | (simp; omega) | omega)

set_option maxRecDepth 100000 in
set_option maxHeartbeats 3200000 in
theorem aguess_6_7 (L : List Tx) (a : Addr) (cap : Nat) (w : World) (ht : Tab w) (h : SlT w (.slice (some a) (7) cap) L) (hs : Short L) (hn : L.length = 7) : Calls Tryd.prog 34 #[.int .i64 6, .slice (some a) (7) cap] w fun e w' => e = .returned (iv (guess 6 L)) ∧ Below w.heap.size w w' := by
  have TH := Lib.hid ht
  have SH := Lib.hid h
  obtain ⟨te, hte⟩ : ∃ t, t = L.getD 6 [] := ⟨_, rfl⟩
  have CE := Lib.hid (show w.cell? (⟨a.block, a.off + 6, none⟩) = _ from slT_at h 6 (by omega))
  rw [← hte] at CE
  obtain ⟨t3, ht3⟩ : ∃ t, t = L.getD 3 [] := ⟨_, rfl⟩
  have C3 := Lib.hid (show w.cell? (⟨a.block, a.off + 3, none⟩) = _ from slT_at h 3 (by omega))
  rw [← ht3] at C3
  obtain ⟨r1, hr1⟩ : ∃ r, r = register L 1 := ⟨_, rfl⟩
  have R1 := Lib.hid (fun w2 (t2 : Tab w2) (s2 : SlT w2 (.slice (some a) (7) cap) L) => aregister_any L _ 1 w2 t2.tb s2 (by omega))
  rw [← hr1] at R1
  obtain ⟨m3, hm3⟩ : ∃ m, m = numberIn t3 := ⟨_, rfl⟩
  have N3 := Lib.hid (fun w2 => numberIn_any t3 w2 (by rw [ht3]; exact short_at hs 3 (by omega)))
  rw [← hm3] at N3
  obtain ⟨ml, hml⟩ : ∃ m, m = numberIn (lastW L) := ⟨_, rfl⟩
  have NL := Lib.hid (fun w2 (s2 : SlT w2 (.slice (some a) (7) cap) L) => last_any L _ w2 s2 hs (by omega))
  rw [← hml] at NL
  obtain ⟨q, hq⟩ : ∃ q, q = ml.tdiv 16 := ⟨_, rfl⟩
  have QQ : ml.tdiv 16 = q := hq.symm
  have QB := numberIn_bd (lastW L)
  rw [← hml] at QB
  obtain ⟨qb0, qb1⟩ := QB
  have QA : q.natAbs = ml.natAbs / 16 := by rw [hq, Int.natAbs_tdiv]; rfl
  have QW : IntKind.i64.wrap q = q := IntWalk.i64_in _ ⟨by omega, by omega⟩
  have SP := Lib.hid (show guess 6 L = ⟨6, r1, 0, 0, m3, q⟩ by
    simp [guess, hn, hr1, hm3, ht3, hml, hq])
  clear hq QA qb0 qb1
  clear ht h hs hn hte ht3 hr1 hm3 hml
  go_enter Tryd.func34, Tryd.ntmps34
  go_upto_region 2 with fail
  refine to_cls ?_
  intro U0 hU0 y0
  have r_b : ∀ z : Wb U0, Row z.at (w.heap.size) [.int .i64 0, .int .i64 0, .int .i64 0, .int .i64 0, .int .i64 0, .int .i64 0] 23 := Row.next (Row.old (Row.new' _ [.int .i64 0, .int .i64 0, .int .i64 0, .int .i64 0, .int .i64 0, .int .i64 0] _ _ (by simp)) _) hU0
  have r_c : ∀ z : Wb U0, Row z.at (w.heap.size + 1) [.int .i64 6, .int .i64 0, .int .i64 0, .int .i64 0, .int .i64 0, .int .i64 0] 23 := Row.next (Row.new' _ [.int .i64 6, .int .i64 0, .int .i64 0, .int .i64 0, .int .i64 0, .int .i64 0] _ _ (by simp)) hU0
  have KK := Lib.hid (KB.next (KB.alloc (KB.alloc (Below.refl _ _) _) _) hU0)
  have TZ := Lib.hid (fun z : Wb U0 => ((TH.out.below (KB.alloc (KB.alloc (Below.refl w.heap.size w) _) _)).below hU0).below z.bel)
  have SZ := Lib.hid (fun z : Wb U0 => ((SH.out.below (KB.alloc (KB.alloc (Below.refl w.heap.size w) _) _)).below hU0).below z.bel)
  clear hU0
  obtain ⟨c_b_0, c_b_1, c_b_2, c_b_3, c_b_4, c_b_5⟩ := six r_b
  obtain ⟨c_c_0, c_c_1, c_c_2, c_c_3, c_c_4, c_c_5⟩ := six r_c
  have f_b := rfree r_b
  have f_c := rfree r_c
  have ce := keepc KK CE
  have ct3 := keepc KK C3
  go_wp2_with fail
  refine (R1.out _ (TZ.out y0) (SZ.out y0)).mono ?_
  rintro e w1 ⟨rfl, g⟩
  obtain ⟨y1, rfl⟩ := Wb.next (x := y0) g
  clear g
  go_upto_region 13 with fail
  refine to_cls ?_
  intro U2 hU2 y2
  clear c_b_0 c_b_1 c_b_2 c_b_3 c_b_4 c_b_5 c_c_0 c_c_1 c_c_2 c_c_3 c_c_4 c_c_5 f_b f_c ce ct3
  have r_b : ∀ z : Wb U2, Row z.at (w.heap.size) [.int .i64 0, .int .i64 0, .int .i64 0, .int .i64 0, .int .i64 0, .int .i64 0] 23 := Row.next ((r_b y1).oth (by omega) _ _) hU2
  have r_c : ∀ z : Wb U2, Row z.at (w.heap.size + 1) [.int .i64 6, .int .i64 r1, .int .i64 0, .int .i64 0, .int .i64 0, .int .i64 0] 23 := Row.next ((r_c y1).set _ _) hU2
  have KK := Lib.hid (KB.next (KB.put (KK.out y1) (by omega) _ _) hU2)
  clear hU2
  obtain ⟨c_b_0, c_b_1, c_b_2, c_b_3, c_b_4, c_b_5⟩ := six r_b
  obtain ⟨c_c_0, c_c_1, c_c_2, c_c_3, c_c_4, c_c_5⟩ := six r_c
  have TZ := Lib.hid fun z => TH.out.below (KK.out z)
  have SZ := Lib.hid fun z => SH.out.below (KK.out z)
  have f_b := rfree r_b
  have f_c := rfree r_c
  have ce := keepc KK CE
  have ct3 := keepc KK C3
  go_wp2_with fail
  refine (N3.out _).mono ?_
  rintro e w1 ⟨rfl, g⟩
  obtain ⟨y3, rfl⟩ := Wb.next (x := y2) g
  clear g
  go_upto_region 15 with fail
  refine to_cls ?_
  intro U4 hU4 y4
  clear c_b_0 c_b_1 c_b_2 c_b_3 c_b_4 c_b_5 c_c_0 c_c_1 c_c_2 c_c_3 c_c_4 c_c_5 f_b f_c ce ct3
  have r_b : ∀ z : Wb U4, Row z.at (w.heap.size) [.int .i64 0, .int .i64 0, .int .i64 0, .int .i64 0, .int .i64 0, .int .i64 0] 23 := Row.next ((r_b y3).oth (by omega) _ _) hU4
  have r_c : ∀ z : Wb U4, Row z.at (w.heap.size + 1) [.int .i64 6, .int .i64 r1, .int .i64 0, .int .i64 0, .int .i64 m3, .int .i64 0] 23 := Row.next ((r_c y3).set _ _) hU4
  have KK := Lib.hid (KB.next (KB.put (KK.out y3) (by omega) _ _) hU4)
  clear hU4
  obtain ⟨c_b_0, c_b_1, c_b_2, c_b_3, c_b_4, c_b_5⟩ := six r_b
  obtain ⟨c_c_0, c_c_1, c_c_2, c_c_3, c_c_4, c_c_5⟩ := six r_c
  have TZ := Lib.hid fun z => TH.out.below (KK.out z)
  have SZ := Lib.hid fun z => SH.out.below (KK.out z)
  have f_b := rfree r_b
  have f_c := rfree r_c
  have ce := keepc KK CE
  have ct3 := keepc KK C3
  go_wp2_with fail
  refine (NL.out _ (SZ.out y4)).mono ?_
  rintro e w1 ⟨rfl, g⟩
  obtain ⟨y5, rfl⟩ := Wb.next (x := y4) g
  clear g
  go_upto_region 45 with fail
  refine to_cls ?_
  intro U6 hU6 y6
  clear c_b_0 c_b_1 c_b_2 c_b_3 c_b_4 c_b_5 c_c_0 c_c_1 c_c_2 c_c_3 c_c_4 c_c_5 f_b f_c ce ct3
  have r_b : ∀ z : Wb U6, Row z.at (w.heap.size) [.int .i64 0, .int .i64 0, .int .i64 0, .int .i64 0, .int .i64 0, .int .i64 0] 23 := Row.next ((r_b y5).oth (by omega) _ _) hU6
  have r_c : ∀ z : Wb U6, Row z.at (w.heap.size + 1) [.int .i64 6, .int .i64 r1, .int .i64 0, .int .i64 0, .int .i64 m3, .int .i64 q] 23 := Row.next ((r_c y5).set _ _) hU6
  have KK := Lib.hid (KB.next (KB.put (KK.out y5) (by omega) _ _) hU6)
  clear hU6
  obtain ⟨c_b_0, c_b_1, c_b_2, c_b_3, c_b_4, c_b_5⟩ := six r_b
  obtain ⟨c_c_0, c_c_1, c_c_2, c_c_3, c_c_4, c_c_5⟩ := six r_c
  have TZ := Lib.hid fun z => TH.out.below (KK.out z)
  have SZ := Lib.hid fun z => SH.out.below (KK.out z)
  have f_b := rfree r_b
  have f_c := rfree r_c
  have ce := keepc KK CE
  have ct3 := keepc KK C3
  go_wp2
  refine bodyPost_ret (v := iv ⟨6, r1, 0, 0, m3, q⟩) (by simp [results, Tryd.results34, go_sem, iv, *]) rfl ⟨by rw [SP.out], ?_⟩
  repeat' (first | (with_reducible exact KK.out y6) | (with_reducible refine Below.setCell ?_ ?_ _) | (simp; done) | (simp; omega) | omega)

set_option maxRecDepth 100000 in
set_option maxHeartbeats 3200000 in
theorem aguess_6_4 (L : List Tx) (a : Addr) (k cap : Nat) (w : World) (ht : Tab w) (h : SlT w (.slice (some a) (k + 1) cap) L) (hs : Short L) (hn : L.length = k + 1) (hk : k ≤ 7) (h3 : 3 ≤ k) (h7 : k ≠ 6) : Calls Tryd.prog 34 #[.int .i64 6, .slice (some a) (k + 1) cap] w fun e w' => e = .returned (iv (guess 6 L)) ∧ Below w.heap.size w w' := by
  have TH := Lib.hid ht
  have SH := Lib.hid h
  obtain ⟨te, hte⟩ : ∃ t, t = L.getD k [] := ⟨_, rfl⟩
  have CE := Lib.hid (show w.cell? (a.add k) = _ from slT_at h k (by omega))
  rw [← hte] at CE
  obtain ⟨t3, ht3⟩ : ∃ t, t = L.getD 3 [] := ⟨_, rfl⟩
  have C3 := Lib.hid (show w.cell? (⟨a.block, a.off + 3, none⟩) = _ from slT_at h 3 (by omega))
  rw [← ht3] at C3
  obtain ⟨r1, hr1⟩ : ∃ r, r = register L 1 := ⟨_, rfl⟩
  have R1 := Lib.hid (fun w2 (t2 : Tab w2) (s2 : SlT w2 (.slice (some a) (k + 1) cap) L) => aregister_any L _ 1 w2 t2.tb s2 (by omega))
  rw [← hr1] at R1
  obtain ⟨m3, hm3⟩ : ∃ m, m = numberIn t3 := ⟨_, rfl⟩
  have N3 := Lib.hid (fun w2 => numberIn_any t3 w2 (by rw [ht3]; exact short_at hs 3 (by omega)))
  rw [← hm3] at N3
  have SP := Lib.hid (show guess 6 L = ⟨6, r1, 0, 0, m3, 0⟩ by
    simp [guess, hn, hr1, hm3, ht3, h7]
    omega)
  have n0 : (0 : Int) ≤ (k : Int) := by omega
  have n1 : (k : Int) ≤ 7 := by omega
  have n2 : ((k + 1 : Nat) : Int) = (k : Int) + 1 := by omega
  have n3 : (k : Int) < (k : Int) + 1 := by omega
  have n4 : (k : Int) + 1 - 1 = (k : Int) := by omega
  have g1 : ¬ (k : Int) + 1 = 7 := by omega
  have g2 : ((k : Int) + 1 == 7) = false := by simp; omega
  have g3 : (3 : Int) < (k : Int) + 1 := by omega
  have g4 : (3 : Int) ≤ (k : Int) := by omega
  clear h3 h7
  clear ht h hs hn hte hk ht3 hr1 hm3
  go_enter Tryd.func34, Tryd.ntmps34
  go_upto_region 2 with fail
  refine to_cls ?_
  intro U0 hU0 y0
  have r_b : ∀ z : Wb U0, Row z.at (w.heap.size) [.int .i64 0, .int .i64 0, .int .i64 0, .int .i64 0, .int .i64 0, .int .i64 0] 23 := Row.next (Row.old (Row.new' _ [.int .i64 0, .int .i64 0, .int .i64 0, .int .i64 0, .int .i64 0, .int .i64 0] _ _ (by simp)) _) hU0
  have r_c : ∀ z : Wb U0, Row z.at (w.heap.size + 1) [.int .i64 6, .int .i64 0, .int .i64 0, .int .i64 0, .int .i64 0, .int .i64 0] 23 := Row.next (Row.new' _ [.int .i64 6, .int .i64 0, .int .i64 0, .int .i64 0, .int .i64 0, .int .i64 0] _ _ (by simp)) hU0
  have KK := Lib.hid (KB.next (KB.alloc (KB.alloc (Below.refl _ _) _) _) hU0)
  have TZ := Lib.hid (fun z : Wb U0 => ((TH.out.below (KB.alloc (KB.alloc (Below.refl w.heap.size w) _) _)).below hU0).below z.bel)
  have SZ := Lib.hid (fun z : Wb U0 => ((SH.out.below (KB.alloc (KB.alloc (Below.refl w.heap.size w) _) _)).below hU0).below z.bel)
  clear hU0
  obtain ⟨c_b_0, c_b_1, c_b_2, c_b_3, c_b_4, c_b_5⟩ := six r_b
  obtain ⟨c_c_0, c_c_1, c_c_2, c_c_3, c_c_4, c_c_5⟩ := six r_c
  have f_b := rfree r_b
  have f_c := rfree r_c
  have ce := keepc KK CE
  have ct3 := keepc KK C3
  go_wp2_with fail
  refine (R1.out _ (TZ.out y0) (SZ.out y0)).mono ?_
  rintro e w1 ⟨rfl, g⟩
  obtain ⟨y1, rfl⟩ := Wb.next (x := y0) g
  clear g
  go_upto_region 13 with fail
  refine to_cls ?_
  intro U2 hU2 y2
  clear c_b_0 c_b_1 c_b_2 c_b_3 c_b_4 c_b_5 c_c_0 c_c_1 c_c_2 c_c_3 c_c_4 c_c_5 f_b f_c ce ct3
  have r_b : ∀ z : Wb U2, Row z.at (w.heap.size) [.int .i64 0, .int .i64 0, .int .i64 0, .int .i64 0, .int .i64 0, .int .i64 0] 23 := Row.next ((r_b y1).oth (by omega) _ _) hU2
  have r_c : ∀ z : Wb U2, Row z.at (w.heap.size + 1) [.int .i64 6, .int .i64 r1, .int .i64 0, .int .i64 0, .int .i64 0, .int .i64 0] 23 := Row.next ((r_c y1).set _ _) hU2
  have KK := Lib.hid (KB.next (KB.put (KK.out y1) (by omega) _ _) hU2)
  clear hU2
  obtain ⟨c_b_0, c_b_1, c_b_2, c_b_3, c_b_4, c_b_5⟩ := six r_b
  obtain ⟨c_c_0, c_c_1, c_c_2, c_c_3, c_c_4, c_c_5⟩ := six r_c
  have TZ := Lib.hid fun z => TH.out.below (KK.out z)
  have SZ := Lib.hid fun z => SH.out.below (KK.out z)
  have f_b := rfree r_b
  have f_c := rfree r_c
  have ce := keepc KK CE
  have ct3 := keepc KK C3
  go_wp2_with fail
  refine (N3.out _).mono ?_
  rintro e w1 ⟨rfl, g⟩
  obtain ⟨y3, rfl⟩ := Wb.next (x := y2) g
  clear g
  go_upto_region 15 with fail
  refine to_cls ?_
  intro U4 hU4 y4
  clear c_b_0 c_b_1 c_b_2 c_b_3 c_b_4 c_b_5 c_c_0 c_c_1 c_c_2 c_c_3 c_c_4 c_c_5 f_b f_c ce ct3
  have r_b : ∀ z : Wb U4, Row z.at (w.heap.size) [.int .i64 0, .int .i64 0, .int .i64 0, .int .i64 0, .int .i64 0, .int .i64 0] 23 := Row.next ((r_b y3).oth (by omega) _ _) hU4
  have r_c : ∀ z : Wb U4, Row z.at (w.heap.size + 1) [.int .i64 6, .int .i64 r1, .int .i64 0, .int .i64 0, .int .i64 m3, .int .i64 0] 23 := Row.next ((r_c y3).set _ _) hU4
  have KK := Lib.hid (KB.next (KB.put (KK.out y3) (by omega) _ _) hU4)
  clear hU4
  obtain ⟨c_b_0, c_b_1, c_b_2, c_b_3, c_b_4, c_b_5⟩ := six r_b
  obtain ⟨c_c_0, c_c_1, c_c_2, c_c_3, c_c_4, c_c_5⟩ := six r_c
  have TZ := Lib.hid fun z => TH.out.below (KK.out z)
  have SZ := Lib.hid fun z => SH.out.below (KK.out z)
  have f_b := rfree r_b
  have f_c := rfree r_c
  have ce := keepc KK CE
  have ct3 := keepc KK C3
  go_wp2
  refine bodyPost_ret (v := iv ⟨6, r1, 0, 0, m3, 0⟩) (by simp [results, Tryd.results34, go_sem, iv, *]) rfl ⟨by rw [SP.out], ?_⟩
  repeat' (first | (with_reducible exact KK.out y4) | (with_reducible refine Below.setCell ?_ ?_ _) | (simp; done) | (simp; omega) | omega)

set_option maxRecDepth 100000 in
set_option maxHeartbeats 3200000 in
theorem aguess_6_1 (L : List Tx) (a : Addr) (k cap : Nat) (w : World) (ht : Tab w) (h : SlT w (.slice (some a) (k + 1) cap) L) (hs : Short L) (hn : L.length = k + 1) (hk : k ≤ 7) (h3 : k < 3) : Calls Tryd.prog 34 #[.int .i64 6, .slice (some a) (k + 1) cap] w fun e w' => e = .returned (iv (guess 6 L)) ∧ Below w.heap.size w w' := by
  have TH := Lib.hid ht
  have SH := Lib.hid h
  obtain ⟨te, hte⟩ : ∃ t, t = L.getD k [] := ⟨_, rfl⟩
  have CE := Lib.hid (show w.cell? (a.add k) = _ from slT_at h k (by omega))
  rw [← hte] at CE
  obtain ⟨r1, hr1⟩ : ∃ r, r = register L 1 := ⟨_, rfl⟩
  have R1 := Lib.hid (fun w2 (t2 : Tab w2) (s2 : SlT w2 (.slice (some a) (k + 1) cap) L) => aregister_any L _ 1 w2 t2.tb s2 (by omega))
  rw [← hr1] at R1
  have SP := Lib.hid (show guess 6 L = ⟨6, r1, 0, 0, 0, 0⟩ by
    simp [guess, hn, hr1]
    omega)
  have n0 : (0 : Int) ≤ (k : Int) := by omega
  have n1 : (k : Int) ≤ 7 := by omega
  have n2 : ((k + 1 : Nat) : Int) = (k : Int) + 1 := by omega
  have n3 : (k : Int) < (k : Int) + 1 := by omega
  have n4 : (k : Int) + 1 - 1 = (k : Int) := by omega
  have g1 : ¬ (k : Int) + 1 = 7 := by omega
  have g2 : ((k : Int) + 1 == 7) = false := by simp; omega
  have g3 : ¬ (3 : Int) < (k : Int) + 1 := by omega
  clear h3
  clear ht h hs hn hte hk hr1
  go_enter Tryd.func34, Tryd.ntmps34
  go_upto_region 2 with fail
  refine to_cls ?_
  intro U0 hU0 y0
  have r_b : ∀ z : Wb U0, Row z.at (w.heap.size) [.int .i64 0, .int .i64 0, .int .i64 0, .int .i64 0, .int .i64 0, .int .i64 0] 23 := Row.next (Row.old (Row.new' _ [.int .i64 0, .int .i64 0, .int .i64 0, .int .i64 0, .int .i64 0, .int .i64 0] _ _ (by simp)) _) hU0
  have r_c : ∀ z : Wb U0, Row z.at (w.heap.size + 1) [.int .i64 6, .int .i64 0, .int .i64 0, .int .i64 0, .int .i64 0, .int .i64 0] 23 := Row.next (Row.new' _ [.int .i64 6, .int .i64 0, .int .i64 0, .int .i64 0, .int .i64 0, .int .i64 0] _ _ (by simp)) hU0
  have KK := Lib.hid (KB.next (KB.alloc (KB.alloc (Below.refl _ _) _) _) hU0)
  have TZ := Lib.hid (fun z : Wb U0 => ((TH.out.below (KB.alloc (KB.alloc (Below.refl w.heap.size w) _) _)).below hU0).below z.bel)
  have SZ := Lib.hid (fun z : Wb U0 => ((SH.out.below (KB.alloc (KB.alloc (Below.refl w.heap.size w) _) _)).below hU0).below z.bel)
  clear hU0
  obtain ⟨c_b_0, c_b_1, c_b_2, c_b_3, c_b_4, c_b_5⟩ := six r_b
  obtain ⟨c_c_0, c_c_1, c_c_2, c_c_3, c_c_4, c_c_5⟩ := six r_c
  have f_b := rfree r_b
  have f_c := rfree r_c
  have ce := keepc KK CE
  go_wp2_with fail
  refine (R1.out _ (TZ.out y0) (SZ.out y0)).mono ?_
  rintro e w1 ⟨rfl, g⟩
  obtain ⟨y1, rfl⟩ := Wb.next (x := y0) g
  clear g
  go_upto_region 13 with fail
  refine to_cls ?_
  intro U2 hU2 y2
  clear c_b_0 c_b_1 c_b_2 c_b_3 c_b_4 c_b_5 c_c_0 c_c_1 c_c_2 c_c_3 c_c_4 c_c_5 f_b f_c ce
  have r_b : ∀ z : Wb U2, Row z.at (w.heap.size) [.int .i64 0, .int .i64 0, .int .i64 0, .int .i64 0, .int .i64 0, .int .i64 0] 23 := Row.next ((r_b y1).oth (by omega) _ _) hU2
  have r_c : ∀ z : Wb U2, Row z.at (w.heap.size + 1) [.int .i64 6, .int .i64 r1, .int .i64 0, .int .i64 0, .int .i64 0, .int .i64 0] 23 := Row.next ((r_c y1).set _ _) hU2
  have KK := Lib.hid (KB.next (KB.put (KK.out y1) (by omega) _ _) hU2)
  clear hU2
  obtain ⟨c_b_0, c_b_1, c_b_2, c_b_3, c_b_4, c_b_5⟩ := six r_b
  obtain ⟨c_c_0, c_c_1, c_c_2, c_c_3, c_c_4, c_c_5⟩ := six r_c
  have TZ := Lib.hid fun z => TH.out.below (KK.out z)
  have SZ := Lib.hid fun z => SH.out.below (KK.out z)
  have f_b := rfree r_b
  have f_c := rfree r_c
  have ce := keepc KK CE
  go_wp2
  refine bodyPost_ret (v := iv ⟨6, r1, 0, 0, 0, 0⟩) (by simp [results, Tryd.results34, go_sem, iv, *]) rfl ⟨by rw [SP.out], ?_⟩
  repeat' (first | (with_reducible exact KK.out y2) | (with_reducible refine Below.setCell ?_ ?_ _) | (simp; done) | (simp; omega) | omega)

set_option maxRecDepth 100000 in
set_option maxHeartbeats 3200000 in
theorem aguess_1 (L : List Tx) (a : Addr) (k cap : Nat) (w : World) (ht : Tab w) (h : SlT w (.slice (some a) (k + 1) cap) L) (hs : Short L) (hn : L.length = k + 1) (hk : k ≤ 7) : Calls Tryd.prog 34 #[.int .i64 1, .slice (some a) (k + 1) cap] w fun e w' => e = .returned (iv (guess 1 L)) ∧ Below w.heap.size w w' := by
  have TH := Lib.hid ht
  have SH := Lib.hid h
  obtain ⟨te, hte⟩ : ∃ t, t = L.getD k [] := ⟨_, rfl⟩
  have CE := Lib.hid (show w.cell? (a.add k) = _ from slT_at h k (by omega))
  rw [← hte] at CE
  have SP := Lib.hid (show guess 1 L = ⟨1, 0, 0, 0, 0, 0⟩ by
    simp [guess])
  have n0 : (0 : Int) ≤ (k : Int) := by omega
  have n1 : (k : Int) ≤ 7 := by omega
  have n2 : ((k + 1 : Nat) : Int) = (k : Int) + 1 := by omega
  have n3 : (k : Int) < (k : Int) + 1 := by omega
  have n4 : (k : Int) + 1 - 1 = (k : Int) := by omega
  clear ht h hs hn hte hk
  go_enter Tryd.func34, Tryd.ntmps34
  go_upto_region 2 with fail
  refine to_cls ?_
  intro U0 hU0 y0
  have r_b : ∀ z : Wb U0, Row z.at (w.heap.size) [.int .i64 0, .int .i64 0, .int .i64 0, .int .i64 0, .int .i64 0, .int .i64 0] 23 := Row.next (Row.old (Row.new' _ [.int .i64 0, .int .i64 0, .int .i64 0, .int .i64 0, .int .i64 0, .int .i64 0] _ _ (by simp)) _) hU0
  have r_c : ∀ z : Wb U0, Row z.at (w.heap.size + 1) [.int .i64 1, .int .i64 0, .int .i64 0, .int .i64 0, .int .i64 0, .int .i64 0] 23 := Row.next (Row.new' _ [.int .i64 1, .int .i64 0, .int .i64 0, .int .i64 0, .int .i64 0, .int .i64 0] _ _ (by simp)) hU0
  have KK := Lib.hid (KB.next (KB.alloc (KB.alloc (Below.refl _ _) _) _) hU0)
  have TZ := Lib.hid (fun z : Wb U0 => ((TH.out.below (KB.alloc (KB.alloc (Below.refl w.heap.size w) _) _)).below hU0).below z.bel)
  have SZ := Lib.hid (fun z : Wb U0 => ((SH.out.below (KB.alloc (KB.alloc (Below.refl w.heap.size w) _) _)).below hU0).below z.bel)
  clear hU0
  obtain ⟨c_b_0, c_b_1, c_b_2, c_b_3, c_b_4, c_b_5⟩ := six r_b
  obtain ⟨c_c_0, c_c_1, c_c_2, c_c_3, c_c_4, c_c_5⟩ := six r_c
  have f_b := rfree r_b
  have f_c := rfree r_c
  have ce := keepc KK CE
  go_wp2
  refine bodyPost_ret (v := iv ⟨1, 0, 0, 0, 0, 0⟩) (by simp [results, Tryd.results34, go_sem, iv, *]) rfl ⟨by rw [SP.out], ?_⟩
  repeat' (first | (with_reducible exact KK.out y0) | (with_reducible refine Below.setCell ?_ ?_ _) | (simp; done) | (simp; omega) | omega)

end Go.Proofs.YtebpmngllljkaaaDoor

namespace Go.Proofs.YtebpmngllljkaaaDoor
open Go.RowKit GrP GrA


set_option maxRecDepth 100000 in
set_option maxHeartbeats 3200000 in
theorem aguess_14 (L : List Tx) (a : Addr) (k cap : Nat) (w : World) (ht : Tab w) (h : SlT w (.slice (some a) (k + 1) cap) L) (hs : Short L) (hn : L.length = k + 1) (hk : k ≤ 7) : Calls Tryd.prog 34 #[.int .i64 14, .slice (some a) (k + 1) cap] w fun e w' => e = .returned (iv (guess 14 L)) ∧ Below w.heap.size w w' := by
  have TH := Lib.hid ht
  have SH := Lib.hid h
  obtain ⟨te, hte⟩ : ∃ t, t = L.getD k [] := ⟨_, rfl⟩
  have CE := Lib.hid (show w.cell? (a.add k) = _ from slT_at h k (by omega))
  rw [← hte] at CE
  obtain ⟨ml, hml⟩ : ∃ m, m = numberIn (lastW L) := ⟨_, rfl⟩
  have NL := Lib.hid (fun w2 (s2 : SlT w2 (.slice (some a) (k + 1) cap) L) => last_any L _ w2 s2 hs (by omega))
  rw [← hml] at NL
  have SP := Lib.hid (show guess 14 L = ⟨14, 0, 0, 0, ml, 0⟩ by
    simp [guess, hml])
  have n0 : (0 : Int) ≤ (k : Int) := by omega
  have n1 : (k : Int) ≤ 7 := by omega
  have n2 : ((k + 1 : Nat) : Int) = (k : Int) + 1 := by omega
  have n3 : (k : Int) < (k : Int) + 1 := by omega
  have n4 : (k : Int) + 1 - 1 = (k : Int) := by omega
  clear ht h hs hn hte hk hml
  go_enter Tryd.func34, Tryd.ntmps34
  go_upto_region 2 with fail
  refine to_cls ?_
  intro U0 hU0 y0
  have r_b : ∀ z : Wb U0, Row z.at (w.heap.size) [.int .i64 0, .int .i64 0, .int .i64 0, .int .i64 0, .int .i64 0, .int .i64 0] 23 := Row.next (Row.old (Row.new' _ [.int .i64 0, .int .i64 0, .int .i64 0, .int .i64 0, .int .i64 0, .int .i64 0] _ _ (by simp)) _) hU0
  have r_c : ∀ z : Wb U0, Row z.at (w.heap.size + 1) [.int .i64 14, .int .i64 0, .int .i64 0, .int .i64 0, .int .i64 0, .int .i64 0] 23 := Row.next (Row.new' _ [.int .i64 14, .int .i64 0, .int .i64 0, .int .i64 0, .int .i64 0, .int .i64 0] _ _ (by simp)) hU0
  have KK := Lib.hid (KB.next (KB.alloc (KB.alloc (Below.refl _ _) _) _) hU0)
  have TZ := Lib.hid (fun z : Wb U0 => ((TH.out.below (KB.alloc (KB.alloc (Below.refl w.heap.size w) _) _)).below hU0).below z.bel)
  have SZ := Lib.hid (fun z : Wb U0 => ((SH.out.below (KB.alloc (KB.alloc (Below.refl w.heap.size w) _) _)).below hU0).below z.bel)
  clear hU0
  obtain ⟨c_b_0, c_b_1, c_b_2, c_b_3, c_b_4, c_b_5⟩ := six r_b
  obtain ⟨c_c_0, c_c_1, c_c_2, c_c_3, c_c_4, c_c_5⟩ := six r_c
  have f_b := rfree r_b
  have f_c := rfree r_c
  have ce := keepc KK CE
  go_wp2_with fail
  refine (NL.out _ (SZ.out y0)).mono ?_
  rintro e w1 ⟨rfl, g⟩
  obtain ⟨y1, rfl⟩ := Wb.next (x := y0) g
  clear g
  go_upto_region 45 with fail
  refine to_cls ?_
  intro U2 hU2 y2
  clear c_b_0 c_b_1 c_b_2 c_b_3 c_b_4 c_b_5 c_c_0 c_c_1 c_c_2 c_c_3 c_c_4 c_c_5 f_b f_c ce
  have r_b : ∀ z : Wb U2, Row z.at (w.heap.size) [.int .i64 0, .int .i64 0, .int .i64 0, .int .i64 0, .int .i64 0, .int .i64 0] 23 := Row.next ((r_b y1).oth (by omega) _ _) hU2
  have r_c : ∀ z : Wb U2, Row z.at (w.heap.size + 1) [.int .i64 14, .int .i64 0, .int .i64 0, .int .i64 0, .int .i64 ml, .int .i64 0] 23 := Row.next ((r_c y1).set _ _) hU2
  have KK := Lib.hid (KB.next (KB.put (KK.out y1) (by omega) _ _) hU2)
  clear hU2
  obtain ⟨c_b_0, c_b_1, c_b_2, c_b_3, c_b_4, c_b_5⟩ := six r_b
  obtain ⟨c_c_0, c_c_1, c_c_2, c_c_3, c_c_4, c_c_5⟩ := six r_c
  have TZ := Lib.hid fun z => TH.out.below (KK.out z)
  have SZ := Lib.hid fun z => SH.out.below (KK.out z)
  have f_b := rfree r_b
  have f_c := rfree r_c
  have ce := keepc KK CE
  go_wp2
  refine bodyPost_ret (v := iv ⟨14, 0, 0, 0, ml, 0⟩) (by simp [results, Tryd.results34, go_sem, iv, *]) rfl ⟨by rw [SP.out], ?_⟩
  repeat' (first | (with_reducible exact KK.out y2) | (with_reducible refine Below.setCell ?_ ?_ _) | (simp; done) | (simp; omega) | omega)

set_option maxRecDepth 100000 in
set_option maxHeartbeats 3200000 in
theorem aguess_15 (L : List Tx) (a : Addr) (k cap : Nat) (w : World) (ht : Tab w) (h : SlT w (.slice (some a) (k + 1) cap) L) (hs : Short L) (hn : L.length = k + 1) (hk : k ≤ 7) : Calls Tryd.prog 34 #[.int .i64 15, .slice (some a) (k + 1) cap] w fun e w' => e = .returned (iv (guess 15 L)) ∧ Below w.heap.size w w' := by
  have TH := Lib.hid ht
  have SH := Lib.hid h
  obtain ⟨te, hte⟩ : ∃ t, t = L.getD k [] := ⟨_, rfl⟩
  have CE := Lib.hid (show w.cell? (a.add k) = _ from slT_at h k (by omega))
  rw [← hte] at CE
  obtain ⟨r1, hr1⟩ : ∃ r, r = register L 1 := ⟨_, rfl⟩
  have R1 := Lib.hid (fun w2 (t2 : Tab w2) (s2 : SlT w2 (.slice (some a) (k + 1) cap) L) => aregister_any L _ 1 w2 t2.tb s2 (by omega))
  rw [← hr1] at R1
  obtain ⟨ml, hml⟩ : ∃ m, m = numberIn (lastW L) := ⟨_, rfl⟩
  have NL := Lib.hid (fun w2 (s2 : SlT w2 (.slice (some a) (k + 1) cap) L) => last_any L _ w2 s2 hs (by omega))
  rw [← hml] at NL
  have SP := Lib.hid (show guess 15 L = ⟨15, r1, 0, 0, ml, 0⟩ by
    simp [guess, hr1, hml])
  have n0 : (0 : Int) ≤ (k : Int) := by omega
  have n1 : (k : Int) ≤ 7 := by omega
  have n2 : ((k + 1 : Nat) : Int) = (k : Int) + 1 := by omega
  have n3 : (k : Int) < (k : Int) + 1 := by omega
  have n4 : (k : Int) + 1 - 1 = (k : Int) := by omega
  clear ht h hs hn hte hk hr1 hml
  go_enter Tryd.func34, Tryd.ntmps34
  go_upto_region 2 with fail
  refine to_cls ?_
  intro U0 hU0 y0
  have r_b : ∀ z : Wb U0, Row z.at (w.heap.size) [.int .i64 0, .int .i64 0, .int .i64 0, .int .i64 0, .int .i64 0, .int .i64 0] 23 := Row.next (Row.old (Row.new' _ [.int .i64 0, .int .i64 0, .int .i64 0, .int .i64 0, .int .i64 0, .int .i64 0] _ _ (by simp)) _) hU0
  have r_c : ∀ z : Wb U0, Row z.at (w.heap.size + 1) [.int .i64 15, .int .i64 0, .int .i64 0, .int .i64 0, .int .i64 0, .int .i64 0] 23 := Row.next (Row.new' _ [.int .i64 15, .int .i64 0, .int .i64 0, .int .i64 0, .int .i64 0, .int .i64 0] _ _ (by simp)) hU0
  have KK := Lib.hid (KB.next (KB.alloc (KB.alloc (Below.refl _ _) _) _) hU0)
  have TZ := Lib.hid (fun z : Wb U0 => ((TH.out.below (KB.alloc (KB.alloc (Below.refl w.heap.size w) _) _)).below hU0).below z.bel)
  have SZ := Lib.hid (fun z : Wb U0 => ((SH.out.below (KB.alloc (KB.alloc (Below.refl w.heap.size w) _) _)).below hU0).below z.bel)
  clear hU0
  obtain ⟨c_b_0, c_b_1, c_b_2, c_b_3, c_b_4, c_b_5⟩ := six r_b
  obtain ⟨c_c_0, c_c_1, c_c_2, c_c_3, c_c_4, c_c_5⟩ := six r_c
  have f_b := rfree r_b
  have f_c := rfree r_c
  have ce := keepc KK CE
  go_wp2_with fail
  refine (R1.out _ (TZ.out y0) (SZ.out y0)).mono ?_
  rintro e w1 ⟨rfl, g⟩
  obtain ⟨y1, rfl⟩ := Wb.next (x := y0) g
  clear g
  go_wp2_with fail
  refine (NL.out _ (SZ.out y1)).mono ?_
  rintro e w1 ⟨rfl, g⟩
  obtain ⟨y2, rfl⟩ := Wb.next (x := y1) g
  clear g
  go_upto_region 45 with fail
  refine to_cls ?_
  intro U3 hU3 y3
  clear c_b_0 c_b_1 c_b_2 c_b_3 c_b_4 c_b_5 c_c_0 c_c_1 c_c_2 c_c_3 c_c_4 c_c_5 f_b f_c ce
  have r_b : ∀ z : Wb U3, Row z.at (w.heap.size) [.int .i64 0, .int .i64 0, .int .i64 0, .int .i64 0, .int .i64 0, .int .i64 0] 23 := Row.next (((r_b y2).oth (by omega) _ _).oth (by omega) _ _) hU3
  have r_c : ∀ z : Wb U3, Row z.at (w.heap.size + 1) [.int .i64 15, .int .i64 r1, .int .i64 0, .int .i64 0, .int .i64 ml, .int .i64 0] 23 := Row.next (((r_c y2).set _ _).set _ _) hU3
  have KK := Lib.hid (KB.next (KB.put (KB.put (KK.out y2) (by omega) _ _) (by omega) _ _) hU3)
  clear hU3
  obtain ⟨c_b_0, c_b_1, c_b_2, c_b_3, c_b_4, c_b_5⟩ := six r_b
  obtain ⟨c_c_0, c_c_1, c_c_2, c_c_3, c_c_4, c_c_5⟩ := six r_c
  have TZ := Lib.hid fun z => TH.out.below (KK.out z)
  have SZ := Lib.hid fun z => SH.out.below (KK.out z)
  have f_b := rfree r_b
  have f_c := rfree r_c
  have ce := keepc KK CE
  go_wp2
  refine bodyPost_ret (v := iv ⟨15, r1, 0, 0, ml, 0⟩) (by simp [results, Tryd.results34, go_sem, iv, *]) rfl ⟨by rw [SP.out], ?_⟩
  repeat' (first | (with_reducible exact KK.out y3) | (with_reducible refine Below.setCell ?_ ?_ _) | (simp; done) | (simp; omega) | omega)

set_option maxRecDepth 100000 in
set_option maxHeartbeats 3200000 in
theorem aguess_16 (L : List Tx) (a : Addr) (k cap : Nat) (w : World) (ht : Tab w) (h : SlT w (.slice (some a) (k + 1) cap) L) (hs : Short L) (hn : L.length = k + 1) (hk : k ≤ 7) : Calls Tryd.prog 34 #[.int .i64 16, .slice (some a) (k + 1) cap] w fun e w' => e = .returned (iv (guess 16 L)) ∧ Below w.heap.size w w' := by
  have TH := Lib.hid ht
  have SH := Lib.hid h
  obtain ⟨te, hte⟩ : ∃ t, t = L.getD k [] := ⟨_, rfl⟩
  have CE := Lib.hid (show w.cell? (a.add k) = _ from slT_at h k (by omega))
  rw [← hte] at CE
  obtain ⟨r1, hr1⟩ : ∃ r, r = register L 1 := ⟨_, rfl⟩
  have R1 := Lib.hid (fun w2 (t2 : Tab w2) (s2 : SlT w2 (.slice (some a) (k + 1) cap) L) => aregister_any L _ 1 w2 t2.tb s2 (by omega))
  rw [← hr1] at R1
  obtain ⟨ml, hml⟩ : ∃ m, m = numberIn (lastW L) := ⟨_, rfl⟩
  have NL := Lib.hid (fun w2 (s2 : SlT w2 (.slice (some a) (k + 1) cap) L) => last_any L _ w2 s2 hs (by omega))
  rw [← hml] at NL
  have SP := Lib.hid (show guess 16 L = ⟨16, r1, 0, 0, ml, 0⟩ by
    simp [guess, hr1, hml])
  have n0 : (0 : Int) ≤ (k : Int) := by omega
  have n1 : (k : Int) ≤ 7 := by omega
  have n2 : ((k + 1 : Nat) : Int) = (k : Int) + 1 := by omega
  have n3 : (k : Int) < (k : Int) + 1 := by omega
  have n4 : (k : Int) + 1 - 1 = (k : Int) := by omega
  clear ht h hs hn hte hk hr1 hml
  go_enter Tryd.func34, Tryd.ntmps34
  go_upto_region 2 with fail
  refine to_cls ?_
  intro U0 hU0 y0
  have r_b : ∀ z : Wb U0, Row z.at (w.heap.size) [.int .i64 0, .int .i64 0, .int .i64 0, .int .i64 0, .int .i64 0, .int .i64 0] 23 := Row.next (Row.old (Row.new' _ [.int .i64 0, .int .i64 0, .int .i64 0, .int .i64 0, .int .i64 0, .int .i64 0] _ _ (by simp)) _) hU0
  have r_c : ∀ z : Wb U0, Row z.at (w.heap.size + 1) [.int .i64 16, .int .i64 0, .int .i64 0, .int .i64 0, .int .i64 0, .int .i64 0] 23 := Row.next (Row.new' _ [.int .i64 16, .int .i64 0, .int .i64 0, .int .i64 0, .int .i64 0, .int .i64 0] _ _ (by simp)) hU0
  have KK := Lib.hid (KB.next (KB.alloc (KB.alloc (Below.refl _ _) _) _) hU0)
  have TZ := Lib.hid (fun z : Wb U0 => ((TH.out.below (KB.alloc (KB.alloc (Below.refl w.heap.size w) _) _)).below hU0).below z.bel)
  have SZ := Lib.hid (fun z : Wb U0 => ((SH.out.below (KB.alloc (KB.alloc (Below.refl w.heap.size w) _) _)).below hU0).below z.bel)
  clear hU0
  obtain ⟨c_b_0, c_b_1, c_b_2, c_b_3, c_b_4, c_b_5⟩ := six r_b
  obtain ⟨c_c_0, c_c_1, c_c_2, c_c_3, c_c_4, c_c_5⟩ := six r_c
  have f_b := rfree r_b
  have f_c := rfree r_c
  have ce := keepc KK CE
  go_wp2_with fail
  refine (R1.out _ (TZ.out y0) (SZ.out y0)).mono ?_
  rintro e w1 ⟨rfl, g⟩
  obtain ⟨y1, rfl⟩ := Wb.next (x := y0) g
  clear g
  go_wp2_with fail
  refine (NL.out _ (SZ.out y1)).mono ?_
  rintro e w1 ⟨rfl, g⟩
  obtain ⟨y2, rfl⟩ := Wb.next (x := y1) g
  clear g
  go_upto_region 45 with fail
  refine to_cls ?_
  intro U3 hU3 y3
  clear c_b_0 c_b_1 c_b_2 c_b_3 c_b_4 c_b_5 c_c_0 c_c_1 c_c_2 c_c_3 c_c_4 c_c_5 f_b f_c ce
  have r_b : ∀ z : Wb U3, Row z.at (w.heap.size) [.int .i64 0, .int .i64 0, .int .i64 0, .int .i64 0, .int .i64 0, .int .i64 0] 23 := Row.next (((r_b y2).oth (by omega) _ _).oth (by omega) _ _) hU3
  have r_c : ∀ z : Wb U3, Row z.at (w.heap.size + 1) [.int .i64 16, .int .i64 r1, .int .i64 0, .int .i64 0, .int .i64 ml, .int .i64 0] 23 := Row.next (((r_c y2).set _ _).set _ _) hU3
  have KK := Lib.hid (KB.next (KB.put (KB.put (KK.out y2) (by omega) _ _) (by omega) _ _) hU3)
  clear hU3
  obtain ⟨c_b_0, c_b_1, c_b_2, c_b_3, c_b_4, c_b_5⟩ := six r_b
  obtain ⟨c_c_0, c_c_1, c_c_2, c_c_3, c_c_4, c_c_5⟩ := six r_c
  have TZ := Lib.hid fun z => TH.out.below (KK.out z)
  have SZ := Lib.hid fun z => SH.out.below (KK.out z)
  have f_b := rfree r_b
  have f_c := rfree r_c
  have ce := keepc KK CE
  go_wp2
  refine bodyPost_ret (v := iv ⟨16, r1, 0, 0, ml, 0⟩) (by simp [results, Tryd.results34, go_sem, iv, *]) rfl ⟨by rw [SP.out], ?_⟩
  repeat' (first | (with_reducible exact KK.out y3) | (with_reducible refine Below.setCell ?_ ?_ _) | (simp; done) | (simp; omega) | omega)

set_option maxRecDepth 100000 in
set_option maxHeartbeats 3200000 in
theorem aguess_17 (L : List Tx) (a : Addr) (k cap : Nat) (w : World) (ht : Tab w) (h : SlT w (.slice (some a) (k + 1) cap) L) (hs : Short L) (hn : L.length = k + 1) (hk : k ≤ 7) : Calls Tryd.prog 34 #[.int .i64 17, .slice (some a) (k + 1) cap] w fun e w' => e = .returned (iv (guess 17 L)) ∧ Below w.heap.size w w' := by
  have TH := Lib.hid ht
  have SH := Lib.hid h
  obtain ⟨te, hte⟩ : ∃ t, t = L.getD k [] := ⟨_, rfl⟩
  have CE := Lib.hid (show w.cell? (a.add k) = _ from slT_at h k (by omega))
  rw [← hte] at CE
  obtain ⟨t0, ht0⟩ : ∃ t, t = L.getD 0 [] := ⟨_, rfl⟩
  have C0 := Lib.hid (show w.cell? (a) = _ from slT_at h 0 (by omega))
  rw [← ht0] at C0
  obtain ⟨ml, hml⟩ : ∃ m, m = numberIn (lastW L) := ⟨_, rfl⟩
  have NL := Lib.hid (fun w2 (s2 : SlT w2 (.slice (some a) (k + 1) cap) L) => last_any L _ w2 s2 hs (by omega))
  rw [← hml] at NL
  obtain ⟨kd, hkd⟩ : ∃ k, k = kindOf conds t0 := ⟨_, rfl⟩
  have KD := Lib.hid (fun w2 (t2 : Tab w2) => kind_conds t0 w2 t2.cd)
  rw [← hkd] at KD
  have SP := Lib.hid (show guess 17 L = ⟨17, 0, 0, 0, ml, kd⟩ by
    simp [guess, hml, hkd, ht0])
  have n0 : (0 : Int) ≤ (k : Int) := by omega
  have n1 : (k : Int) ≤ 7 := by omega
  have n2 : ((k + 1 : Nat) : Int) = (k : Int) + 1 := by omega
  have n3 : (k : Int) < (k : Int) + 1 := by omega
  have n4 : (k : Int) + 1 - 1 = (k : Int) := by omega
  clear ht h hs hn hte hk ht0 hml hkd
  go_enter Tryd.func34, Tryd.ntmps34
  go_upto_region 2 with fail
  refine to_cls ?_
  intro U0 hU0 y0
  have r_b : ∀ z : Wb U0, Row z.at (w.heap.size) [.int .i64 0, .int .i64 0, .int .i64 0, .int .i64 0, .int .i64 0, .int .i64 0] 23 := Row.next (Row.old (Row.new' _ [.int .i64 0, .int .i64 0, .int .i64 0, .int .i64 0, .int .i64 0, .int .i64 0] _ _ (by simp)) _) hU0
  have r_c : ∀ z : Wb U0, Row z.at (w.heap.size + 1) [.int .i64 17, .int .i64 0, .int .i64 0, .int .i64 0, .int .i64 0, .int .i64 0] 23 := Row.next (Row.new' _ [.int .i64 17, .int .i64 0, .int .i64 0, .int .i64 0, .int .i64 0, .int .i64 0] _ _ (by simp)) hU0
  have KK := Lib.hid (KB.next (KB.alloc (KB.alloc (Below.refl _ _) _) _) hU0)
  have TZ := Lib.hid (fun z : Wb U0 => ((TH.out.below (KB.alloc (KB.alloc (Below.refl w.heap.size w) _) _)).below hU0).below z.bel)
  have SZ := Lib.hid (fun z : Wb U0 => ((SH.out.below (KB.alloc (KB.alloc (Below.refl w.heap.size w) _) _)).below hU0).below z.bel)
  clear hU0
  obtain ⟨c_b_0, c_b_1, c_b_2, c_b_3, c_b_4, c_b_5⟩ := six r_b
  obtain ⟨c_c_0, c_c_1, c_c_2, c_c_3, c_c_4, c_c_5⟩ := six r_c
  have f_b := rfree r_b
  have f_c := rfree r_c
  have ce := keepc KK CE
  have ct0 := keepc KK C0
  go_wp2_with fail
  refine (KD.out _ (TZ.out y0)).mono ?_
  rintro e w1 ⟨rfl, g⟩
  obtain ⟨y1, rfl⟩ := Wb.next (x := y0) g
  clear g
  go_wp2_with fail
  refine (NL.out _ (SZ.out y1)).mono ?_
  rintro e w1 ⟨rfl, g⟩
  obtain ⟨y2, rfl⟩ := Wb.next (x := y1) g
  clear g
  go_upto_region 45 with fail
  refine to_cls ?_
  intro U3 hU3 y3
  clear c_b_0 c_b_1 c_b_2 c_b_3 c_b_4 c_b_5 c_c_0 c_c_1 c_c_2 c_c_3 c_c_4 c_c_5 f_b f_c ce ct0
  have r_b : ∀ z : Wb U3, Row z.at (w.heap.size) [.int .i64 0, .int .i64 0, .int .i64 0, .int .i64 0, .int .i64 0, .int .i64 0] 23 := Row.next (((r_b y2).oth (by omega) _ _).oth (by omega) _ _) hU3
  have r_c : ∀ z : Wb U3, Row z.at (w.heap.size + 1) [.int .i64 17, .int .i64 0, .int .i64 0, .int .i64 0, .int .i64 ml, .int .i64 kd] 23 := Row.next (((r_c y2).set _ _).set _ _) hU3
  have KK := Lib.hid (KB.next (KB.put (KB.put (KK.out y2) (by omega) _ _) (by omega) _ _) hU3)
  clear hU3
  obtain ⟨c_b_0, c_b_1, c_b_2, c_b_3, c_b_4, c_b_5⟩ := six r_b
  obtain ⟨c_c_0, c_c_1, c_c_2, c_c_3, c_c_4, c_c_5⟩ := six r_c
  have TZ := Lib.hid fun z => TH.out.below (KK.out z)
  have SZ := Lib.hid fun z => SH.out.below (KK.out z)
  have f_b := rfree r_b
  have f_c := rfree r_c
  have ce := keepc KK CE
  have ct0 := keepc KK C0
  go_wp2
  refine bodyPost_ret (v := iv ⟨17, 0, 0, 0, ml, kd⟩) (by simp [results, Tryd.results34, go_sem, iv, *]) rfl ⟨by rw [SP.out], ?_⟩
  repeat' (first | (with_reducible exact KK.out y3) | (with_reducible refine Below.setCell ?_ ?_ _) | (simp; done) | (simp; omega) | omega)

set_option maxRecDepth 100000 in
set_option maxHeartbeats 3200000 in
theorem aguess_18 (L : List Tx) (a : Addr) (k cap : Nat) (w : World) (ht : Tab w) (h : SlT w (.slice (some a) (k + 1) cap) L) (hs : Short L) (hn : L.length = k + 1) (hk : k ≤ 7) : Calls Tryd.prog 34 #[.int .i64 18, .slice (some a) (k + 1) cap] w fun e w' => e = .returned (iv (guess 18 L)) ∧ Below w.heap.size w w' := by
  have TH := Lib.hid ht
  have SH := Lib.hid h
  obtain ⟨te, hte⟩ : ∃ t, t = L.getD k [] := ⟨_, rfl⟩
  have CE := Lib.hid (show w.cell? (a.add k) = _ from slT_at h k (by omega))
  rw [← hte] at CE
  obtain ⟨kd, hkd⟩ : ∃ k, k = kindOf bars te := ⟨_, rfl⟩
  have KD := Lib.hid (fun w2 (t2 : Tab w2) => kind_bars te w2 t2.br)
  rw [← hkd] at KD
  have SP := Lib.hid (show guess 18 L = ⟨18, 0, 0, 0, 0, kd⟩ by
    simp [guess, hkd, hte, last_is hn])
  have n0 : (0 : Int) ≤ (k : Int) := by omega
  have n1 : (k : Int) ≤ 7 := by omega
  have n2 : ((k + 1 : Nat) : Int) = (k : Int) + 1 := by omega
  have n3 : (k : Int) < (k : Int) + 1 := by omega
  have n4 : (k : Int) + 1 - 1 = (k : Int) := by omega
  clear ht h hs hn hte hk hkd
  go_enter Tryd.func34, Tryd.ntmps34
  go_upto_region 2 with fail
  refine to_cls ?_
  intro U0 hU0 y0
  have r_b : ∀ z : Wb U0, Row z.at (w.heap.size) [.int .i64 0, .int .i64 0, .int .i64 0, .int .i64 0, .int .i64 0, .int .i64 0] 23 := Row.next (Row.old (Row.new' _ [.int .i64 0, .int .i64 0, .int .i64 0, .int .i64 0, .int .i64 0, .int .i64 0] _ _ (by simp)) _) hU0
  have r_c : ∀ z : Wb U0, Row z.at (w.heap.size + 1) [.int .i64 18, .int .i64 0, .int .i64 0, .int .i64 0, .int .i64 0, .int .i64 0] 23 := Row.next (Row.new' _ [.int .i64 18, .int .i64 0, .int .i64 0, .int .i64 0, .int .i64 0, .int .i64 0] _ _ (by simp)) hU0
  have KK := Lib.hid (KB.next (KB.alloc (KB.alloc (Below.refl _ _) _) _) hU0)
  have TZ := Lib.hid (fun z : Wb U0 => ((TH.out.below (KB.alloc (KB.alloc (Below.refl w.heap.size w) _) _)).below hU0).below z.bel)
  have SZ := Lib.hid (fun z : Wb U0 => ((SH.out.below (KB.alloc (KB.alloc (Below.refl w.heap.size w) _) _)).below hU0).below z.bel)
  clear hU0
  obtain ⟨c_b_0, c_b_1, c_b_2, c_b_3, c_b_4, c_b_5⟩ := six r_b
  obtain ⟨c_c_0, c_c_1, c_c_2, c_c_3, c_c_4, c_c_5⟩ := six r_c
  have f_b := rfree r_b
  have f_c := rfree r_c
  have ce := keepc KK CE
  go_wp2_with fail
  refine (KD.out _ (TZ.out y0)).mono ?_
  rintro e w1 ⟨rfl, g⟩
  obtain ⟨y1, rfl⟩ := Wb.next (x := y0) g
  clear g
  go_upto_region 45 with fail
  refine to_cls ?_
  intro U2 hU2 y2
  clear c_b_0 c_b_1 c_b_2 c_b_3 c_b_4 c_b_5 c_c_0 c_c_1 c_c_2 c_c_3 c_c_4 c_c_5 f_b f_c ce
  have r_b : ∀ z : Wb U2, Row z.at (w.heap.size) [.int .i64 0, .int .i64 0, .int .i64 0, .int .i64 0, .int .i64 0, .int .i64 0] 23 := Row.next ((r_b y1).oth (by omega) _ _) hU2
  have r_c : ∀ z : Wb U2, Row z.at (w.heap.size + 1) [.int .i64 18, .int .i64 0, .int .i64 0, .int .i64 0, .int .i64 0, .int .i64 kd] 23 := Row.next ((r_c y1).set _ _) hU2
  have KK := Lib.hid (KB.next (KB.put (KK.out y1) (by omega) _ _) hU2)
  clear hU2
  obtain ⟨c_b_0, c_b_1, c_b_2, c_b_3, c_b_4, c_b_5⟩ := six r_b
  obtain ⟨c_c_0, c_c_1, c_c_2, c_c_3, c_c_4, c_c_5⟩ := six r_c
  have TZ := Lib.hid fun z => TH.out.below (KK.out z)
  have SZ := Lib.hid fun z => SH.out.below (KK.out z)
  have f_b := rfree r_b
  have f_c := rfree r_c
  have ce := keepc KK CE
  go_wp2
  refine bodyPost_ret (v := iv ⟨18, 0, 0, 0, 0, kd⟩) (by simp [results, Tryd.results34, go_sem, iv, *]) rfl ⟨by rw [SP.out], ?_⟩
  repeat' (first | (with_reducible exact KK.out y2) | (with_reducible refine Below.setCell ?_ ?_ _) | (simp; done) | (simp; omega) | omega)

set_option maxRecDepth 100000 in
set_option maxHeartbeats 3200000 in
theorem aguess_19 (L : List Tx) (a : Addr) (k cap : Nat) (w : World) (ht : Tab w) (h : SlT w (.slice (some a) (k + 1) cap) L) (hs : Short L) (hn : L.length = k + 1) (hk : k ≤ 7) : Calls Tryd.prog 34 #[.int .i64 19, .slice (some a) (k + 1) cap] w fun e w' => e = .returned (iv (guess 19 L)) ∧ Below w.heap.size w w' := by
  have TH := Lib.hid ht
  have SH := Lib.hid h
  obtain ⟨te, hte⟩ : ∃ t, t = L.getD k [] := ⟨_, rfl⟩
  have CE := Lib.hid (show w.cell? (a.add k) = _ from slT_at h k (by omega))
  rw [← hte] at CE
  obtain ⟨kd, hkd⟩ : ∃ k, k = kindOf bars te := ⟨_, rfl⟩
  have KD := Lib.hid (fun w2 (t2 : Tab w2) => kind_bars te w2 t2.br)
  rw [← hkd] at KD
  have SP := Lib.hid (show guess 19 L = ⟨19, 0, 0, 0, 0, kd⟩ by
    simp [guess, hkd, hte, last_is hn])
  have n0 : (0 : Int) ≤ (k : Int) := by omega
  have n1 : (k : Int) ≤ 7 := by omega
  have n2 : ((k + 1 : Nat) : Int) = (k : Int) + 1 := by omega
  have n3 : (k : Int) < (k : Int) + 1 := by omega
  have n4 : (k : Int) + 1 - 1 = (k : Int) := by omega
  clear ht h hs hn hte hk hkd
  go_enter Tryd.func34, Tryd.ntmps34
  go_upto_region 2 with fail
  refine to_cls ?_
  intro U0 hU0 y0
  have r_b : ∀ z : Wb U0, Row z.at (w.heap.size) [.int .i64 0, .int .i64 0, .int .i64 0, .int .i64 0, .int .i64 0, .int .i64 0] 23 := Row.next (Row.old (Row.new' _ [.int .i64 0, .int .i64 0, .int .i64 0, .int .i64 0, .int .i64 0, .int .i64 0] _ _ (by simp)) _) hU0
  have r_c : ∀ z : Wb U0, Row z.at (w.heap.size + 1) [.int .i64 19, .int .i64 0, .int .i64 0, .int .i64 0, .int .i64 0, .int .i64 0] 23 := Row.next (Row.new' _ [.int .i64 19, .int .i64 0, .int .i64 0, .int .i64 0, .int .i64 0, .int .i64 0] _ _ (by simp)) hU0
  have KK := Lib.hid (KB.next (KB.alloc (KB.alloc (Below.refl _ _) _) _) hU0)
  have TZ := Lib.hid (fun z : Wb U0 => ((TH.out.below (KB.alloc (KB.alloc (Below.refl w.heap.size w) _) _)).below hU0).below z.bel)
  have SZ := Lib.hid (fun z : Wb U0 => ((SH.out.below (KB.alloc (KB.alloc (Below.refl w.heap.size w) _) _)).below hU0).below z.bel)
  clear hU0
  obtain ⟨c_b_0, c_b_1, c_b_2, c_b_3, c_b_4, c_b_5⟩ := six r_b
  obtain ⟨c_c_0, c_c_1, c_c_2, c_c_3, c_c_4, c_c_5⟩ := six r_c
  have f_b := rfree r_b
  have f_c := rfree r_c
  have ce := keepc KK CE
  go_wp2_with fail
  refine (KD.out _ (TZ.out y0)).mono ?_
  rintro e w1 ⟨rfl, g⟩
  obtain ⟨y1, rfl⟩ := Wb.next (x := y0) g
  clear g
  go_upto_region 45 with fail
  refine to_cls ?_
  intro U2 hU2 y2
  clear c_b_0 c_b_1 c_b_2 c_b_3 c_b_4 c_b_5 c_c_0 c_c_1 c_c_2 c_c_3 c_c_4 c_c_5 f_b f_c ce
  have r_b : ∀ z : Wb U2, Row z.at (w.heap.size) [.int .i64 0, .int .i64 0, .int .i64 0, .int .i64 0, .int .i64 0, .int .i64 0] 23 := Row.next ((r_b y1).oth (by omega) _ _) hU2
  have r_c : ∀ z : Wb U2, Row z.at (w.heap.size + 1) [.int .i64 19, .int .i64 0, .int .i64 0, .int .i64 0, .int .i64 0, .int .i64 kd] 23 := Row.next ((r_c y1).set _ _) hU2
  have KK := Lib.hid (KB.next (KB.put (KK.out y1) (by omega) _ _) hU2)
  clear hU2
  obtain ⟨c_b_0, c_b_1, c_b_2, c_b_3, c_b_4, c_b_5⟩ := six r_b
  obtain ⟨c_c_0, c_c_1, c_c_2, c_c_3, c_c_4, c_c_5⟩ := six r_c
  have TZ := Lib.hid fun z => TH.out.below (KK.out z)
  have SZ := Lib.hid fun z => SH.out.below (KK.out z)
  have f_b := rfree r_b
  have f_c := rfree r_c
  have ce := keepc KK CE
  go_wp2
  refine bodyPost_ret (v := iv ⟨19, 0, 0, 0, 0, kd⟩) (by simp [results, Tryd.results34, go_sem, iv, *]) rfl ⟨by rw [SP.out], ?_⟩
  repeat' (first | (with_reducible exact KK.out y2) | (with_reducible refine Below.setCell ?_ ?_ _) | (simp; done) | (simp; omega) | omega)

set_option maxRecDepth 100000 in
set_option maxHeartbeats 3200000 in
theorem aguess_21_1 (L : List Tx) (a : Addr) (cap : Nat) (w : World) (ht : Tab w) (h : SlT w (.slice (some a) (1) cap) L) (hs : Short L) (hn : L.length = 1) : Calls Tryd.prog 34 #[.int .i64 21, .slice (some a) (1) cap] w fun e w' => e = .returned (iv (guess 21 L)) ∧ Below w.heap.size w w' := by
  have TH := Lib.hid ht
  have SH := Lib.hid h
  obtain ⟨te, hte⟩ : ∃ t, t = L.getD 0 [] := ⟨_, rfl⟩
  have CE := Lib.hid (show w.cell? (a) = _ from slT_at h 0 (by omega))
  rw [← hte] at CE
  obtain ⟨kd, hkd⟩ : ∃ k, k = kindOf flushes te := ⟨_, rfl⟩
  have KD := Lib.hid (fun w2 (t2 : Tab w2) => kind_flushes te w2 t2.fl)
  rw [← hkd] at KD
  have SP := Lib.hid (show guess 21 L = ⟨21, 31, 0, 0, 0, kd⟩ by
    simp [guess, hn, hkd, hte])
  have gm : min (1 : Int) 0 = 0 := by decide
  clear ht h hs hn hte hkd
  go_enter Tryd.func34, Tryd.ntmps34
  go_upto_region 2 with fail
  refine to_cls ?_
  intro U0 hU0 y0
  have r_b : ∀ z : Wb U0, Row z.at (w.heap.size) [.int .i64 0, .int .i64 0, .int .i64 0, .int .i64 0, .int .i64 0, .int .i64 0] 23 := Row.next (Row.old (Row.new' _ [.int .i64 0, .int .i64 0, .int .i64 0, .int .i64 0, .int .i64 0, .int .i64 0] _ _ (by simp)) _) hU0
  have r_c : ∀ z : Wb U0, Row z.at (w.heap.size + 1) [.int .i64 21, .int .i64 0, .int .i64 0, .int .i64 0, .int .i64 0, .int .i64 0] 23 := Row.next (Row.new' _ [.int .i64 21, .int .i64 0, .int .i64 0, .int .i64 0, .int .i64 0, .int .i64 0] _ _ (by simp)) hU0
  have KK := Lib.hid (KB.next (KB.alloc (KB.alloc (Below.refl _ _) _) _) hU0)
  have TZ := Lib.hid (fun z : Wb U0 => ((TH.out.below (KB.alloc (KB.alloc (Below.refl w.heap.size w) _) _)).below hU0).below z.bel)
  have SZ := Lib.hid (fun z : Wb U0 => ((SH.out.below (KB.alloc (KB.alloc (Below.refl w.heap.size w) _) _)).below hU0).below z.bel)
  clear hU0
  obtain ⟨c_b_0, c_b_1, c_b_2, c_b_3, c_b_4, c_b_5⟩ := six r_b
  obtain ⟨c_c_0, c_c_1, c_c_2, c_c_3, c_c_4, c_c_5⟩ := six r_c
  have f_b := rfree r_b
  have f_c := rfree r_c
  have ce := keepc KK CE
  have ce0 : ∀ z : Wb U0, z.at.cell? (a.add 0) = some (.string (strL te)) := ce
  go_upto_region 40 with fail
  refine to_cls ?_
  intro U1 hU1 y1
  clear c_b_0 c_b_1 c_b_2 c_b_3 c_b_4 c_b_5 c_c_0 c_c_1 c_c_2 c_c_3 c_c_4 c_c_5 f_b f_c ce ce0
  have r_b : ∀ z : Wb U1, Row z.at (w.heap.size) [.int .i64 0, .int .i64 0, .int .i64 0, .int .i64 0, .int .i64 0, .int .i64 0] 23 := Row.next ((r_b y0).oth (by omega) _ _) hU1
  have r_c : ∀ z : Wb U1, Row z.at (w.heap.size + 1) [.int .i64 21, .int .i64 31, .int .i64 0, .int .i64 0, .int .i64 0, .int .i64 0] 23 := Row.next ((r_c y0).set _ _) hU1
  have KK := Lib.hid (KB.next (KB.put (KK.out y0) (by omega) _ _) hU1)
  clear hU1
  obtain ⟨c_b_0, c_b_1, c_b_2, c_b_3, c_b_4, c_b_5⟩ := six r_b
  obtain ⟨c_c_0, c_c_1, c_c_2, c_c_3, c_c_4, c_c_5⟩ := six r_c
  have TZ := Lib.hid fun z => TH.out.below (KK.out z)
  have SZ := Lib.hid fun z => SH.out.below (KK.out z)
  have f_b := rfree r_b
  have f_c := rfree r_c
  have ce := keepc KK CE
  have ce0 : ∀ z : Wb U1, z.at.cell? (a.add 0) = some (.string (strL te)) := ce
  go_wp2_with fail
  refine (KD.out _ (TZ.out y1)).mono ?_
  rintro e w1 ⟨rfl, g⟩
  obtain ⟨y2, rfl⟩ := Wb.next (x := y1) g
  clear g
  go_upto_region 45 with fail
  refine to_cls ?_
  intro U3 hU3 y3
  clear c_b_0 c_b_1 c_b_2 c_b_3 c_b_4 c_b_5 c_c_0 c_c_1 c_c_2 c_c_3 c_c_4 c_c_5 f_b f_c ce ce0
  have r_b : ∀ z : Wb U3, Row z.at (w.heap.size) [.int .i64 0, .int .i64 0, .int .i64 0, .int .i64 0, .int .i64 0, .int .i64 0] 23 := Row.next ((r_b y2).oth (by omega) _ _) hU3
  have r_c : ∀ z : Wb U3, Row z.at (w.heap.size + 1) [.int .i64 21, .int .i64 31, .int .i64 0, .int .i64 0, .int .i64 0, .int .i64 kd] 23 := Row.next ((r_c y2).set _ _) hU3
  have KK := Lib.hid (KB.next (KB.put (KK.out y2) (by omega) _ _) hU3)
  clear hU3
  obtain ⟨c_b_0, c_b_1, c_b_2, c_b_3, c_b_4, c_b_5⟩ := six r_b
  obtain ⟨c_c_0, c_c_1, c_c_2, c_c_3, c_c_4, c_c_5⟩ := six r_c
  have TZ := Lib.hid fun z => TH.out.below (KK.out z)
  have SZ := Lib.hid fun z => SH.out.below (KK.out z)
  have f_b := rfree r_b
  have f_c := rfree r_c
  have ce := keepc KK CE
  have ce0 : ∀ z : Wb U3, z.at.cell? (a.add 0) = some (.string (strL te)) := ce
  go_wp2
  refine bodyPost_ret (v := iv ⟨21, 31, 0, 0, 0, kd⟩) (by simp [results, Tryd.results34, go_sem, iv, *]) rfl ⟨by rw [SP.out], ?_⟩
  repeat' (first | (with_reducible exact KK.out y3) | (with_reducible refine Below.setCell ?_ ?_ _) | (simp; done) | (simp; omega) | omega)

set_option maxRecDepth 100000 in
set_option maxHeartbeats 3200000 in
theorem aguess_21_2 (L : List Tx) (a : Addr) (cap : Nat) (w : World) (ht : Tab w) (h : SlT w (.slice (some a) (2) cap) L) (hs : Short L) (hn : L.length = 2) : Calls Tryd.prog 34 #[.int .i64 21, .slice (some a) (2) cap] w fun e w' => e = .returned (iv (guess 21 L)) ∧ Below w.heap.size w w' := by
  have TH := Lib.hid ht
  have SH := Lib.hid h
  obtain ⟨te, hte⟩ : ∃ t, t = L.getD 1 [] := ⟨_, rfl⟩
  have CE := Lib.hid (show w.cell? (⟨a.block, a.off + 1, none⟩) = _ from slT_at h 1 (by omega))
  rw [← hte] at CE
  obtain ⟨kd, hkd⟩ : ∃ k, k = kindOf flushes te := ⟨_, rfl⟩
  have KD := Lib.hid (fun w2 (t2 : Tab w2) => kind_flushes te w2 t2.fl)
  rw [← hkd] at KD
  have SP := Lib.hid (show guess 21 L = ⟨21, 31, 0, 0, 0, kd⟩ by
    simp [guess, hn, hkd, hte])
  clear ht h hs hn hte hkd
  go_enter Tryd.func34, Tryd.ntmps34
  go_upto_region 2 with fail
  refine to_cls ?_
  intro U0 hU0 y0
  have r_b : ∀ z : Wb U0, Row z.at (w.heap.size) [.int .i64 0, .int .i64 0, .int .i64 0, .int .i64 0, .int .i64 0, .int .i64 0] 23 := Row.next (Row.old (Row.new' _ [.int .i64 0, .int .i64 0, .int .i64 0, .int .i64 0, .int .i64 0, .int .i64 0] _ _ (by simp)) _) hU0
  have r_c : ∀ z : Wb U0, Row z.at (w.heap.size + 1) [.int .i64 21, .int .i64 0, .int .i64 0, .int .i64 0, .int .i64 0, .int .i64 0] 23 := Row.next (Row.new' _ [.int .i64 21, .int .i64 0, .int .i64 0, .int .i64 0, .int .i64 0, .int .i64 0] _ _ (by simp)) hU0
  have KK := Lib.hid (KB.next (KB.alloc (KB.alloc (Below.refl _ _) _) _) hU0)
  have TZ := Lib.hid (fun z : Wb U0 => ((TH.out.below (KB.alloc (KB.alloc (Below.refl w.heap.size w) _) _)).below hU0).below z.bel)
  have SZ := Lib.hid (fun z : Wb U0 => ((SH.out.below (KB.alloc (KB.alloc (Below.refl w.heap.size w) _) _)).below hU0).below z.bel)
  clear hU0
  obtain ⟨c_b_0, c_b_1, c_b_2, c_b_3, c_b_4, c_b_5⟩ := six r_b
  obtain ⟨c_c_0, c_c_1, c_c_2, c_c_3, c_c_4, c_c_5⟩ := six r_c
  have f_b := rfree r_b
  have f_c := rfree r_c
  have ce := keepc KK CE
  go_upto_region 40 with fail
  refine to_cls ?_
  intro U1 hU1 y1
  clear c_b_0 c_b_1 c_b_2 c_b_3 c_b_4 c_b_5 c_c_0 c_c_1 c_c_2 c_c_3 c_c_4 c_c_5 f_b f_c ce
  have r_b : ∀ z : Wb U1, Row z.at (w.heap.size) [.int .i64 0, .int .i64 0, .int .i64 0, .int .i64 0, .int .i64 0, .int .i64 0] 23 := Row.next ((r_b y0).oth (by omega) _ _) hU1
  have r_c : ∀ z : Wb U1, Row z.at (w.heap.size + 1) [.int .i64 21, .int .i64 31, .int .i64 0, .int .i64 0, .int .i64 0, .int .i64 0] 23 := Row.next ((r_c y0).set _ _) hU1
  have KK := Lib.hid (KB.next (KB.put (KK.out y0) (by omega) _ _) hU1)
  clear hU1
  obtain ⟨c_b_0, c_b_1, c_b_2, c_b_3, c_b_4, c_b_5⟩ := six r_b
  obtain ⟨c_c_0, c_c_1, c_c_2, c_c_3, c_c_4, c_c_5⟩ := six r_c
  have TZ := Lib.hid fun z => TH.out.below (KK.out z)
  have SZ := Lib.hid fun z => SH.out.below (KK.out z)
  have f_b := rfree r_b
  have f_c := rfree r_c
  have ce := keepc KK CE
  go_wp2_with fail
  refine (KD.out _ (TZ.out y1)).mono ?_
  rintro e w1 ⟨rfl, g⟩
  obtain ⟨y2, rfl⟩ := Wb.next (x := y1) g
  clear g
  go_upto_region 45 with fail
  refine to_cls ?_
  intro U3 hU3 y3
  clear c_b_0 c_b_1 c_b_2 c_b_3 c_b_4 c_b_5 c_c_0 c_c_1 c_c_2 c_c_3 c_c_4 c_c_5 f_b f_c ce
  have r_b : ∀ z : Wb U3, Row z.at (w.heap.size) [.int .i64 0, .int .i64 0, .int .i64 0, .int .i64 0, .int .i64 0, .int .i64 0] 23 := Row.next ((r_b y2).oth (by omega) _ _) hU3
  have r_c : ∀ z : Wb U3, Row z.at (w.heap.size + 1) [.int .i64 21, .int .i64 31, .int .i64 0, .int .i64 0, .int .i64 0, .int .i64 kd] 23 := Row.next ((r_c y2).set _ _) hU3
  have KK := Lib.hid (KB.next (KB.put (KK.out y2) (by omega) _ _) hU3)
  clear hU3
  obtain ⟨c_b_0, c_b_1, c_b_2, c_b_3, c_b_4, c_b_5⟩ := six r_b
  obtain ⟨c_c_0, c_c_1, c_c_2, c_c_3, c_c_4, c_c_5⟩ := six r_c
  have TZ := Lib.hid fun z => TH.out.below (KK.out z)
  have SZ := Lib.hid fun z => SH.out.below (KK.out z)
  have f_b := rfree r_b
  have f_c := rfree r_c
  have ce := keepc KK CE
  go_wp2
  refine bodyPost_ret (v := iv ⟨21, 31, 0, 0, 0, kd⟩) (by simp [results, Tryd.results34, go_sem, iv, *]) rfl ⟨by rw [SP.out], ?_⟩
  repeat' (first | (with_reducible exact KK.out y3) | (with_reducible refine Below.setCell ?_ ?_ _) | (simp; done) | (simp; omega) | omega)

set_option maxRecDepth 100000 in
set_option maxHeartbeats 3200000 in
theorem aguess_21_n (L : List Tx) (a : Addr) (k cap : Nat) (w : World) (ht : Tab w) (h : SlT w (.slice (some a) (k + 1) cap) L) (hs : Short L) (hn : L.length = k + 1) (hk : k ≤ 7) (h2 : 2 ≤ k) : Calls Tryd.prog 34 #[.int .i64 21, .slice (some a) (k + 1) cap] w fun e w' => e = .returned (iv (guess 21 L)) ∧ Below w.heap.size w w' := by
  have TH := Lib.hid ht
  have SH := Lib.hid h
  obtain ⟨te, hte⟩ : ∃ t, t = L.getD k [] := ⟨_, rfl⟩
  have CE := Lib.hid (show w.cell? (a.add k) = _ from slT_at h k (by omega))
  rw [← hte] at CE
  obtain ⟨t1, ht1⟩ : ∃ t, t = L.getD 1 [] := ⟨_, rfl⟩
  have C1 := Lib.hid (show w.cell? (⟨a.block, a.off + 1, none⟩) = _ from slT_at h 1 (by omega))
  rw [← ht1] at C1
  obtain ⟨r3, hr3⟩ : ∃ r, r = register L 3 := ⟨_, rfl⟩
  have R3 := Lib.hid (fun w2 (t2 : Tab w2) (s2 : SlT w2 (.slice (some a) (k + 1) cap) L) => aregister_any L _ 3 w2 t2.tb s2 (by omega))
  rw [← hr3] at R3
  obtain ⟨kd, hkd⟩ : ∃ k, k = kindOf flushes t1 := ⟨_, rfl⟩
  have KD := Lib.hid (fun w2 (t2 : Tab w2) => kind_flushes t1 w2 t2.fl)
  rw [← hkd] at KD
  have SP := Lib.hid (show guess 21 L = ⟨21, r3, 0, 0, 0, kd⟩ by
    have m1 : min 1 k = 1 := by omega
    simp [guess, hn, hr3, hkd, ht1, m1]
    omega)
  have n0 : (0 : Int) ≤ (k : Int) := by omega
  have n1 : (k : Int) ≤ 7 := by omega
  have n2 : ((k + 1 : Nat) : Int) = (k : Int) + 1 := by omega
  have n3 : (k : Int) < (k : Int) + 1 := by omega
  have n4 : (k : Int) + 1 - 1 = (k : Int) := by omega
  have g1 : (2 : Int) < (k : Int) + 1 := by omega
  have g2 : min (1 : Int) (k : Int) = 1 := by omega
  have g3 : (1 : Int) ≤ (k : Int) := by omega
  clear h2
  clear ht h hs hn hte hk ht1 hr3 hkd
  go_enter Tryd.func34, Tryd.ntmps34
  go_upto_region 2 with fail
  refine to_cls ?_
  intro U0 hU0 y0
  have r_b : ∀ z : Wb U0, Row z.at (w.heap.size) [.int .i64 0, .int .i64 0, .int .i64 0, .int .i64 0, .int .i64 0, .int .i64 0] 23 := Row.next (Row.old (Row.new' _ [.int .i64 0, .int .i64 0, .int .i64 0, .int .i64 0, .int .i64 0, .int .i64 0] _ _ (by simp)) _) hU0
  have r_c : ∀ z : Wb U0, Row z.at (w.heap.size + 1) [.int .i64 21, .int .i64 0, .int .i64 0, .int .i64 0, .int .i64 0, .int .i64 0] 23 := Row.next (Row.new' _ [.int .i64 21, .int .i64 0, .int .i64 0, .int .i64 0, .int .i64 0, .int .i64 0] _ _ (by simp)) hU0
  have KK := Lib.hid (KB.next (KB.alloc (KB.alloc (Below.refl _ _) _) _) hU0)
  have TZ := Lib.hid (fun z : Wb U0 => ((TH.out.below (KB.alloc (KB.alloc (Below.refl w.heap.size w) _) _)).below hU0).below z.bel)
  have SZ := Lib.hid (fun z : Wb U0 => ((SH.out.below (KB.alloc (KB.alloc (Below.refl w.heap.size w) _) _)).below hU0).below z.bel)
  clear hU0
  obtain ⟨c_b_0, c_b_1, c_b_2, c_b_3, c_b_4, c_b_5⟩ := six r_b
  obtain ⟨c_c_0, c_c_1, c_c_2, c_c_3, c_c_4, c_c_5⟩ := six r_c
  have f_b := rfree r_b
  have f_c := rfree r_c
  have ce := keepc KK CE
  have ct1 := keepc KK C1
  go_upto_region 40 with fail
  refine to_cls ?_
  intro U1 hU1 y1
  clear c_b_0 c_b_1 c_b_2 c_b_3 c_b_4 c_b_5 c_c_0 c_c_1 c_c_2 c_c_3 c_c_4 c_c_5 f_b f_c ce ct1
  have r_b : ∀ z : Wb U1, Row z.at (w.heap.size) [.int .i64 0, .int .i64 0, .int .i64 0, .int .i64 0, .int .i64 0, .int .i64 0] 23 := Row.next ((r_b y0).oth (by omega) _ _) hU1
  have r_c : ∀ z : Wb U1, Row z.at (w.heap.size + 1) [.int .i64 21, .int .i64 31, .int .i64 0, .int .i64 0, .int .i64 0, .int .i64 0] 23 := Row.next ((r_c y0).set _ _) hU1
  have KK := Lib.hid (KB.next (KB.put (KK.out y0) (by omega) _ _) hU1)
  clear hU1
  obtain ⟨c_b_0, c_b_1, c_b_2, c_b_3, c_b_4, c_b_5⟩ := six r_b
  obtain ⟨c_c_0, c_c_1, c_c_2, c_c_3, c_c_4, c_c_5⟩ := six r_c
  have TZ := Lib.hid fun z => TH.out.below (KK.out z)
  have SZ := Lib.hid fun z => SH.out.below (KK.out z)
  have f_b := rfree r_b
  have f_c := rfree r_c
  have ce := keepc KK CE
  have ct1 := keepc KK C1
  go_wp2_with fail
  refine (R3.out _ (TZ.out y1) (SZ.out y1)).mono ?_
  rintro e w1 ⟨rfl, g⟩
  obtain ⟨y2, rfl⟩ := Wb.next (x := y1) g
  clear g
  go_upto_region 42 with fail
  refine to_cls ?_
  intro U3 hU3 y3
  clear c_b_0 c_b_1 c_b_2 c_b_3 c_b_4 c_b_5 c_c_0 c_c_1 c_c_2 c_c_3 c_c_4 c_c_5 f_b f_c ce ct1
  have r_b : ∀ z : Wb U3, Row z.at (w.heap.size) [.int .i64 0, .int .i64 0, .int .i64 0, .int .i64 0, .int .i64 0, .int .i64 0] 23 := Row.next ((r_b y2).oth (by omega) _ _) hU3
  have r_c : ∀ z : Wb U3, Row z.at (w.heap.size + 1) [.int .i64 21, .int .i64 r3, .int .i64 0, .int .i64 0, .int .i64 0, .int .i64 0] 23 := Row.next ((r_c y2).set _ _) hU3
  have KK := Lib.hid (KB.next (KB.put (KK.out y2) (by omega) _ _) hU3)
  clear hU3
  obtain ⟨c_b_0, c_b_1, c_b_2, c_b_3, c_b_4, c_b_5⟩ := six r_b
  obtain ⟨c_c_0, c_c_1, c_c_2, c_c_3, c_c_4, c_c_5⟩ := six r_c
  have TZ := Lib.hid fun z => TH.out.below (KK.out z)
  have SZ := Lib.hid fun z => SH.out.below (KK.out z)
  have f_b := rfree r_b
  have f_c := rfree r_c
  have ce := keepc KK CE
  have ct1 := keepc KK C1
  go_wp2_with fail
  refine (KD.out _ (TZ.out y3)).mono ?_
  rintro e w1 ⟨rfl, g⟩
  obtain ⟨y4, rfl⟩ := Wb.next (x := y3) g
  clear g
  go_upto_region 45 with fail
  refine to_cls ?_
  intro U5 hU5 y5
  clear c_b_0 c_b_1 c_b_2 c_b_3 c_b_4 c_b_5 c_c_0 c_c_1 c_c_2 c_c_3 c_c_4 c_c_5 f_b f_c ce ct1
  have r_b : ∀ z : Wb U5, Row z.at (w.heap.size) [.int .i64 0, .int .i64 0, .int .i64 0, .int .i64 0, .int .i64 0, .int .i64 0] 23 := Row.next ((r_b y4).oth (by omega) _ _) hU5
  have r_c : ∀ z : Wb U5, Row z.at (w.heap.size + 1) [.int .i64 21, .int .i64 r3, .int .i64 0, .int .i64 0, .int .i64 0, .int .i64 kd] 23 := Row.next ((r_c y4).set _ _) hU5
  have KK := Lib.hid (KB.next (KB.put (KK.out y4) (by omega) _ _) hU5)
  clear hU5
  obtain ⟨c_b_0, c_b_1, c_b_2, c_b_3, c_b_4, c_b_5⟩ := six r_b
  obtain ⟨c_c_0, c_c_1, c_c_2, c_c_3, c_c_4, c_c_5⟩ := six r_c
  have TZ := Lib.hid fun z => TH.out.below (KK.out z)
  have SZ := Lib.hid fun z => SH.out.below (KK.out z)
  have f_b := rfree r_b
  have f_c := rfree r_c
  have ce := keepc KK CE
  have ct1 := keepc KK C1
  go_wp2
  refine bodyPost_ret (v := iv ⟨21, r3, 0, 0, 0, kd⟩) (by simp [results, Tryd.results34, go_sem, iv, *]) rfl ⟨by rw [SP.out], ?_⟩
  repeat' (first | (with_reducible exact KK.out y5) | (with_reducible refine Below.setCell ?_ ?_ _) | (simp; done) | (simp; omega) | omega)

set_option maxRecDepth 100000 in
set_option maxHeartbeats 3200000 in
theorem aguess_23 (L : List Tx) (a : Addr) (k cap : Nat) (w : World) (ht : Tab w) (h : SlT w (.slice (some a) (k + 1) cap) L) (hs : Short L) (hn : L.length = k + 1) (hk : k ≤ 7) : Calls Tryd.prog 34 #[.int .i64 23, .slice (some a) (k + 1) cap] w fun e w' => e = .returned (iv (guess 23 L)) ∧ Below w.heap.size w w' := by
  have TH := Lib.hid ht
  have SH := Lib.hid h
  obtain ⟨te, hte⟩ : ∃ t, t = L.getD k [] := ⟨_, rfl⟩
  have CE := Lib.hid (show w.cell? (a.add k) = _ from slT_at h k (by omega))
  rw [← hte] at CE
  obtain ⟨r1, hr1⟩ : ∃ r, r = register L 1 := ⟨_, rfl⟩
  have R1 := Lib.hid (fun w2 (t2 : Tab w2) (s2 : SlT w2 (.slice (some a) (k + 1) cap) L) => aregister_any L _ 1 w2 t2.tb s2 (by omega))
  rw [← hr1] at R1
  obtain ⟨kd, hkd⟩ : ∃ k, k = kindOf systems te := ⟨_, rfl⟩
  have KD := Lib.hid (fun w2 (t2 : Tab w2) => kind_systems te w2 t2.sy)
  rw [← hkd] at KD
  have SP := Lib.hid (show guess 23 L = ⟨23, r1, 0, 0, 0, kd⟩ by
    simp [guess, hr1, hkd, hte, last_is hn])
  have n0 : (0 : Int) ≤ (k : Int) := by omega
  have n1 : (k : Int) ≤ 7 := by omega
  have n2 : ((k + 1 : Nat) : Int) = (k : Int) + 1 := by omega
  have n3 : (k : Int) < (k : Int) + 1 := by omega
  have n4 : (k : Int) + 1 - 1 = (k : Int) := by omega
  clear ht h hs hn hte hk hr1 hkd
  go_enter Tryd.func34, Tryd.ntmps34
  go_upto_region 2 with fail
  refine to_cls ?_
  intro U0 hU0 y0
  have r_b : ∀ z : Wb U0, Row z.at (w.heap.size) [.int .i64 0, .int .i64 0, .int .i64 0, .int .i64 0, .int .i64 0, .int .i64 0] 23 := Row.next (Row.old (Row.new' _ [.int .i64 0, .int .i64 0, .int .i64 0, .int .i64 0, .int .i64 0, .int .i64 0] _ _ (by simp)) _) hU0
  have r_c : ∀ z : Wb U0, Row z.at (w.heap.size + 1) [.int .i64 23, .int .i64 0, .int .i64 0, .int .i64 0, .int .i64 0, .int .i64 0] 23 := Row.next (Row.new' _ [.int .i64 23, .int .i64 0, .int .i64 0, .int .i64 0, .int .i64 0, .int .i64 0] _ _ (by simp)) hU0
  have KK := Lib.hid (KB.next (KB.alloc (KB.alloc (Below.refl _ _) _) _) hU0)
  have TZ := Lib.hid (fun z : Wb U0 => ((TH.out.below (KB.alloc (KB.alloc (Below.refl w.heap.size w) _) _)).below hU0).below z.bel)
  have SZ := Lib.hid (fun z : Wb U0 => ((SH.out.below (KB.alloc (KB.alloc (Below.refl w.heap.size w) _) _)).below hU0).below z.bel)
  clear hU0
  obtain ⟨c_b_0, c_b_1, c_b_2, c_b_3, c_b_4, c_b_5⟩ := six r_b
  obtain ⟨c_c_0, c_c_1, c_c_2, c_c_3, c_c_4, c_c_5⟩ := six r_c
  have f_b := rfree r_b
  have f_c := rfree r_c
  have ce := keepc KK CE
  go_wp2_with fail
  refine (R1.out _ (TZ.out y0) (SZ.out y0)).mono ?_
  rintro e w1 ⟨rfl, g⟩
  obtain ⟨y1, rfl⟩ := Wb.next (x := y0) g
  clear g
  go_wp2_with fail
  refine (KD.out _ (TZ.out y1)).mono ?_
  rintro e w1 ⟨rfl, g⟩
  obtain ⟨y2, rfl⟩ := Wb.next (x := y1) g
  clear g
  go_upto_region 45 with fail
  refine to_cls ?_
  intro U3 hU3 y3
  clear c_b_0 c_b_1 c_b_2 c_b_3 c_b_4 c_b_5 c_c_0 c_c_1 c_c_2 c_c_3 c_c_4 c_c_5 f_b f_c ce
  have r_b : ∀ z : Wb U3, Row z.at (w.heap.size) [.int .i64 0, .int .i64 0, .int .i64 0, .int .i64 0, .int .i64 0, .int .i64 0] 23 := Row.next (((r_b y2).oth (by omega) _ _).oth (by omega) _ _) hU3
  have r_c : ∀ z : Wb U3, Row z.at (w.heap.size + 1) [.int .i64 23, .int .i64 r1, .int .i64 0, .int .i64 0, .int .i64 0, .int .i64 kd] 23 := Row.next (((r_c y2).set _ _).set _ _) hU3
  have KK := Lib.hid (KB.next (KB.put (KB.put (KK.out y2) (by omega) _ _) (by omega) _ _) hU3)
  clear hU3
  obtain ⟨c_b_0, c_b_1, c_b_2, c_b_3, c_b_4, c_b_5⟩ := six r_b
  obtain ⟨c_c_0, c_c_1, c_c_2, c_c_3, c_c_4, c_c_5⟩ := six r_c
  have TZ := Lib.hid fun z => TH.out.below (KK.out z)
  have SZ := Lib.hid fun z => SH.out.below (KK.out z)
  have f_b := rfree r_b
  have f_c := rfree r_c
  have ce := keepc KK CE
  go_wp2
  refine bodyPost_ret (v := iv ⟨23, r1, 0, 0, 0, kd⟩) (by simp [results, Tryd.results34, go_sem, iv, *]) rfl ⟨by rw [SP.out], ?_⟩
  repeat' (first | (with_reducible exact KK.out y3) | (with_reducible refine Below.setCell ?_ ?_ _) | (simp; done) | (simp; omega) | omega)

set_option maxRecDepth 100000 in
set_option maxHeartbeats 3200000 in
theorem aguess_20 (L : List Tx) (a : Addr) (k cap : Nat) (w : World) (ht : Tab w) (h : SlT w (.slice (some a) (k + 1) cap) L) (hs : Short L) (hn : L.length = k + 1) (hk : k ≤ 7) : Calls Tryd.prog 34 #[.int .i64 20, .slice (some a) (k + 1) cap] w fun e w' => e = .returned (iv (guess 20 L)) ∧ Below w.heap.size w w' := by
  have TH := Lib.hid ht
  have SH := Lib.hid h
  obtain ⟨te, hte⟩ : ∃ t, t = L.getD k [] := ⟨_, rfl⟩
  have CE := Lib.hid (show w.cell? (a.add k) = _ from slT_at h k (by omega))
  rw [← hte] at CE
  have SP := Lib.hid (show guess 20 L = ⟨20, 0, 0, 0, 0, 0⟩ by
    simp [guess])
  have n0 : (0 : Int) ≤ (k : Int) := by omega
  have n1 : (k : Int) ≤ 7 := by omega
  have n2 : ((k + 1 : Nat) : Int) = (k : Int) + 1 := by omega
  have n3 : (k : Int) < (k : Int) + 1 := by omega
  have n4 : (k : Int) + 1 - 1 = (k : Int) := by omega
  clear ht h hs hn hte hk
  go_enter Tryd.func34, Tryd.ntmps34
  go_upto_region 2 with fail
  refine to_cls ?_
  intro U0 hU0 y0
  have r_b : ∀ z : Wb U0, Row z.at (w.heap.size) [.int .i64 0, .int .i64 0, .int .i64 0, .int .i64 0, .int .i64 0, .int .i64 0] 23 := Row.next (Row.old (Row.new' _ [.int .i64 0, .int .i64 0, .int .i64 0, .int .i64 0, .int .i64 0, .int .i64 0] _ _ (by simp)) _) hU0
  have r_c : ∀ z : Wb U0, Row z.at (w.heap.size + 1) [.int .i64 20, .int .i64 0, .int .i64 0, .int .i64 0, .int .i64 0, .int .i64 0] 23 := Row.next (Row.new' _ [.int .i64 20, .int .i64 0, .int .i64 0, .int .i64 0, .int .i64 0, .int .i64 0] _ _ (by simp)) hU0
  have KK := Lib.hid (KB.next (KB.alloc (KB.alloc (Below.refl _ _) _) _) hU0)
  have TZ := Lib.hid (fun z : Wb U0 => ((TH.out.below (KB.alloc (KB.alloc (Below.refl w.heap.size w) _) _)).below hU0).below z.bel)
  have SZ := Lib.hid (fun z : Wb U0 => ((SH.out.below (KB.alloc (KB.alloc (Below.refl w.heap.size w) _) _)).below hU0).below z.bel)
  clear hU0
  obtain ⟨c_b_0, c_b_1, c_b_2, c_b_3, c_b_4, c_b_5⟩ := six r_b
  obtain ⟨c_c_0, c_c_1, c_c_2, c_c_3, c_c_4, c_c_5⟩ := six r_c
  have f_b := rfree r_b
  have f_c := rfree r_c
  have ce := keepc KK CE
  go_wp2
  refine bodyPost_ret (v := iv ⟨20, 0, 0, 0, 0, 0⟩) (by simp [results, Tryd.results34, go_sem, iv, *]) rfl ⟨by rw [SP.out], ?_⟩
  repeat' (first | (with_reducible exact KK.out y0) | (with_reducible refine Below.setCell ?_ ?_ _) | (simp; done) | (simp; omega) | omega)

set_option maxRecDepth 100000 in
set_option maxHeartbeats 3200000 in
theorem aguess_22 (L : List Tx) (a : Addr) (k cap : Nat) (w : World) (ht : Tab w) (h : SlT w (.slice (some a) (k + 1) cap) L) (hs : Short L) (hn : L.length = k + 1) (hk : k ≤ 7) : Calls Tryd.prog 34 #[.int .i64 22, .slice (some a) (k + 1) cap] w fun e w' => e = .returned (iv (guess 22 L)) ∧ Below w.heap.size w w' := by
  have TH := Lib.hid ht
  have SH := Lib.hid h
  obtain ⟨te, hte⟩ : ∃ t, t = L.getD k [] := ⟨_, rfl⟩
  have CE := Lib.hid (show w.cell? (a.add k) = _ from slT_at h k (by omega))
  rw [← hte] at CE
  have SP := Lib.hid (show guess 22 L = ⟨22, 0, 0, 0, 0, 0⟩ by
    simp [guess])
  have n0 : (0 : Int) ≤ (k : Int) := by omega
  have n1 : (k : Int) ≤ 7 := by omega
  have n2 : ((k + 1 : Nat) : Int) = (k : Int) + 1 := by omega
  have n3 : (k : Int) < (k : Int) + 1 := by omega
  have n4 : (k : Int) + 1 - 1 = (k : Int) := by omega
  clear ht h hs hn hte hk
  go_enter Tryd.func34, Tryd.ntmps34
  go_upto_region 2 with fail
  refine to_cls ?_
  intro U0 hU0 y0
  have r_b : ∀ z : Wb U0, Row z.at (w.heap.size) [.int .i64 0, .int .i64 0, .int .i64 0, .int .i64 0, .int .i64 0, .int .i64 0] 23 := Row.next (Row.old (Row.new' _ [.int .i64 0, .int .i64 0, .int .i64 0, .int .i64 0, .int .i64 0, .int .i64 0] _ _ (by simp)) _) hU0
  have r_c : ∀ z : Wb U0, Row z.at (w.heap.size + 1) [.int .i64 22, .int .i64 0, .int .i64 0, .int .i64 0, .int .i64 0, .int .i64 0] 23 := Row.next (Row.new' _ [.int .i64 22, .int .i64 0, .int .i64 0, .int .i64 0, .int .i64 0, .int .i64 0] _ _ (by simp)) hU0
  have KK := Lib.hid (KB.next (KB.alloc (KB.alloc (Below.refl _ _) _) _) hU0)
  have TZ := Lib.hid (fun z : Wb U0 => ((TH.out.below (KB.alloc (KB.alloc (Below.refl w.heap.size w) _) _)).below hU0).below z.bel)
  have SZ := Lib.hid (fun z : Wb U0 => ((SH.out.below (KB.alloc (KB.alloc (Below.refl w.heap.size w) _) _)).below hU0).below z.bel)
  clear hU0
  obtain ⟨c_b_0, c_b_1, c_b_2, c_b_3, c_b_4, c_b_5⟩ := six r_b
  obtain ⟨c_c_0, c_c_1, c_c_2, c_c_3, c_c_4, c_c_5⟩ := six r_c
  have f_b := rfree r_b
  have f_c := rfree r_c
  have ce := keepc KK CE
  go_wp2
  refine bodyPost_ret (v := iv ⟨22, 0, 0, 0, 0, 0⟩) (by simp [results, Tryd.results34, go_sem, iv, *]) rfl ⟨by rw [SP.out], ?_⟩
  repeat' (first | (with_reducible exact KK.out y0) | (with_reducible refine Below.setCell ?_ ?_ _) | (simp; done) | (simp; omega) | omega)

end Go.Proofs.YtebpmngllljkaaaDoor
