/-
  Layer 1, the laws' walks: RelMerges, RelSpreads, RelOrder.
-/
import Derived.Test.YtjgfnemdklljmaaAs
set_option linter.unusedSimpArgs false
set_option linter.unusedVariables false
namespace Go.Proofs.Ytjgfnemdklljmaa
open Go.RowKit GrR
theorem same_no (A B n m : Nat) (T U : Mx) (w : World) (h : RelAt w A n T) (k : RelAt w B m U) (e : n ≠ m) :
    Calls Try.prog 25 #[.pointer (some ⟨A, 0, none⟩), .pointer (some ⟨B, 0, none⟩)] w fun e w' => e = .returned (.bool false) ∧ Below w.heap.size w w' :=
  (same_any A B n m T U w h k).mono fun _ w' ⟨h1, h2⟩ => ⟨by rw [h1]; simp [e], h2⟩

set_option maxRecDepth 100000 in
set_option maxHeartbeats 6400000 in
theorem RelMerges_walk (n : Int) (v v2 : Value) (P Q : List Pr) (w : World) (h : SlP w v P) (h2 : SlP w v2 Q) :
    Calls Try.prog 5 #[.int .i64 n, v, v2] w fun e w' => e = .returned (.bool true) ∧ Below w.heap.size w w' := by
  have S0 := Lib.hid h
  have Q0 := Lib.hid h2
  clear h h2
  have AW := Lib.hid (fun w => awake_any w)
  go_enter Try.func5, Try.ntmps5
  go_wp2_with fail
  refine (AW.out _).mono ?_
  rintro e w1 ⟨rfl, hb⟩
  have BW_1 := Lib.hid (hb)
  clear hb
  go_wp2_with fail
  refine (bothZ n _ P _ (S0.out.below BW_1.out)).mono ?_
  rintro e w2 ⟨pr, rfl, hb, hp⟩
  have BW_2 := Lib.hid (BW_1.out.trans (hb.mono BW_1.out.size))
  clear BW_1
  clear hb
  rcases hp with rfl | ⟨m1, B1, O1, e1, l1, rfl, hr, ht, lo1, hi1⟩
  ·
    go_wp2_with fail
    refine (bothZ n _ Q _ (Q0.out.below (BW_2.out))).mono ?_
    rintro e w23 ⟨pr, rfl, hb, hp⟩
    have NW_3 := Lib.hid (BW_2.out.trans (hb.mono BW_2.out.size))
    clear hb
    rcases hp with rfl | ⟨m9, B9, O9, e9, l9, rfl, hr, ht, lo9, hi9⟩
    · go_wp2; go_ret; exact ⟨rfl, NW_3.out⟩
    · clear hr ht e9 l9 lo9 hi9; go_wp2; go_ret; exact ⟨rfl, NW_3.out⟩
  have R_2 := Lib.hid (hr)
  have T_2 := Lib.hid (ht)
  have SU1 := Lib.hid hr.sup
  subst e1
  clear hr ht
  go_wp2_with fail
  refine (bothZ (m1 : Int) _ Q _ (Q0.out.below BW_2.out)).mono ?_
  rintro e w3 ⟨pr, rfl, hb, hp⟩
  have R_3 := Lib.hid (R_2.out.below hb)
  have T_3 := Lib.hid (T_2.out.below hb)
  have BW_3 := Lib.hid (BW_2.out.trans (hb.mono BW_2.out.size))
  clear R_2 T_2 BW_2
  clear hb
  rcases hp with rfl | ⟨m2, B2, O2, e2, l2, rfl, hr, ht, lo2, hi2⟩
  · go_wp2; go_ret; exact ⟨rfl, BW_3.out⟩
  obtain rfl : m1 = m2 := by omega
  have R2_3 := Lib.hid (hr)
  have T2_3 := Lib.hid (ht)
  have SU2 := Lib.hid hr.sup
  clear hr ht
  go_wp2_with fail
  refine (Union_any B1 B2 m1 _ _ _ R_3.out R2_3.out).mono ?_
  rintro e w4 ⟨XB, _, rfl, hr, hb⟩
  have R_4 := Lib.hid (R_3.out.below hb)
  have T_4 := Lib.hid (T_3.out.below hb)
  have R2_4 := Lib.hid (R2_3.out.below hb)
  have T2_4 := Lib.hid (T2_3.out.below hb)
  have BW_4 := Lib.hid (BW_3.out.trans (hb.mono BW_3.out.size))
  have X_4 := Lib.hid (hr)
  clear R_3 T_3 R2_3 T2_3 BW_3
  clear hr hb
  go_wp2_with fail
  refine (Inter_any B1 B2 m1 _ _ _ R_4.out R2_4.out).mono ?_
  rintro e w5 ⟨YB, _, rfl, hr, hb⟩
  have R_5 := Lib.hid (R_4.out.below hb)
  have T_5 := Lib.hid (T_4.out.below hb)
  have R2_5 := Lib.hid (R2_4.out.below hb)
  have T2_5 := Lib.hid (T2_4.out.below hb)
  have X_5 := Lib.hid (X_4.out.below hb)
  have BW_5 := Lib.hid (BW_4.out.trans (hb.mono BW_4.out.size))
  have Y_5 := Lib.hid (hr)
  clear R_4 T_4 R2_4 T2_4 X_4 BW_4
  clear hr hb
  go_wp2_with fail
  refine (Minus_any B1 B2 m1 _ _ _ R_5.out R2_5.out).mono ?_
  rintro e w6 ⟨ZB, _, rfl, hr, hb⟩
  have R_6 := Lib.hid (R_5.out.below hb)
  have T_6 := Lib.hid (T_5.out.below hb)
  have R2_6 := Lib.hid (R2_5.out.below hb)
  have T2_6 := Lib.hid (T2_5.out.below hb)
  have X_6 := Lib.hid (X_5.out.below hb)
  have Y_6 := Lib.hid (Y_5.out.below hb)
  have BW_6 := Lib.hid (BW_5.out.trans (hb.mono BW_5.out.size))
  have Z_6 := Lib.hid (hr)
  clear R_5 T_5 R2_5 T2_5 X_5 Y_5 BW_5
  clear hr hb
  go_wp2_with fail
  refine (runion_any O1 O2 m1 _ _ _ (by omega) T_6.out T2_6.out).mono ?_
  rintro e w7 ⟨rfl, hr, hb⟩
  have R_7 := Lib.hid (R_6.out.below hb)
  have T_7 := Lib.hid (T_6.out.below hb)
  have R2_7 := Lib.hid (R2_6.out.below hb)
  have T2_7 := Lib.hid (T2_6.out.below hb)
  have X_7 := Lib.hid (X_6.out.below hb)
  have Y_7 := Lib.hid (Y_6.out.below hb)
  have Z_7 := Lib.hid (Z_6.out.below hb)
  have BW_7 := Lib.hid (BW_6.out.trans (hb.mono BW_6.out.size))
  have U_7 := Lib.hid (hr)
  clear R_6 T_6 R2_6 T2_6 X_6 Y_6 Z_6 BW_6
  clear hr hb
  obtain ⟨UO, hUO⟩ : ∃ b, b = w6.heap.size := ⟨_, rfl⟩
  rw [← hUO] at U_7 ⊢
  clear hUO
  go_wp2_with fail
  refine (is_any XB UO m1 _ _ X_7.out U_7.out).mono ?_
  rintro e w8 ⟨rfl, hb⟩
  have R_8 := Lib.hid (R_7.out.below hb)
  have T_8 := Lib.hid (T_7.out.below hb)
  have R2_8 := Lib.hid (R2_7.out.below hb)
  have T2_8 := Lib.hid (T2_7.out.below hb)
  have X_8 := Lib.hid (X_7.out.below hb)
  have Y_8 := Lib.hid (Y_7.out.below hb)
  have Z_8 := Lib.hid (Z_7.out.below hb)
  have U_8 := Lib.hid (U_7.out.below hb)
  have BW_8 := Lib.hid (BW_7.out.trans (hb.mono BW_7.out.size))
  clear R_7 T_7 R2_7 T2_7 X_7 Y_7 Z_7 U_7 BW_7
  clear hb
  go_wp2_with fail
  refine (rminus_any O1 O2 m1 _ _ _ (by omega) T_8.out T2_8.out).mono ?_
  rintro e w9 ⟨rfl, hr, hb⟩
  have R_9 := Lib.hid (R_8.out.below hb)
  have T_9 := Lib.hid (T_8.out.below hb)
  have R2_9 := Lib.hid (R2_8.out.below hb)
  have T2_9 := Lib.hid (T2_8.out.below hb)
  have X_9 := Lib.hid (X_8.out.below hb)
  have Y_9 := Lib.hid (Y_8.out.below hb)
  have Z_9 := Lib.hid (Z_8.out.below hb)
  have U_9 := Lib.hid (U_8.out.below hb)
  have BW_9 := Lib.hid (BW_8.out.trans (hb.mono BW_8.out.size))
  have V_9 := Lib.hid (hr)
  clear R_8 T_8 R2_8 T2_8 X_8 Y_8 Z_8 U_8 BW_8
  clear hr hb
  obtain ⟨VO, hVO⟩ : ∃ b, b = w8.heap.size := ⟨_, rfl⟩
  rw [← hVO] at V_9 ⊢
  clear hVO
  go_wp2_with fail
  refine (is_any ZB VO m1 _ _ Z_9.out V_9.out).mono ?_
  rintro e w10 ⟨rfl, hb⟩
  have R_10 := Lib.hid (R_9.out.below hb)
  have T_10 := Lib.hid (T_9.out.below hb)
  have R2_10 := Lib.hid (R2_9.out.below hb)
  have T2_10 := Lib.hid (T2_9.out.below hb)
  have X_10 := Lib.hid (X_9.out.below hb)
  have Y_10 := Lib.hid (Y_9.out.below hb)
  have Z_10 := Lib.hid (Z_9.out.below hb)
  have U_10 := Lib.hid (U_9.out.below hb)
  have V_10 := Lib.hid (V_9.out.below hb)
  have BW_10 := Lib.hid (BW_9.out.trans (hb.mono BW_9.out.size))
  clear R_9 T_9 R2_9 T2_9 X_9 Y_9 Z_9 U_9 V_9 BW_9
  clear hb
  go_wp2_with fail
  refine (rminus_any O1 O2 m1 _ _ _ (by omega) T_10.out T2_10.out).mono ?_
  rintro e w11 ⟨rfl, hr, hb⟩
  have R_11 := Lib.hid (R_10.out.below hb)
  have T_11 := Lib.hid (T_10.out.below hb)
  have R2_11 := Lib.hid (R2_10.out.below hb)
  have T2_11 := Lib.hid (T2_10.out.below hb)
  have X_11 := Lib.hid (X_10.out.below hb)
  have Y_11 := Lib.hid (Y_10.out.below hb)
  have Z_11 := Lib.hid (Z_10.out.below hb)
  have U_11 := Lib.hid (U_10.out.below hb)
  have V_11 := Lib.hid (V_10.out.below hb)
  have BW_11 := Lib.hid (BW_10.out.trans (hb.mono BW_10.out.size))
  have V2_11 := Lib.hid (hr)
  clear R_10 T_10 R2_10 T2_10 X_10 Y_10 Z_10 U_10 V_10 BW_10
  clear hr hb
  obtain ⟨VP, hVP⟩ : ∃ b, b = w10.heap.size := ⟨_, rfl⟩
  rw [← hVP] at V2_11 ⊢
  clear hVP
  go_wp2_with fail
  refine (rminus_any O1 VP m1 _ _ _ (by omega) T_11.out V2_11.out).mono ?_
  rintro e w12 ⟨rfl, hr, hb⟩
  have R_12 := Lib.hid (R_11.out.below hb)
  have T_12 := Lib.hid (T_11.out.below hb)
  have R2_12 := Lib.hid (R2_11.out.below hb)
  have T2_12 := Lib.hid (T2_11.out.below hb)
  have X_12 := Lib.hid (X_11.out.below hb)
  have Y_12 := Lib.hid (Y_11.out.below hb)
  have Z_12 := Lib.hid (Z_11.out.below hb)
  have U_12 := Lib.hid (U_11.out.below hb)
  have V_12 := Lib.hid (V_11.out.below hb)
  have V2_12 := Lib.hid (V2_11.out.below hb)
  have BW_12 := Lib.hid (BW_11.out.trans (hb.mono BW_11.out.size))
  have V3_12 := Lib.hid (hr.eqT (U := interM (ofM P) (ofM Q)) (fun i j _ _ => by unfold minusM interM; cases ofM P i j <;> cases ofM Q i j <;> rfl))
  clear R_11 T_11 R2_11 T2_11 X_11 Y_11 Z_11 U_11 V_11 V2_11 BW_11
  clear hr hb
  obtain ⟨VQ, hVQ⟩ : ∃ b, b = w11.heap.size := ⟨_, rfl⟩
  rw [← hVQ] at V3_12 ⊢
  clear hVQ
  go_wp2_with fail
  refine (is_any YB VQ m1 _ _ Y_12.out V3_12.out).mono ?_
  rintro e w13 ⟨rfl, hb⟩
  have R_13 := Lib.hid (R_12.out.below hb)
  have T_13 := Lib.hid (T_12.out.below hb)
  have R2_13 := Lib.hid (R2_12.out.below hb)
  have T2_13 := Lib.hid (T2_12.out.below hb)
  have X_13 := Lib.hid (X_12.out.below hb)
  have Y_13 := Lib.hid (Y_12.out.below hb)
  have Z_13 := Lib.hid (Z_12.out.below hb)
  have U_13 := Lib.hid (U_12.out.below hb)
  have V_13 := Lib.hid (V_12.out.below hb)
  have V2_13 := Lib.hid (V2_12.out.below hb)
  have V3_13 := Lib.hid (V3_12.out.below hb)
  have BW_13 := Lib.hid (BW_12.out.trans (hb.mono BW_12.out.size))
  clear R_12 T_12 R2_12 T2_12 X_12 Y_12 Z_12 U_12 V_12 V2_12 V3_12 BW_12
  clear hb
  obtain ⟨q, hq⟩ : ∃ q, q = m1 + 1 := ⟨_, rfl⟩
  have i9 : (m1 : Int) + 1 = (q : Int) := by omega
  have i8 : (m1 : Int) ≤ 40 := by omega
  have HQ := Lib.hid (show m1 ≠ q by omega)
  have HQ2 := Lib.hid (show q ≤ 128 by omega)
  clear hq
  go_wp2_with fail
  refine (new_any q _ HQ2.out).mono ?_
  rintro e w14 ⟨rfl, hr, hb⟩
  have R_14 := Lib.hid (R_13.out.below hb)
  have T_14 := Lib.hid (T_13.out.below hb)
  have R2_14 := Lib.hid (R2_13.out.below hb)
  have T2_14 := Lib.hid (T2_13.out.below hb)
  have X_14 := Lib.hid (X_13.out.below hb)
  have Y_14 := Lib.hid (Y_13.out.below hb)
  have Z_14 := Lib.hid (Z_13.out.below hb)
  have U_14 := Lib.hid (U_13.out.below hb)
  have V_14 := Lib.hid (V_13.out.below hb)
  have V2_14 := Lib.hid (V2_13.out.below hb)
  have V3_14 := Lib.hid (V3_13.out.below hb)
  have BW_14 := Lib.hid (BW_13.out.trans (hb.mono BW_13.out.size))
  have N_14 := Lib.hid (hr)
  clear R_13 T_13 R2_13 T2_13 X_13 Y_13 Z_13 U_13 V_13 V2_13 V3_13 BW_13
  clear hr hb
  obtain ⟨NB, hNB⟩ : ∃ b, b = w13.heap.size := ⟨_, rfl⟩
  rw [← hNB] at N_14 ⊢
  clear hNB
  go_wp2_with fail
  refine (Union_no B1 NB m1 q _ _ _ HQ.out R_14.out N_14.out).mono ?_
  rintro e w15 ⟨rfl, hb⟩
  have R_15 := Lib.hid (R_14.out.below hb)
  have T_15 := Lib.hid (T_14.out.below hb)
  have R2_15 := Lib.hid (R2_14.out.below hb)
  have T2_15 := Lib.hid (T2_14.out.below hb)
  have X_15 := Lib.hid (X_14.out.below hb)
  have Y_15 := Lib.hid (Y_14.out.below hb)
  have Z_15 := Lib.hid (Z_14.out.below hb)
  have U_15 := Lib.hid (U_14.out.below hb)
  have V_15 := Lib.hid (V_14.out.below hb)
  have V2_15 := Lib.hid (V2_14.out.below hb)
  have V3_15 := Lib.hid (V3_14.out.below hb)
  have N_15 := Lib.hid (N_14.out.below hb)
  have BW_15 := Lib.hid (BW_14.out.trans (hb.mono BW_14.out.size))
  clear R_14 T_14 R2_14 T2_14 X_14 Y_14 Z_14 U_14 V_14 V2_14 V3_14 N_14 BW_14
  clear hb
  go_wp2_with fail
  refine (then_no B1 NB m1 q _ _ _ HQ.out R_15.out N_15.out).mono ?_
  rintro e w16 ⟨rfl, hb⟩
  have R_16 := Lib.hid (R_15.out.below hb)
  have T_16 := Lib.hid (T_15.out.below hb)
  have R2_16 := Lib.hid (R2_15.out.below hb)
  have T2_16 := Lib.hid (T2_15.out.below hb)
  have X_16 := Lib.hid (X_15.out.below hb)
  have Y_16 := Lib.hid (Y_15.out.below hb)
  have Z_16 := Lib.hid (Z_15.out.below hb)
  have U_16 := Lib.hid (U_15.out.below hb)
  have V_16 := Lib.hid (V_15.out.below hb)
  have V2_16 := Lib.hid (V2_15.out.below hb)
  have V3_16 := Lib.hid (V3_15.out.below hb)
  have N_16 := Lib.hid (N_15.out.below hb)
  have BW_16 := Lib.hid (BW_15.out.trans (hb.mono BW_15.out.size))
  clear R_15 T_15 R2_15 T2_15 X_15 Y_15 Z_15 U_15 V_15 V2_15 V3_15 N_15 BW_15
  clear hb
  go_wp2_with fail
  refine (same_no B1 NB m1 q _ _ _ R_16.out N_16.out HQ.out).mono ?_
  rintro e w17 ⟨rfl, hb⟩
  have R_17 := Lib.hid (R_16.out.below hb)
  have T_17 := Lib.hid (T_16.out.below hb)
  have R2_17 := Lib.hid (R2_16.out.below hb)
  have T2_17 := Lib.hid (T2_16.out.below hb)
  have X_17 := Lib.hid (X_16.out.below hb)
  have Y_17 := Lib.hid (Y_16.out.below hb)
  have Z_17 := Lib.hid (Z_16.out.below hb)
  have U_17 := Lib.hid (U_16.out.below hb)
  have V_17 := Lib.hid (V_16.out.below hb)
  have V2_17 := Lib.hid (V2_16.out.below hb)
  have V3_17 := Lib.hid (V3_16.out.below hb)
  have N_17 := Lib.hid (N_16.out.below hb)
  have BW_17 := Lib.hid (BW_16.out.trans (hb.mono BW_16.out.size))
  clear R_16 T_16 R2_16 T2_16 X_16 Y_16 Z_16 U_16 V_16 V2_16 V3_16 N_16 BW_16
  clear hb
  go_wp2_with fail
  refine (is_any B1 O1 m1 _ _ R_17.out T_17.out).mono ?_
  rintro e w18 ⟨rfl, hb⟩
  have R_18 := Lib.hid (R_17.out.below hb)
  have T_18 := Lib.hid (T_17.out.below hb)
  have R2_18 := Lib.hid (R2_17.out.below hb)
  have T2_18 := Lib.hid (T2_17.out.below hb)
  have X_18 := Lib.hid (X_17.out.below hb)
  have Y_18 := Lib.hid (Y_17.out.below hb)
  have Z_18 := Lib.hid (Z_17.out.below hb)
  have U_18 := Lib.hid (U_17.out.below hb)
  have V_18 := Lib.hid (V_17.out.below hb)
  have V2_18 := Lib.hid (V2_17.out.below hb)
  have V3_18 := Lib.hid (V3_17.out.below hb)
  have N_18 := Lib.hid (N_17.out.below hb)
  have BW_18 := Lib.hid (BW_17.out.trans (hb.mono BW_17.out.size))
  clear R_17 T_17 R2_17 T2_17 X_17 Y_17 Z_17 U_17 V_17 V2_17 V3_17 N_17 BW_17
  clear hb
  go_wp2_with fail
  refine (is_any B2 O2 m1 _ _ R2_18.out T2_18.out).mono ?_
  rintro e w19 ⟨rfl, hb⟩
  have R_19 := Lib.hid (R_18.out.below hb)
  have T_19 := Lib.hid (T_18.out.below hb)
  have R2_19 := Lib.hid (R2_18.out.below hb)
  have T2_19 := Lib.hid (T2_18.out.below hb)
  have X_19 := Lib.hid (X_18.out.below hb)
  have Y_19 := Lib.hid (Y_18.out.below hb)
  have Z_19 := Lib.hid (Z_18.out.below hb)
  have U_19 := Lib.hid (U_18.out.below hb)
  have V_19 := Lib.hid (V_18.out.below hb)
  have V2_19 := Lib.hid (V2_18.out.below hb)
  have V3_19 := Lib.hid (V3_18.out.below hb)
  have N_19 := Lib.hid (N_18.out.below hb)
  have BW_19 := Lib.hid (BW_18.out.trans (hb.mono BW_18.out.size))
  clear R_18 T_18 R2_18 T2_18 X_18 Y_18 Z_18 U_18 V_18 V2_18 V3_18 N_18 BW_18
  clear hb
  go_wp2
  go_ret
  exact ⟨rfl, BW_19.out⟩
theorem then_union (n : Nat) (A B C : Mx) (i j : Nat) : unionM (thenM n A B) (thenM n A C) i j = thenM n A (unionM B C) i j := by
  rw [Bool.eq_iff_iff]
  simp only [unionM, Bool.or_eq_true, thenM_iff]
  constructor
  · rintro (⟨k, h1, h2, h3⟩ | ⟨k, h1, h2, h3⟩)
    · exact ⟨k, h1, h2, .inl h3⟩
    · exact ⟨k, h1, h2, .inr h3⟩
  · rintro ⟨k, h1, h2, h3 | h3⟩
    · exact .inl ⟨k, h1, h2, h3⟩
    · exact .inr ⟨k, h1, h2, h3⟩

set_option maxRecDepth 100000 in
set_option maxHeartbeats 6400000 in
theorem RelSpreads_walk (v v2 v3 : Value) (P Q S : List Pr) (w : World) (h : SlP w v P) (h2 : SlP w v2 Q) (h3 : SlP w v3 S) :
    Calls Try.prog 12 #[v, v2, v3] w fun e w' => e = .returned (.bool true) ∧ Below w.heap.size w w' := by
  have S0 := Lib.hid h
  have Q0 := Lib.hid h2
  have Z0 := Lib.hid h3
  clear h h2 h3
  have AW := Lib.hid (fun w => awake_any w)
  go_enter Try.func12, Try.ntmps12
  go_wp2_with fail
  refine (AW.out _).mono ?_
  rintro e w1 ⟨rfl, hb⟩
  have BW_1 := Lib.hid (hb)
  clear hb
  go_wp2_with fail
  refine (bothZ 12 _ P _ (S0.out.below BW_1.out)).mono ?_
  rintro e w2 ⟨pr, rfl, hb, hp⟩
  have BW_2 := Lib.hid (BW_1.out.trans (hb.mono BW_1.out.size))
  clear BW_1
  clear hb
  rcases hp with rfl | ⟨m1, B1, O1, e1, l1, rfl, hr, ht, lo1, hi1⟩
  ·
    go_wp2_with fail
    refine (bothZ 12 _ Q _ (Q0.out.below (BW_2.out))).mono ?_
    rintro e w23 ⟨pr, rfl, hb, hp⟩
    have NW_3 := Lib.hid (BW_2.out.trans (hb.mono BW_2.out.size))
    clear hb
    rcases hp with rfl | ⟨m9, B9, O9, e9, l9, rfl, hr, ht, lo9, hi9⟩
    ·
      go_wp2_with fail
      refine (bothZ 12 _ S _ (Z0.out.below (NW_3.out))).mono ?_
      rintro e w24 ⟨pr, rfl, hb, hp⟩
      have NW_4 := Lib.hid (NW_3.out.trans (hb.mono NW_3.out.size))
      clear hb
      rcases hp with rfl | ⟨m9, B9, O9, e9, l9, rfl, hr, ht, lo9, hi9⟩
      · go_wp2; go_ret; exact ⟨rfl, NW_4.out⟩
      · clear hr ht e9 l9 lo9 hi9; go_wp2; go_ret; exact ⟨rfl, NW_4.out⟩
    · clear hr ht e9 l9 lo9 hi9
      go_wp2_with fail
      refine (bothZ 12 _ S _ (Z0.out.below (NW_3.out))).mono ?_
      rintro e w24 ⟨pr, rfl, hb, hp⟩
      have NW_4 := Lib.hid (NW_3.out.trans (hb.mono NW_3.out.size))
      clear hb
      rcases hp with rfl | ⟨m9, B9, O9, e9, l9, rfl, hr, ht, lo9, hi9⟩
      · go_wp2; go_ret; exact ⟨rfl, NW_4.out⟩
      · clear hr ht e9 l9 lo9 hi9; go_wp2; go_ret; exact ⟨rfl, NW_4.out⟩
  obtain rfl : m1 = 12 := by omega
  clear e1
  have R_2 := Lib.hid (hr)
  have T_2 := Lib.hid (ht)
  have SU1 := Lib.hid hr.sup
  clear hr ht
  go_wp2_with fail
  refine (bothZ 12 _ Q _ (Q0.out.below BW_2.out)).mono ?_
  rintro e w3 ⟨pr, rfl, hb, hp⟩
  have R_3 := Lib.hid (R_2.out.below hb)
  have T_3 := Lib.hid (T_2.out.below hb)
  have BW_3 := Lib.hid (BW_2.out.trans (hb.mono BW_2.out.size))
  clear R_2 T_2 BW_2
  clear hb
  rcases hp with rfl | ⟨m2, B2, O2, e2, l2, rfl, hr, ht, lo2, hi2⟩
  ·
    go_wp2_with fail
    refine (bothZ 12 _ S _ (Z0.out.below (BW_3.out))).mono ?_
    rintro e w24 ⟨pr, rfl, hb, hp⟩
    have NW_4 := Lib.hid (BW_3.out.trans (hb.mono BW_3.out.size))
    clear hb
    rcases hp with rfl | ⟨m9, B9, O9, e9, l9, rfl, hr, ht, lo9, hi9⟩
    · go_wp2; go_ret; exact ⟨rfl, NW_4.out⟩
    · clear hr ht e9 l9 lo9 hi9; go_wp2; go_ret; exact ⟨rfl, NW_4.out⟩
  obtain rfl : m2 = 12 := by omega
  clear e2
  have R2_3 := Lib.hid (hr)
  have T2_3 := Lib.hid (ht)
  have SU2 := Lib.hid hr.sup
  clear hr ht
  go_wp2_with fail
  refine (bothZ 12 _ S _ (Z0.out.below BW_3.out)).mono ?_
  rintro e w4 ⟨pr, rfl, hb, hp⟩
  have R_4 := Lib.hid (R_3.out.below hb)
  have T_4 := Lib.hid (T_3.out.below hb)
  have R2_4 := Lib.hid (R2_3.out.below hb)
  have T2_4 := Lib.hid (T2_3.out.below hb)
  have BW_4 := Lib.hid (BW_3.out.trans (hb.mono BW_3.out.size))
  clear R_3 T_3 R2_3 T2_3 BW_3
  clear hb
  rcases hp with rfl | ⟨m3, B3, O3, e3, l3, rfl, hr, ht, lo3, hi3⟩
  · go_wp2; go_ret; exact ⟨rfl, BW_4.out⟩
  obtain rfl : m3 = 12 := by omega
  clear e3
  have R3_4 := Lib.hid (hr)
  have T3_4 := Lib.hid (ht)
  have SU3 := Lib.hid hr.sup
  clear hr ht
  go_wp2_with fail
  refine (Union_any B2 B3 12 _ _ _ R2_4.out R3_4.out).mono ?_
  rintro e w5 ⟨UB, _, rfl, hr, hb⟩
  have R_5 := Lib.hid (R_4.out.below hb)
  have T_5 := Lib.hid (T_4.out.below hb)
  have R2_5 := Lib.hid (R2_4.out.below hb)
  have T2_5 := Lib.hid (T2_4.out.below hb)
  have R3_5 := Lib.hid (R3_4.out.below hb)
  have T3_5 := Lib.hid (T3_4.out.below hb)
  have BW_5 := Lib.hid (BW_4.out.trans (hb.mono BW_4.out.size))
  have U_5 := Lib.hid (hr)
  clear R_4 T_4 R2_4 T2_4 R3_4 T3_4 BW_4
  clear hr hb
  go_wp2_with fail
  refine (then_any B1 UB 12 _ _ _ R_5.out U_5.out).mono ?_
  rintro e w6 ⟨XB, _, rfl, hr, hb⟩
  have R_6 := Lib.hid (R_5.out.below hb)
  have T_6 := Lib.hid (T_5.out.below hb)
  have R2_6 := Lib.hid (R2_5.out.below hb)
  have T2_6 := Lib.hid (T2_5.out.below hb)
  have R3_6 := Lib.hid (R3_5.out.below hb)
  have T3_6 := Lib.hid (T3_5.out.below hb)
  have U_6 := Lib.hid (U_5.out.below hb)
  have BW_6 := Lib.hid (BW_5.out.trans (hb.mono BW_5.out.size))
  have X_6 := Lib.hid (hr)
  clear R_5 T_5 R2_5 T2_5 R3_5 T3_5 U_5 BW_5
  clear hr hb
  go_wp2_with fail
  refine (then_any B1 B2 12 _ _ _ R_6.out R2_6.out).mono ?_
  rintro e w7 ⟨YB, _, rfl, hr, hb⟩
  have R_7 := Lib.hid (R_6.out.below hb)
  have T_7 := Lib.hid (T_6.out.below hb)
  have R2_7 := Lib.hid (R2_6.out.below hb)
  have T2_7 := Lib.hid (T2_6.out.below hb)
  have R3_7 := Lib.hid (R3_6.out.below hb)
  have T3_7 := Lib.hid (T3_6.out.below hb)
  have U_7 := Lib.hid (U_6.out.below hb)
  have X_7 := Lib.hid (X_6.out.below hb)
  have BW_7 := Lib.hid (BW_6.out.trans (hb.mono BW_6.out.size))
  have Y_7 := Lib.hid (hr)
  clear R_6 T_6 R2_6 T2_6 R3_6 T3_6 U_6 X_6 BW_6
  clear hr hb
  go_wp2_with fail
  refine (then_any B1 B3 12 _ _ _ R_7.out R3_7.out).mono ?_
  rintro e w8 ⟨ZB, _, rfl, hr, hb⟩
  have R_8 := Lib.hid (R_7.out.below hb)
  have T_8 := Lib.hid (T_7.out.below hb)
  have R2_8 := Lib.hid (R2_7.out.below hb)
  have T2_8 := Lib.hid (T2_7.out.below hb)
  have R3_8 := Lib.hid (R3_7.out.below hb)
  have T3_8 := Lib.hid (T3_7.out.below hb)
  have U_8 := Lib.hid (U_7.out.below hb)
  have X_8 := Lib.hid (X_7.out.below hb)
  have Y_8 := Lib.hid (Y_7.out.below hb)
  have BW_8 := Lib.hid (BW_7.out.trans (hb.mono BW_7.out.size))
  have Z_8 := Lib.hid (hr)
  clear R_7 T_7 R2_7 T2_7 R3_7 T3_7 U_7 X_7 Y_7 BW_7
  clear hr hb
  go_wp2_with fail
  refine (Union_any YB ZB 12 _ _ _ Y_8.out Z_8.out).mono ?_
  rintro e w9 ⟨WB, _, rfl, hr, hb⟩
  have R_9 := Lib.hid (R_8.out.below hb)
  have T_9 := Lib.hid (T_8.out.below hb)
  have R2_9 := Lib.hid (R2_8.out.below hb)
  have T2_9 := Lib.hid (T2_8.out.below hb)
  have R3_9 := Lib.hid (R3_8.out.below hb)
  have T3_9 := Lib.hid (T3_8.out.below hb)
  have U_9 := Lib.hid (U_8.out.below hb)
  have X_9 := Lib.hid (X_8.out.below hb)
  have Y_9 := Lib.hid (Y_8.out.below hb)
  have Z_9 := Lib.hid (Z_8.out.below hb)
  have BW_9 := Lib.hid (BW_8.out.trans (hb.mono BW_8.out.size))
  have W_9 := Lib.hid (hr)
  clear R_8 T_8 R2_8 T2_8 R3_8 T3_8 U_8 X_8 Y_8 Z_8 BW_8
  clear hr hb
  go_wp2_with fail
  refine (same_yes WB XB 12 _ _ _ W_9.out X_9.out (fun i j => then_union _ _ _ _ i j)).mono ?_
  rintro e w10 ⟨rfl, hb⟩
  have R_10 := Lib.hid (R_9.out.below hb)
  have T_10 := Lib.hid (T_9.out.below hb)
  have R2_10 := Lib.hid (R2_9.out.below hb)
  have T2_10 := Lib.hid (T2_9.out.below hb)
  have R3_10 := Lib.hid (R3_9.out.below hb)
  have T3_10 := Lib.hid (T3_9.out.below hb)
  have U_10 := Lib.hid (U_9.out.below hb)
  have X_10 := Lib.hid (X_9.out.below hb)
  have Y_10 := Lib.hid (Y_9.out.below hb)
  have Z_10 := Lib.hid (Z_9.out.below hb)
  have W_10 := Lib.hid (W_9.out.below hb)
  have BW_10 := Lib.hid (BW_9.out.trans (hb.mono BW_9.out.size))
  clear R_9 T_9 R2_9 T2_9 R3_9 T3_9 U_9 X_9 Y_9 Z_9 W_9 BW_9
  clear hb
  go_wp2
  go_ret
  exact ⟨rfl, BW_10.out⟩

set_option maxRecDepth 100000 in
set_option maxHeartbeats 6400000 in
theorem RelOrder_walk (n : Int) (v : Value) (P : List Pr) (w : World) (h : SlP w v P) :
    Calls Try.prog 8 #[.int .i64 n, v] w fun e w' => e = .returned (.bool true) ∧ Below w.heap.size w w' := by
  have S0 := Lib.hid h
  clear h
  have AW := Lib.hid (fun w => awake_any w)
  go_enter Try.func8, Try.ntmps8
  go_wp2_with fail
  refine (AW.out _).mono ?_
  rintro e w1 ⟨rfl, hb⟩
  have BW_1 := Lib.hid (hb)
  clear hb
  go_wp2_with fail
  refine (bothZ n _ P _ (S0.out.below BW_1.out)).mono ?_
  rintro e w2 ⟨pr, rfl, hb, hp⟩
  have BW_2 := Lib.hid (BW_1.out.trans (hb.mono BW_1.out.size))
  clear BW_1
  clear hb
  rcases hp with rfl | ⟨m1, B1, O1, e1, l1, rfl, hr, ht, lo1, hi1⟩
  · go_wp2; go_ret; exact ⟨rfl, BW_2.out⟩
  have R_2 := Lib.hid (hr)
  have T_2 := Lib.hid (ht)
  have SU1 := Lib.hid hr.sup
  subst e1
  clear hr ht
  obtain ⟨b, hb0⟩ : ∃ b, b = acyc m1 (ofM P) := ⟨_, rfl⟩
  have AC := Lib.hid hb0
  clear hb0
  go_wp2_with fail
  refine (order_any B1 m1 _ _ R_2.out).mono ?_
  rintro e w3 ⟨hb, hp⟩
  have R_3 := Lib.hid (R_2.out.below hb)
  have T_3 := Lib.hid (T_2.out.below hb)
  have BW_3 := Lib.hid (BW_2.out.trans (hb.mono BW_2.out.size))
  clear R_2 T_2 BW_2
  clear hb
  rw [← AC.out] at hp
  have RA := Lib.hid (fun w h => AC.out ▸ racyc_any O1 m1 (ofM P) w (by omega) SU1.out h)
  have RB := Lib.hid (fun w h => AC.out ▸ acyclic_any B1 m1 (ofM P) w h)
  cases b with
  | false =>
    rw [if_neg (by simp)] at hp
    subst hp
    go_wp2_with fail
    refine (RA.out _ T_3.out).mono ?_
    rintro e w4 ⟨rfl, hb⟩
    have R_4 := Lib.hid (R_3.out.below hb)
    have T_4 := Lib.hid (T_3.out.below hb)
    have BW_4 := Lib.hid (BW_3.out.trans (hb.mono BW_3.out.size))
    clear R_3 T_3 BW_3
    clear hb
    go_wp2_with fail
    refine (RB.out _ R_4.out).mono ?_
    rintro e w5 ⟨rfl, hb⟩
    have R_5 := Lib.hid (R_4.out.below hb)
    have T_5 := Lib.hid (T_4.out.below hb)
    have BW_5 := Lib.hid (BW_4.out.trans (hb.mono BW_4.out.size))
    clear R_4 T_4 BW_4
    clear hb
    have RI := Lib.hid (irr_any B1 m1 _ _ R_5.out)
    have RL := Lib.hid (loose_any O1 m1 _ _ (by omega) T_5.out)
    obtain ⟨q, hq⟩ : ∃ q, q = decide (∀ i, i < m1 → ofM P i i = false) := ⟨_, rfl⟩
    rw [← hq] at RI RL
    clear hq
    have qq : (q != q) = false := by simp
    go_wp2_with fail
    refine RI.out.mono ?_
    rintro e w99 ⟨rfl, rfl⟩
    go_wp2_with fail
    refine RL.out.mono ?_
    rintro e w99 ⟨rfl, rfl⟩
    clear qq
    go_wp2
    go_ret
    exact ⟨rfl, BW_5.out⟩
  | true =>
    rw [if_pos rfl] at hp
    obtain ⟨v, rfl, hs⟩ := hp
    obtain ⟨p, mm, c, rfl⟩ := SlAt.form hs
    have E1 := Lib.hid hs.len
    have L1_3 := Lib.hid (hs)
    clear hs
    go_wp2_with fail
    refine (RA.out _ T_3.out).mono ?_
    rintro e w4 ⟨rfl, hb⟩
    have R_4 := Lib.hid (R_3.out.below hb)
    have T_4 := Lib.hid (T_3.out.below hb)
    have L1_4 := Lib.hid (L1_3.out.below hb)
    have BW_4 := Lib.hid (BW_3.out.trans (hb.mono BW_3.out.size))
    clear R_3 T_3 L1_3 BW_3
    clear hb
    go_wp2_with fail
    refine (RB.out _ R_4.out).mono ?_
    rintro e w5 ⟨rfl, hb⟩
    have R_5 := Lib.hid (R_4.out.below hb)
    have T_5 := Lib.hid (T_4.out.below hb)
    have L1_5 := Lib.hid (L1_4.out.below hb)
    have BW_5 := Lib.hid (BW_4.out.trans (hb.mono BW_4.out.size))
    clear R_4 T_4 L1_4 BW_4
    clear hb
    have RI := Lib.hid (irr_any B1 m1 _ _ R_5.out)
    have RL := Lib.hid (loose_any O1 m1 _ _ (by omega) T_5.out)
    obtain ⟨q, hq⟩ : ∃ q, q = decide (∀ i, i < m1 → ofM P i i = false) := ⟨_, rfl⟩
    rw [← hq] at RI RL
    clear hq
    have qq : (q != q) = false := by simp
    go_wp2_with fail
    refine RI.out.mono ?_
    rintro e w99 ⟨rfl, rfl⟩
    go_wp2_with fail
    refine RL.out.mono ?_
    rintro e w99 ⟨rfl, rfl⟩
    clear qq
    go_wp2_with fail
    refine (rorder_any O1 m1 _ _ (by omega) SU1.out AC.out.symm T_5.out).mono ?_
    rintro e w6 ⟨v2, rfl, hs, hb⟩
    have R_6 := Lib.hid (R_5.out.below hb)
    have T_6 := Lib.hid (T_5.out.below hb)
    have L1_6 := Lib.hid (L1_5.out.below hb)
    have BW_6 := Lib.hid (BW_5.out.trans (hb.mono BW_5.out.size))
    have L2_6 := Lib.hid (hs)
    clear R_5 T_5 L1_5 BW_5
    obtain ⟨p2, mm2, c2, rfl⟩ := SlAt.form hs
    have E2 := Lib.hid hs.len
    clear hs hb
    obtain ⟨L, hL⟩ : ∃ L, L = sortL m1 (ofM P) m1 [] := ⟨_, rfl⟩
    have LL := Lib.hid (show L.length ≤ 40 by have := sortL_le SU1.out; rw [hL]; omega)
    rw [← hL] at E1 E2 L1_6 L2_6
    clear hL
    obtain rfl : mm = mm2 := by have := E1.out; have := E2.out; omega
    have mq : ((mm : Int) != (mm : Int)) = false := by simp
    go_wp2_with fail
    clear mq
    go_loopw [11] (fun i wr => ∃ k : Nat, k ≤ mm ∧ i = .int .i64 (k : Int) ∧ Below w6.heap.size w6 wr) (fun i _ => mm - (intOf i).toNat)
    case atStart => exact ⟨0, by omega, rfl, Below.refl _ _⟩
    case round =>
      obtain ⟨k, hk, rfl, hb⟩ := hrel
      have HW := Lib.hid hb
      clear hb
      by_cases ck : k < mm
      · have k1 : (k : Int) < (mm : Int) := by omega
        have k0 : (0 : Int) ≤ (k : Int) := by omega
        have k2 : (mm : Int) ≤ 40 := by have := LL.out; have := E1.out; omega
        have lk : k < L.length := by have := E1.out; omega
        obtain ⟨a1, rfl⟩ := SlN.addr L1_6.out (by omega)
        obtain ⟨a2, rfl⟩ := SlN.addr L2_6.out (by omega)
        have x1 : ∀ z : Wb wr, z.at.cell? (a1.add k) = some (.int .i64 ((L[k] : Nat) : Int)) := fun z => (L1_6.out.below (KB.at HW.out z)).at k lk
        have x2 : ∀ z : Wb wr, z.at.cell? (a2.add k) = some (.int .i64 ((L[k] : Nat) : Int)) := fun z => (L2_6.out.below (KB.at HW.out z)).at k lk
        obtain ⟨u, hu⟩ : ∃ u, u = L[k] := ⟨_, rfl⟩
        rw [← hu] at x1 x2
        clear hu
        have uu : ((u : Int) != (u : Int)) = false := by simp
        go_wp2_with fail
        refine wp_region_wb (by kernel_rfl) (by kernel_rfl) ?_
        repeat (go_big_quiet_step (fail))
        refine wpQuiet_nil ?_
        rintro _ ⟨z, rfl⟩
        clear x1 x2
        have B4 := Lib.hid (KB.at HW.out z)
        go_wp2_with fail
        clear uu
        go_roundw
        case rel => exact ⟨k + 1, by omega, by go_num, B4.out⟩
        case measure => simp [intOf]; omega
      · obtain rfl : k = mm := by omega
        have i2 : ¬ (k : Int) < (k : Int) := by omega
        go_wp2
        go_ret
        exact ⟨rfl, BW_6.out.trans (HW.out.mono BW_6.out.size)⟩
end Go.Proofs.Ytjgfnemdklljmaa
