/-
  Layer 1, the laws' walks: awake, RelClosure, RelThen, RelMerges, RelSpreads.
-/
import Derived.Test.YtjgfnemdklljmaaAr
set_option linter.unusedSimpArgs false
set_option linter.unusedVariables false
namespace GrR
open Go
def P0 : List Pr := [(0, 1), (1, 2)]
theorem P0_ok : okP 3 P0 = true := by decide
theorem P0_has : hasZ 3 (wars (ofM P0) 3) 0 2 = true := by decide
theorem P0_acyc : acyc 3 (ofM P0) = true := by decide
theorem P0_sort : sortL 3 (ofM P0) 3 [] = [0, 1, 2] := by decide
theorem idem {n : Nat} {T : Mx} (s : Sup n T) (i j : Nat) : wars (wars T n) n i j = wars T n i j := by
  rw [Bool.eq_iff_iff, wars_iff (s.wars n), wars_iff s]
  constructor
  · exact fun h => h.mono fun a b e => wars_re T n a b e
  · exact fun h => .one ((wars_iff s i j).2 h)
theorem sameB_of {n : Nat} {T U : Mx} (h : ∀ i j, T i j = U i j) : sameB n T U = true := sameB_iff.2 fun i _ j _ => h i j
end GrR
namespace Go.Proofs.Ytjgfnemdklljmaa
open Go.RowKit GrR
theorem SlN.below {W U : World} {v : Value} {L : List Nat} (h : SlN W v L) (k : Below W.heap.size W U) : SlN U v L := SlAt.below h k
theorem same_yes (A B n : Nat) (T U : Mx) (w : World) (h : RelAt w A n T) (k : RelAt w B n U) (e : ∀ i j, T i j = U i j) :
    Calls Try.prog 25 #[.pointer (some ⟨A, 0, none⟩), .pointer (some ⟨B, 0, none⟩)] w fun e w' => e = .returned (.bool true) ∧ Below w.heap.size w w' :=
  (same_any A B n n T U w h k).mono fun _ w' ⟨h1, h2⟩ => ⟨by rw [h1, sameB_of e]; simp, h2⟩

set_option maxRecDepth 100000 in
set_option maxHeartbeats 3200000 in
theorem awake_any (w : World) :
    Calls Try.prog 13 #[] w fun e w' => e = .returned (.bool true) ∧ Below w.heap.size w w' := by
  have SP := Lib.hid (show SlP (w.alloc (.cells #[.int .i64 0, .int .i64 1, .int .i64 1, .int .i64 2] 37)) (.slice (some ⟨w.heap.size, 0, none⟩) 2 2) P0 from by
    refine ⟨rfl, .inr ⟨⟨w.heap.size, 0, none⟩, 2, rfl, Nat.le_refl _, by unfold maxLen; omega, fun j u hj => ?_⟩⟩
    have h := Row.new w [.int .i64 0, .int .i64 1, .int .i64 1, .int .i64 2] 37
    have e : ((⟨w.heap.size, 0, none⟩ : Addr).add j) = ⟨w.heap.size, j, none⟩ := by unfold Addr.add; split <;> simp_all
    rw [e, h.cell]
    exact hj)
  have B0 := Lib.hid (KB.alloc (Below.refl _ w) (.cells #[.int .i64 0, .int .i64 1, .int .i64 1, .int .i64 2] 37))
  go_enter Try.func13, Try.ntmps13
  go_wp2_with fail
  refine (of_any 3 _ P0 _ (by decide) SP.out).mono ?_
  intro e w1 hp
  obtain ⟨hb, hp⟩ := hp
  rw [if_pos P0_ok] at hp
  obtain ⟨rfl, hr⟩ := hp
  have R1 := Lib.hid hr
  have B1 := Lib.hid (B0.out.trans (hb.mono B0.out.size))
  clear hb hr SP
  obtain ⟨A, hA⟩ : ∃ A, A = (w.alloc (.cells #[.int .i64 0, .int .i64 1, .int .i64 1, .int .i64 2] 37)).heap.size := ⟨_, rfl⟩
  rw [← hA] at R1 ⊢
  clear hA
  go_wp2_with fail
  refine (closure_any A 3 (ofM P0) w1 R1.out).mono ?_
  rintro e w2 ⟨rfl, hr, hb⟩
  have R2 := Lib.hid (R1.out.below hb)
  have C2 := Lib.hid hr
  have B2 := Lib.hid (B1.out.trans (hb.mono B1.out.size))
  clear hb hr R1 B1
  have HS := Lib.hid (relhas_any w1.heap.size 3 _ 0 2 w2 C2.out)
  rw [P0_has] at HS
  go_wp2_with fail
  refine HS.out.mono ?_
  rintro e w3 ⟨rfl, rfl⟩
  go_wp2_with fail
  refine (order_any A 3 (ofM P0) w2 R2.out).mono ?_
  intro e w4 hp
  obtain ⟨hb, hp⟩ := hp
  rw [if_pos P0_acyc] at hp
  obtain ⟨v, rfl, hs⟩ := hp
  rw [P0_sort] at hs
  obtain ⟨p, m, c, rfl⟩ := SlAt.form hs
  have EM := hs.len
  simp only [List.length_cons, List.length_nil] at EM
  subst EM
  obtain ⟨a, rfl⟩ := SlN.addr hs (by omega)
  have c2 : w4.cell? ⟨a.block, a.off + 2, none⟩ = some (.int .i64 2) := by rw [← add_succ a 1]; exact hs.at 2 (by decide)
  have B4 := Lib.hid (B2.out.trans (hb.mono B2.out.size))
  clear hs hb
  go_wp2
  go_ret
  exact ⟨rfl, B4.out⟩

theorem bothZ (n : Int) (v : Value) (P : List Pr) (w : World) (h : SlP w v P) :
    Calls Try.prog 22 #[.int .i64 n, v] w fun e w' => ∃ pr, e = .returned pr ∧ Below w.heap.size w w' ∧ (pr = .tuple #[.pointer none, .slice none 0 0] ∨ ∃ (m B O : Nat), n = (m : Int) ∧ m ≤ 40 ∧ pr = .tuple #[.pointer (some ⟨B, 0, none⟩), .slice (some ⟨O, 0, none⟩) m m] ∧ RelAt w' B m (ofM P) ∧ TabAt w' O m (ofM P) ∧ w.heap.size ≤ O ∧ O + m < B) :=
  (both_any n v P w h).mono fun e w' ⟨hb, hp⟩ => by
    rcases hp with rfl | ⟨m, B, O, e1, e2, _, rfl, e3, e4, e5, e6⟩
    · exact ⟨_, rfl, hb, .inl rfl⟩
    · exact ⟨_, rfl, hb, .inr ⟨m, B, O, e1, e2, rfl, e3, e4, e5, e6⟩⟩

set_option maxRecDepth 100000 in
set_option maxHeartbeats 6400000 in
theorem RelClosure_walk (n : Int) (v : Value) (P : List Pr) (w : World) (h : SlP w v P) :
    Calls Try.prog 7 #[.int .i64 n, v] w fun e w' => e = .returned (.bool true) ∧ Below w.heap.size w w' := by
  have AW := Lib.hid (fun w => awake_any w)
  have S_0 := Lib.hid (h)
  clear h
  go_enter Try.func7, Try.ntmps7
  go_wp2_with fail
  refine (AW.out _).mono ?_
  rintro e w1 ⟨rfl, hb⟩
  have S_1 := Lib.hid (S_0.out.below hb)
  have BW_1 := Lib.hid (hb)
  clear S_0
  skip
  go_wp2_with fail
  refine (bothZ n _ P _ S_1.out).mono ?_
  rintro e w2 ⟨pr, rfl, hb, hp⟩
  have S_2 := Lib.hid (S_1.out.below hb)
  have BW_2 := Lib.hid (BW_1.out.trans (hb.mono BW_1.out.size))
  clear S_1 BW_1
  clear hb
  rcases hp with rfl | ⟨m1, B1, O1, e1, l1, rfl, hr, ht, lo1, hi1⟩
  · go_wp2; go_ret; exact ⟨rfl, BW_2.out⟩
  have R_2 := Lib.hid (hr)
  have T_2 := Lib.hid (ht)
  have SU := Lib.hid hr.sup
  subst e1
  clear hr ht
  go_wp2_with fail
  refine (closure_any B1 m1 (ofM P) _ R_2.out).mono ?_
  rintro e w3 ⟨rfl, hr, hb⟩
  have S_3 := Lib.hid (S_2.out.below hb)
  have R_3 := Lib.hid (R_2.out.below hb)
  have T_3 := Lib.hid (T_2.out.below hb)
  have BW_3 := Lib.hid (BW_2.out.trans (hb.mono BW_2.out.size))
  have C_3 := Lib.hid (hr)
  clear S_2 R_2 T_2 BW_2
  clear hr hb
  obtain ⟨CB, hCB⟩ : ∃ b, b = w2.heap.size := ⟨_, rfl⟩
  rw [← hCB] at C_3 ⊢
  clear hCB
  go_wp2_with fail
  refine (rclosure_any O1 m1 (ofM P) _ (by omega) SU.out T_3.out).mono ?_
  rintro e w4 ⟨OC, _, rfl, hr, hb⟩
  have S_4 := Lib.hid (S_3.out.below hb)
  have R_4 := Lib.hid (R_3.out.below hb)
  have T_4 := Lib.hid (T_3.out.below hb)
  have C_4 := Lib.hid (C_3.out.below hb)
  have BW_4 := Lib.hid (BW_3.out.trans (hb.mono BW_3.out.size))
  have D_4 := Lib.hid (hr)
  clear S_3 R_3 T_3 C_3 BW_3
  clear hr hb
  go_wp2_with fail
  refine (is_any CB OC m1 _ _ C_4.out D_4.out).mono ?_
  rintro e w5 ⟨rfl, hb⟩
  have S_5 := Lib.hid (S_4.out.below hb)
  have R_5 := Lib.hid (R_4.out.below hb)
  have T_5 := Lib.hid (T_4.out.below hb)
  have C_5 := Lib.hid (C_4.out.below hb)
  have D_5 := Lib.hid (D_4.out.below hb)
  have BW_5 := Lib.hid (BW_4.out.trans (hb.mono BW_4.out.size))
  clear S_4 R_4 T_4 C_4 D_4 BW_4
  clear hb
  go_wp2_with fail
  refine (closure_any CB m1 _ _ C_5.out).mono ?_
  rintro e w6 ⟨rfl, hr, hb⟩
  have S_6 := Lib.hid (S_5.out.below hb)
  have R_6 := Lib.hid (R_5.out.below hb)
  have T_6 := Lib.hid (T_5.out.below hb)
  have C_6 := Lib.hid (C_5.out.below hb)
  have D_6 := Lib.hid (D_5.out.below hb)
  have BW_6 := Lib.hid (BW_5.out.trans (hb.mono BW_5.out.size))
  have E_6 := Lib.hid (hr)
  clear S_5 R_5 T_5 C_5 D_5 BW_5
  clear hr hb
  go_wp2_with fail
  refine (same_yes w5.heap.size CB m1 _ _ _ E_6.out C_6.out (fun i j => idem SU.out i j)).mono ?_
  rintro e w7 ⟨rfl, hb⟩
  have S_7 := Lib.hid (S_6.out.below hb)
  have R_7 := Lib.hid (R_6.out.below hb)
  have T_7 := Lib.hid (T_6.out.below hb)
  have C_7 := Lib.hid (C_6.out.below hb)
  have D_7 := Lib.hid (D_6.out.below hb)
  have E_7 := Lib.hid (E_6.out.below hb)
  have BW_7 := Lib.hid (BW_6.out.trans (hb.mono BW_6.out.size))
  clear S_6 R_6 T_6 C_6 D_6 E_6 BW_6
  clear hb
  go_wp2_with fail
  refine (is_any B1 O1 m1 _ _ R_7.out T_7.out).mono ?_
  rintro e w8 ⟨rfl, hb⟩
  have S_8 := Lib.hid (S_7.out.below hb)
  have R_8 := Lib.hid (R_7.out.below hb)
  have T_8 := Lib.hid (T_7.out.below hb)
  have C_8 := Lib.hid (C_7.out.below hb)
  have D_8 := Lib.hid (D_7.out.below hb)
  have E_8 := Lib.hid (E_7.out.below hb)
  have BW_8 := Lib.hid (BW_7.out.trans (hb.mono BW_7.out.size))
  clear S_7 R_7 T_7 C_7 D_7 E_7 BW_7
  clear hb
  go_wp2
  go_ret
  exact ⟨rfl, BW_8.out⟩

set_option maxRecDepth 100000 in
set_option maxHeartbeats 6400000 in
theorem RelThen_walk (n : Int) (v v2 : Value) (P Q : List Pr) (w : World) (h : SlP w v P) (h2 : SlP w v2 Q) :
    Calls Try.prog 6 #[.int .i64 n, v, v2] w fun e w' => e = .returned (.bool true) ∧ Below w.heap.size w w' := by
  have AW := Lib.hid (fun w => awake_any w)
  have S_0 := Lib.hid (h)
  have Q_0 := Lib.hid (h2)
  clear h h2
  go_enter Try.func6, Try.ntmps6
  go_wp2_with fail
  refine (AW.out _).mono ?_
  rintro e w1 ⟨rfl, hb⟩
  have S_1 := Lib.hid (S_0.out.below hb)
  have Q_1 := Lib.hid (Q_0.out.below hb)
  have BW_1 := Lib.hid (hb)
  clear S_0 Q_0
  skip
  go_wp2_with fail
  refine (bothZ n _ P _ S_1.out).mono ?_
  rintro e w2 ⟨pr, rfl, hb, hp⟩
  have S_2 := Lib.hid (S_1.out.below hb)
  have Q_2 := Lib.hid (Q_1.out.below hb)
  have BW_2 := Lib.hid (BW_1.out.trans (hb.mono BW_1.out.size))
  clear S_1 Q_1 BW_1
  clear hb
  rcases hp with rfl | ⟨m1, B1, O1, e1, l1, rfl, hr, ht, lo1, hi1⟩
  · go_wp2_with fail
    refine (bothZ n _ Q _ Q_2.out).mono ?_
    rintro e w9 ⟨pr, rfl, hb, hp⟩
    have BW_9 := Lib.hid (BW_2.out.trans (hb.mono BW_2.out.size))
    clear hb
    rcases hp with rfl | ⟨m2, B2, O2, e2, l2, rfl, hr, ht, lo2, hi2⟩
    · go_wp2; go_ret; exact ⟨rfl, BW_9.out⟩
    · clear hr ht; go_wp2; go_ret; exact ⟨rfl, BW_9.out⟩
  have R_2 := Lib.hid (hr)
  have T_2 := Lib.hid (ht)
  have SU := Lib.hid hr.sup
  subst e1
  clear hr ht
  go_wp2_with fail
  refine (bothZ (m1 : Int) _ Q _ Q_2.out).mono ?_
  rintro e w3 ⟨pr, rfl, hb, hp⟩
  have S_3 := Lib.hid (S_2.out.below hb)
  have Q_3 := Lib.hid (Q_2.out.below hb)
  have R_3 := Lib.hid (R_2.out.below hb)
  have T_3 := Lib.hid (T_2.out.below hb)
  have BW_3 := Lib.hid (BW_2.out.trans (hb.mono BW_2.out.size))
  clear S_2 Q_2 R_2 T_2 BW_2
  clear hb
  rcases hp with rfl | ⟨m2, B2, O2, e2, l2, rfl, hr, ht, lo2, hi2⟩
  · go_wp2; go_ret; exact ⟨rfl, BW_3.out⟩
  obtain rfl : m1 = m2 := by omega
  have R2_3 := Lib.hid (hr)
  have T2_3 := Lib.hid (ht)
  have SU2 := Lib.hid hr.sup
  clear hr ht
  go_wp2_with fail
  refine (then_any B1 B2 m1 _ _ _ R_3.out R2_3.out).mono ?_
  rintro e w4 ⟨X, _, rfl, hr, hb⟩
  have S_4 := Lib.hid (S_3.out.below hb)
  have Q_4 := Lib.hid (Q_3.out.below hb)
  have R_4 := Lib.hid (R_3.out.below hb)
  have T_4 := Lib.hid (T_3.out.below hb)
  have R2_4 := Lib.hid (R2_3.out.below hb)
  have T2_4 := Lib.hid (T2_3.out.below hb)
  have BW_4 := Lib.hid (BW_3.out.trans (hb.mono BW_3.out.size))
  have X_4 := Lib.hid (hr)
  clear S_3 Q_3 R_3 T_3 R2_3 T2_3 BW_3
  clear hr hb
  go_wp2_with fail
  refine (rthen_any O1 O2 m1 _ _ _ (by omega) T_4.out T2_4.out).mono ?_
  rintro e w5 ⟨rfl, hr, hb⟩
  have S_5 := Lib.hid (S_4.out.below hb)
  have Q_5 := Lib.hid (Q_4.out.below hb)
  have R_5 := Lib.hid (R_4.out.below hb)
  have T_5 := Lib.hid (T_4.out.below hb)
  have R2_5 := Lib.hid (R2_4.out.below hb)
  have T2_5 := Lib.hid (T2_4.out.below hb)
  have X_5 := Lib.hid (X_4.out.below hb)
  have BW_5 := Lib.hid (BW_4.out.trans (hb.mono BW_4.out.size))
  have Y_5 := Lib.hid (hr)
  clear S_4 Q_4 R_4 T_4 R2_4 T2_4 X_4 BW_4
  clear hr hb
  obtain ⟨YO, hYO⟩ : ∃ b, b = w4.heap.size := ⟨_, rfl⟩
  rw [← hYO] at Y_5 ⊢
  clear hYO
  go_wp2_with fail
  refine (is_any X YO m1 _ _ X_5.out Y_5.out).mono ?_
  rintro e w6 ⟨rfl, hb⟩
  have S_6 := Lib.hid (S_5.out.below hb)
  have Q_6 := Lib.hid (Q_5.out.below hb)
  have R_6 := Lib.hid (R_5.out.below hb)
  have T_6 := Lib.hid (T_5.out.below hb)
  have R2_6 := Lib.hid (R2_5.out.below hb)
  have T2_6 := Lib.hid (T2_5.out.below hb)
  have X_6 := Lib.hid (X_5.out.below hb)
  have Y_6 := Lib.hid (Y_5.out.below hb)
  have BW_6 := Lib.hid (BW_5.out.trans (hb.mono BW_5.out.size))
  clear S_5 Q_5 R_5 T_5 R2_5 T2_5 X_5 Y_5 BW_5
  clear hb
  go_wp2_with fail
  refine (inv_any B1 m1 _ _ R_6.out).mono ?_
  rintro e w7 ⟨rfl, hr, hb⟩
  have S_7 := Lib.hid (S_6.out.below hb)
  have Q_7 := Lib.hid (Q_6.out.below hb)
  have R_7 := Lib.hid (R_6.out.below hb)
  have T_7 := Lib.hid (T_6.out.below hb)
  have R2_7 := Lib.hid (R2_6.out.below hb)
  have T2_7 := Lib.hid (T2_6.out.below hb)
  have X_7 := Lib.hid (X_6.out.below hb)
  have Y_7 := Lib.hid (Y_6.out.below hb)
  have BW_7 := Lib.hid (BW_6.out.trans (hb.mono BW_6.out.size))
  have I_7 := Lib.hid (hr)
  clear S_6 Q_6 R_6 T_6 R2_6 T2_6 X_6 Y_6 BW_6
  clear hr hb
  obtain ⟨IB, hIB⟩ : ∃ b, b = w6.heap.size := ⟨_, rfl⟩
  rw [← hIB] at I_7 ⊢
  clear hIB
  go_wp2_with fail
  refine (rinv_any O1 m1 _ _ (by omega) T_7.out).mono ?_
  rintro e w8 ⟨rfl, hr, hb⟩
  have S_8 := Lib.hid (S_7.out.below hb)
  have Q_8 := Lib.hid (Q_7.out.below hb)
  have R_8 := Lib.hid (R_7.out.below hb)
  have T_8 := Lib.hid (T_7.out.below hb)
  have R2_8 := Lib.hid (R2_7.out.below hb)
  have T2_8 := Lib.hid (T2_7.out.below hb)
  have X_8 := Lib.hid (X_7.out.below hb)
  have Y_8 := Lib.hid (Y_7.out.below hb)
  have I_8 := Lib.hid (I_7.out.below hb)
  have BW_8 := Lib.hid (BW_7.out.trans (hb.mono BW_7.out.size))
  have J_8 := Lib.hid (hr)
  clear S_7 Q_7 R_7 T_7 R2_7 T2_7 X_7 Y_7 I_7 BW_7
  clear hr hb
  obtain ⟨JO, hJO⟩ : ∃ b, b = w7.heap.size := ⟨_, rfl⟩
  rw [← hJO] at J_8 ⊢
  clear hJO
  go_wp2_with fail
  refine (is_any IB JO m1 _ _ I_8.out J_8.out).mono ?_
  rintro e w9 ⟨rfl, hb⟩
  have S_9 := Lib.hid (S_8.out.below hb)
  have Q_9 := Lib.hid (Q_8.out.below hb)
  have R_9 := Lib.hid (R_8.out.below hb)
  have T_9 := Lib.hid (T_8.out.below hb)
  have R2_9 := Lib.hid (R2_8.out.below hb)
  have T2_9 := Lib.hid (T2_8.out.below hb)
  have X_9 := Lib.hid (X_8.out.below hb)
  have Y_9 := Lib.hid (Y_8.out.below hb)
  have I_9 := Lib.hid (I_8.out.below hb)
  have J_9 := Lib.hid (J_8.out.below hb)
  have BW_9 := Lib.hid (BW_8.out.trans (hb.mono BW_8.out.size))
  clear S_8 Q_8 R_8 T_8 R2_8 T2_8 X_8 Y_8 I_8 J_8 BW_8
  clear hb
  go_wp2_with fail
  refine (inv_any B1 m1 _ _ R_9.out).mono ?_
  rintro e w10 ⟨rfl, hr, hb⟩
  have S_10 := Lib.hid (S_9.out.below hb)
  have Q_10 := Lib.hid (Q_9.out.below hb)
  have R_10 := Lib.hid (R_9.out.below hb)
  have T_10 := Lib.hid (T_9.out.below hb)
  have R2_10 := Lib.hid (R2_9.out.below hb)
  have T2_10 := Lib.hid (T2_9.out.below hb)
  have X_10 := Lib.hid (X_9.out.below hb)
  have Y_10 := Lib.hid (Y_9.out.below hb)
  have I_10 := Lib.hid (I_9.out.below hb)
  have J_10 := Lib.hid (J_9.out.below hb)
  have BW_10 := Lib.hid (BW_9.out.trans (hb.mono BW_9.out.size))
  have K_10 := Lib.hid (hr)
  clear S_9 Q_9 R_9 T_9 R2_9 T2_9 X_9 Y_9 I_9 J_9 BW_9
  clear hr hb
  obtain ⟨KB, hKB⟩ : ∃ b, b = w9.heap.size := ⟨_, rfl⟩
  rw [← hKB] at K_10 ⊢
  clear hKB
  go_wp2_with fail
  refine (inv_any KB m1 _ _ K_10.out).mono ?_
  rintro e w11 ⟨rfl, hr, hb⟩
  have S_11 := Lib.hid (S_10.out.below hb)
  have Q_11 := Lib.hid (Q_10.out.below hb)
  have R_11 := Lib.hid (R_10.out.below hb)
  have T_11 := Lib.hid (T_10.out.below hb)
  have R2_11 := Lib.hid (R2_10.out.below hb)
  have T2_11 := Lib.hid (T2_10.out.below hb)
  have X_11 := Lib.hid (X_10.out.below hb)
  have Y_11 := Lib.hid (Y_10.out.below hb)
  have I_11 := Lib.hid (I_10.out.below hb)
  have J_11 := Lib.hid (J_10.out.below hb)
  have K_11 := Lib.hid (K_10.out.below hb)
  have BW_11 := Lib.hid (BW_10.out.trans (hb.mono BW_10.out.size))
  have M_11 := Lib.hid (hr)
  clear S_10 Q_10 R_10 T_10 R2_10 T2_10 X_10 Y_10 I_10 J_10 K_10 BW_10
  clear hr hb
  obtain ⟨MB, hMB⟩ : ∃ b, b = w10.heap.size := ⟨_, rfl⟩
  rw [← hMB] at M_11 ⊢
  clear hMB
  go_wp2_with fail
  refine (same_yes MB B1 m1 _ _ _ M_11.out R_11.out (fun _ _ => rfl)).mono ?_
  rintro e w12 ⟨rfl, hb⟩
  have S_12 := Lib.hid (S_11.out.below hb)
  have Q_12 := Lib.hid (Q_11.out.below hb)
  have R_12 := Lib.hid (R_11.out.below hb)
  have T_12 := Lib.hid (T_11.out.below hb)
  have R2_12 := Lib.hid (R2_11.out.below hb)
  have T2_12 := Lib.hid (T2_11.out.below hb)
  have X_12 := Lib.hid (X_11.out.below hb)
  have Y_12 := Lib.hid (Y_11.out.below hb)
  have I_12 := Lib.hid (I_11.out.below hb)
  have J_12 := Lib.hid (J_11.out.below hb)
  have K_12 := Lib.hid (K_11.out.below hb)
  have M_12 := Lib.hid (M_11.out.below hb)
  have BW_12 := Lib.hid (BW_11.out.trans (hb.mono BW_11.out.size))
  clear S_11 Q_11 R_11 T_11 R2_11 T2_11 X_11 Y_11 I_11 J_11 K_11 M_11 BW_11
  clear hb
  go_wp2
  go_ret
  exact ⟨rfl, BW_12.out⟩
end Go.Proofs.Ytjgfnemdklljmaa
