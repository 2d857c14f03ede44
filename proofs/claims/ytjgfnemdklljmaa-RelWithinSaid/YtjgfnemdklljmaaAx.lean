/-
  Layer 1: the law RelMakes.
-/
import Derived.Test.YtjgfnemdklljmaaAt
set_option linter.unusedSimpArgs false
set_option linter.unusedVariables false
namespace GrR
open Go
theorem sum_const (k c : Nat) (f : Nat → Nat) (h : ∀ a, a < k → f a = c) : ((List.range k).map f).sum = k * c := by
  induction k with
  | zero => simp
  | succ k ih =>
    rw [List.range_succ, List.map_append, List.sum_append, ih fun a ha => h a (by omega)]
    simp [h k (by omega), Nat.succ_mul]
theorem cnt_empty (n : Nat) : cntM n emptyM = 0 := by
  unfold cntM
  rw [sum_const n 0 _ fun a _ => by simp [cntR, emptyM]]
  simp
theorem cnt_id (n : Nat) : cntM n (idM n) = n := by
  unfold cntM
  rw [sum_const n 1 _ fun a ha => by
    unfold cntR
    rw [countP_one (List.range n) a _ List.nodup_range (List.mem_range.2 ha)]
    have : (List.range n).countP (fun k => !(k == a) && idM n a k) = 0 := by
      rw [List.countP_eq_zero]
      intro k _
      unfold idM
      by_cases c : k = a
      · simp [c]
      · have : (a == k) = false := by simp; omega
        simp [this]
    rw [this]
    simp [idM, ha]]
  simp
theorem id_last (n : Nat) (hn : 0 < n) (k : Int) (hk : k = (n : Int) - 1) : hasZ n (idM n) k k = true := by
  obtain ⟨j, rfl⟩ : ∃ j : Nat, k = (j : Int) := ⟨n - 1, by omega⟩
  unfold hasZ thingB idM
  have : j < n := by omega
  simp [this]
end GrR
namespace Go.Proofs.Ytjgfnemdklljmaa
open Go.RowKit GrR

set_option maxRecDepth 100000 in
set_option maxHeartbeats 1600000 in
theorem of_no (n : Int) (v : Value) (w : World) (hn : n < 0 ∨ 128 < n) :
    Calls Try.prog 14 #[.int .i64 n, v] w fun e w' => e = .returned (.tuple #[.pointer none, .int .i64 10]) ∧ w = w' := by
  have NN := Lib.hid (fun w => new_no n w hn)
  clear hn
  go_enter Try.func14, Try.ntmps14
  go_wp2_with fail
  refine (NN.out _).mono ?_
  rintro e w1 ⟨rfl, rfl⟩
  go_wp2
  exact bodyPost_ret (v := .tuple #[.pointer none, .int .i64 10]) (by simp [results, Try.results14, go_sem]) rfl ⟨rfl, rfl⟩

set_option maxRecDepth 100000 in
set_option maxHeartbeats 1600000 in
theorem ident_no (n : Int) (w : World) (hn : n < 0 ∨ 128 < n) :
    Calls Try.prog 17 #[.int .i64 n] w fun e w' => e = .returned (.tuple #[.pointer none, .int .i64 10]) ∧ w = w' := by
  have NN := Lib.hid (fun w => new_no n w hn)
  clear hn
  go_enter Try.func17, Try.ntmps17
  go_wp2_with fail
  refine (NN.out _).mono ?_
  rintro e w1 ⟨rfl, rfl⟩
  go_wp2
  exact bodyPost_ret (v := .tuple #[.pointer none, .int .i64 10]) (by simp [results, Try.results17, go_sem]) rfl ⟨rfl, rfl⟩

set_option maxRecDepth 100000 in
set_option maxHeartbeats 6400000 in
theorem RelMakes_walk (n : Int) (v : Value) (P : List Pr) (w : World) (h : SlP w v P) :
    Calls Try.prog 3 #[.int .i64 n, v] w fun e w' => e = .returned (.bool true) ∧ Below w.heap.size w w' := by
  obtain ⟨p, ln, c, rfl⟩ := SlAt.form h
  have S0 := Lib.hid h
  clear h
  have AW := Lib.hid (fun w => awake_any w)
  go_enter Try.func3, Try.ntmps3
  go_wp2_with fail
  refine (AW.out _).mono ?_
  rintro e w1 ⟨rfl, hb⟩
  have BW_1 := Lib.hid (hb)
  clear hb
  by_cases c3 : 300 < ln
  · have c4 : decide ((ln : Int) > 300) = true := by simp; omega
    go_wp2; go_ret; exact ⟨rfl, BW_1.out⟩
  have c4 : decide ((ln : Int) > 300) = false := by simp; omega
  clear c3
  by_cases cn : n < 0 ∨ 128 < n
  ·
    have CN := Lib.hid cn
    go_wp2_with fail
    refine (of_no n _ _ CN.out).mono ?_
    rintro e w99 ⟨rfl, rfl⟩
    clear c4
    go_wp2_with fail
    refine (rof_no n _ _ CN.out).mono ?_
    rintro e w99 ⟨rfl, rfl⟩
    go_wp2_with fail
    refine (new_no n _ CN.out).mono ?_
    rintro e w99 ⟨rfl, rfl⟩
    go_wp2_with fail
    refine (ident_no n _ CN.out).mono ?_
    rintro e w99 ⟨rfl, rfl⟩
    by_cases d1 : n < 0
    · have d2 : decide (n < 0) = true := by simpa using d1
      clear cn
      go_wp2; go_ret; exact ⟨rfl, BW_1.out⟩
    · have d2 : decide (n < 0) = false := by simpa using d1
      have d3 : decide (n > 128) = true := by simp; omega
      clear cn
      go_wp2; go_ret; exact ⟨rfl, BW_1.out⟩
  obtain ⟨m, rfl⟩ := Int.eq_ofNat_of_zero_le (show 0 ≤ n by omega)
  have M := Lib.hid (show m ≤ 128 by omega)
  have d2 : decide ((m : Int) < 0) = false := by simp
  have d3 : decide ((m : Int) > 128) = false := by simp; omega
  have D2 := Lib.hid d2
  have D3 := Lib.hid d3
  clear cn d2 d3
  go_wp2_with fail
  refine (of_any m _ P _ M.out (S0.out.below BW_1.out)).mono ?_
  intro e w2 hp
  obtain ⟨hb, hp⟩ := hp
  have BW_2 := Lib.hid (BW_1.out.trans (hb.mono BW_1.out.size))
  clear BW_1
  clear hb c4
  have RO := Lib.hid (rof_any m _ P w2 M.out (S0.out.below BW_2.out))
  cases co : okP m P with
  | false =>
    rw [if_neg (by rw [co]; simp)] at hp
    subst hp
    go_wp2_with fail
    refine RO.out.mono ?_
    intro e w3 hp
    obtain ⟨hb, hp⟩ := hp
    have BW_3 := Lib.hid (BW_2.out.trans (hb.mono BW_2.out.size))
    clear BW_2
    clear hb
    rw [if_neg (by rw [co]; simp)] at hp
    subst hp
    clear co RO
    go_wp2_with fail
    refine (new_any m _ M.out).mono ?_
    rintro e w4 ⟨rfl, hr, hb⟩
    have BW_4 := Lib.hid (BW_3.out.trans (hb.mono BW_3.out.size))
    have N_4 := Lib.hid (hr)
    clear BW_3
    clear hr hb
    obtain ⟨NB, hNB⟩ : ∃ b, b = w3.heap.size := ⟨_, rfl⟩
    rw [← hNB] at N_4 ⊢
    clear hNB
    go_wp2_with fail
    refine (ident_any m _ M.out).mono ?_
    rintro e w5 ⟨rfl, hr, hb⟩
    have N_5 := Lib.hid (N_4.out.below hb)
    have BW_5 := Lib.hid (BW_4.out.trans (hb.mono BW_4.out.size))
    have I_5 := Lib.hid (hr)
    clear N_4 BW_4
    clear hr hb
    obtain ⟨IB, hIB⟩ : ∃ b, b = w4.heap.size := ⟨_, rfl⟩
    rw [← hIB] at I_5 ⊢
    clear hIB
    have C1 := Lib.hid (count_any NB m _ w5 N_5.out)
    rw [cnt_empty] at C1
    have C2 := Lib.hid (count_any IB m _ w5 I_5.out)
    rw [cnt_id] at C2
    have Z1 := Lib.hid (size_any NB m _ w5 N_5.out)
    have d2 := D2.out
    have d3 := D3.out
    have mm : ((m : Int) != (m : Int)) = false := by simp
    by_cases m0 : m = 0
    ·
      have z1 : ¬ 0 < m := by omega
      have z2 : ¬ (0 : Int) < (m : Int) := by omega
      have z3 : decide (0 < m) = false := by simp; omega
      have z4 : decide ((0 : Int) < (m : Int)) = false := by simp; omega
      clear m0
      go_wp2_with fail
      refine (C1.out).mono ?_
      rintro e w99 ⟨rfl, rfl⟩
      go_wp2_with fail
      refine (Z1.out).mono ?_
      rintro e w99 ⟨rfl, rfl⟩
      go_wp2_with fail
      refine (C2.out).mono ?_
      rintro e w99 ⟨rfl, rfl⟩
      go_wp2
      go_ret
      exact ⟨rfl, BW_5.out⟩
    ·
      have d4 : decide ((m : Int) > 0) = true := by simp; omega
      have m9 : (m : Int) ≤ 128 := by have := M.out; omega
      have m1 : (1 : Int) ≤ (m : Int) := by omega
      have d5 : 0 < m := by omega
      have d6 : (0 : Int) < (m : Int) := by omega
      have d7 : decide (0 < m) = true := by simp; omega
      have HZ := Lib.hid (relhas_any IB m _ ((m : Int) - 1) ((m : Int) - 1) w5 I_5.out)
      rw [id_last m (by omega) _ rfl] at HZ
      clear m0
      go_wp2_with fail
      refine (C1.out).mono ?_
      rintro e w99 ⟨rfl, rfl⟩
      go_wp2_with fail
      refine (Z1.out).mono ?_
      rintro e w99 ⟨rfl, rfl⟩
      go_wp2_with fail
      refine (C2.out).mono ?_
      rintro e w99 ⟨rfl, rfl⟩
      go_wp2_with fail
      refine (HZ.out).mono ?_
      rintro e w99 ⟨rfl, rfl⟩
      go_wp2
      go_ret
      exact ⟨rfl, BW_5.out⟩
  | true =>
    rw [if_pos co] at hp
    obtain ⟨rfl, hr⟩ := hp
    have R_2 := Lib.hid (hr)
    clear hr
    obtain ⟨B, hB⟩ : ∃ b, b = w1.heap.size := ⟨_, rfl⟩
    rw [← hB] at R_2 ⊢
    clear hB
    go_wp2_with fail
    refine RO.out.mono ?_
    intro e w3 hp
    obtain ⟨hb, hp⟩ := hp
    have R_3 := Lib.hid (R_2.out.below hb)
    have BW_3 := Lib.hid (BW_2.out.trans (hb.mono BW_2.out.size))
    clear R_2 BW_2
    clear hb
    rw [if_pos co] at hp
    obtain ⟨rfl, ht⟩ := hp
    have T_3 := Lib.hid (ht)
    clear ht
    obtain ⟨O, hO⟩ : ∃ b, b = w2.heap.size := ⟨_, rfl⟩
    rw [← hO] at T_3 ⊢
    clear hO
    clear co RO
    go_wp2_with fail
    refine (new_any m _ M.out).mono ?_
    rintro e w4 ⟨rfl, hr, hb⟩
    have R_4 := Lib.hid (R_3.out.below hb)
    have T_4 := Lib.hid (T_3.out.below hb)
    have BW_4 := Lib.hid (BW_3.out.trans (hb.mono BW_3.out.size))
    have N_4 := Lib.hid (hr)
    clear R_3 T_3 BW_3
    clear hr hb
    obtain ⟨NB, hNB⟩ : ∃ b, b = w3.heap.size := ⟨_, rfl⟩
    rw [← hNB] at N_4 ⊢
    clear hNB
    go_wp2_with fail
    refine (ident_any m _ M.out).mono ?_
    rintro e w5 ⟨rfl, hr, hb⟩
    have R_5 := Lib.hid (R_4.out.below hb)
    have T_5 := Lib.hid (T_4.out.below hb)
    have N_5 := Lib.hid (N_4.out.below hb)
    have BW_5 := Lib.hid (BW_4.out.trans (hb.mono BW_4.out.size))
    have I_5 := Lib.hid (hr)
    clear R_4 T_4 N_4 BW_4
    clear hr hb
    obtain ⟨IB, hIB⟩ : ∃ b, b = w4.heap.size := ⟨_, rfl⟩
    rw [← hIB] at I_5 ⊢
    clear hIB
    have C1 := Lib.hid (count_any NB m _ w5 N_5.out)
    rw [cnt_empty] at C1
    have C2 := Lib.hid (count_any IB m _ w5 I_5.out)
    rw [cnt_id] at C2
    have Z1 := Lib.hid (size_any NB m _ w5 N_5.out)
    have d2 := D2.out
    have d3 := D3.out
    have mm : ((m : Int) != (m : Int)) = false := by simp
    by_cases m0 : m = 0
    ·
      have z1 : ¬ 0 < m := by omega
      have z2 : ¬ (0 : Int) < (m : Int) := by omega
      have z3 : decide (0 < m) = false := by simp; omega
      have z4 : decide ((0 : Int) < (m : Int)) = false := by simp; omega
      clear m0
      go_wp2_with fail
      refine (C1.out).mono ?_
      rintro e w99 ⟨rfl, rfl⟩
      go_wp2_with fail
      refine (Z1.out).mono ?_
      rintro e w99 ⟨rfl, rfl⟩
      go_wp2_with fail
      refine (C2.out).mono ?_
      rintro e w99 ⟨rfl, rfl⟩
      go_wp2_with fail
      refine (is_any B O m _ _ R_5.out T_5.out).mono ?_
      rintro e w6 ⟨rfl, hb⟩
      have R_6 := Lib.hid (R_5.out.below hb)
      have T_6 := Lib.hid (T_5.out.below hb)
      have N_6 := Lib.hid (N_5.out.below hb)
      have I_6 := Lib.hid (I_5.out.below hb)
      have BW_6 := Lib.hid (BW_5.out.trans (hb.mono BW_5.out.size))
      clear R_5 T_5 N_5 I_5 BW_5
      clear hb
      go_wp2
      go_ret
      exact ⟨rfl, BW_6.out⟩
    ·
      have d4 : decide ((m : Int) > 0) = true := by simp; omega
      have m9 : (m : Int) ≤ 128 := by have := M.out; omega
      have m1 : (1 : Int) ≤ (m : Int) := by omega
      have d5 : 0 < m := by omega
      have d6 : (0 : Int) < (m : Int) := by omega
      have d7 : decide (0 < m) = true := by simp; omega
      have HZ := Lib.hid (relhas_any IB m _ ((m : Int) - 1) ((m : Int) - 1) w5 I_5.out)
      rw [id_last m (by omega) _ rfl] at HZ
      clear m0
      go_wp2_with fail
      refine (C1.out).mono ?_
      rintro e w99 ⟨rfl, rfl⟩
      go_wp2_with fail
      refine (Z1.out).mono ?_
      rintro e w99 ⟨rfl, rfl⟩
      go_wp2_with fail
      refine (C2.out).mono ?_
      rintro e w99 ⟨rfl, rfl⟩
      go_wp2_with fail
      refine (HZ.out).mono ?_
      rintro e w99 ⟨rfl, rfl⟩
      go_wp2_with fail
      refine (is_any B O m _ _ R_5.out T_5.out).mono ?_
      rintro e w6 ⟨rfl, hb⟩
      have R_6 := Lib.hid (R_5.out.below hb)
      have T_6 := Lib.hid (T_5.out.below hb)
      have N_6 := Lib.hid (N_5.out.below hb)
      have I_6 := Lib.hid (I_5.out.below hb)
      have BW_6 := Lib.hid (BW_5.out.trans (hb.mono BW_5.out.size))
      clear R_5 T_5 N_5 I_5 BW_5
      clear hb
      go_wp2
      go_ret
      exact ⟨rfl, BW_6.out⟩
end Go.Proofs.Ytjgfnemdklljmaa
