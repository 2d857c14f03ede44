/-
  Layer 4, the laws: AsmBack.
-/
import Derived.Test.YtebpmngllljkaaaDoorV6
import Derived.Test.YtebpmngllljkaaaDoorMl
set_option linter.unusedSimpArgs false
set_option linter.unusedVariables false
namespace Go.Proofs.YtebpmngllljkaaaDoor
open Go.RowKit GrP GrA

set_option maxRecDepth 100000 in
set_option maxHeartbeats 3200000 in
theorem asmBack_yes (op d n m imm kind : Int) (hb : -9223372036854775808 ≤ imm ∧ imm ≤ 9223372036854775807) (w : World) (ht : Tab w) (hr : GrI.right ⟨op, d, n, m, imm, kind⟩) : Calls Tryd.prog 4 #[.agg #[.int .i64 op, .int .i64 d, .int .i64 n, .int .i64 m, .int .i64 imm, .int .i64 kind]] w fun e w' => e = .returned (.bool true) ∧ Below w.heap.size w w' := by
  have TH := Lib.hid ht
  have AW := Lib.hid (fun w2 (t2 : Tab w2) => aawake_any w2 t2)
  have PR := Lib.hid (fun w2 (t2 : Tab w2) => print_yes ⟨op, d, n, m, imm, kind⟩ w2 t2 hr)
  have hpl := printR_len _ hr
  have hpn := printR_ne hr
  have hps := parse_words hr (words_printR _ hr)
  unfold iv at PR
  simp only at PR
  obtain ⟨p, hp⟩ : ∃ p, p = printR ⟨op, d, n, m, imm, kind⟩ := ⟨_, rfl⟩
  rw [← hp] at PR hpl hpn hps
  have PA := Lib.hid (fun w2 (t2 : Tab w2) => (show Calls Tryd.prog 13 #[.string (strL p)] w2 fun e w' => e = .returned (.tuple #[.agg #[.int .i64 op, .int .i64 d, .int .i64 n, .int .i64 m, .int .i64 imm, .int .i64 kind], .int .i64 0]) ∧ Below w2.heap.size w2 w' from by have := parse_T p w2 t2 (by omega); rw [hps] at this; exact this))
  have e1 : (strL p).toList.isEmpty = false := by rw [strL_toList]; cases p with | nil => exact absurd rfl hpn | cons c t => rfl
  have e2 : ((strL p).toList == []) = false := by rw [strL_toList, beq_eq_false_iff_ne]; exact hpn
  have e3 : ¬ (strL p).toList = [] := by rw [strL_toList]; exact hpn
  clear hpl hpn hps hp ht hr hb
  go_enter Tryd.func4, Tryd.ntmps4
  go_upto_region 1 with fail
  refine to_cls ?_
  intro U0 hU0 y0
  have r_b : ∀ z : Wb U0, Row z.at (w.heap.size) [.int .i64 op, .int .i64 d, .int .i64 n, .int .i64 m, .int .i64 imm, .int .i64 kind] 23 := Row.next (Row.new _ [.int .i64 op, .int .i64 d, .int .i64 n, .int .i64 m, .int .i64 imm, .int .i64 kind] _) hU0
  have KK := Lib.hid (KB.next (KB.alloc (Below.refl _ _) _) hU0)
  clear hU0
  obtain ⟨c_b_0, c_b_1, c_b_2, c_b_3, c_b_4, c_b_5⟩ := six r_b
  have TZ := Lib.hid (fun z : Wb U0 => TH.out.below (KK.out z))
  go_wp2_with fail
  refine (AW.out _ (TZ.out y0)).mono ?_
  rintro e w1 ⟨rfl, g⟩
  obtain ⟨y1, rfl⟩ := Wb.next (x := y0) g
  clear g
  go_wp2_with fail
  refine (PR.out _ (TZ.out y1)).mono ?_
  rintro e w1 ⟨rfl, g⟩
  obtain ⟨y2, rfl⟩ := Wb.next (x := y1) g
  clear g
  go_wp2_with fail
  refine (PA.out _ (TZ.out y2)).mono ?_
  rintro e w1 ⟨rfl, g⟩
  obtain ⟨y3, rfl⟩ := Wb.next (x := y2) g
  clear g
  go_upto_region 7 with fail
  refine to_cls ?_
  intro U4 hU4 y4
  clear c_b_0 c_b_1 c_b_2 c_b_3 c_b_4 c_b_5
  have r_b : ∀ z : Wb U4, Row z.at (w.heap.size) [.int .i64 op, .int .i64 d, .int .i64 n, .int .i64 m, .int .i64 imm, .int .i64 kind] 23 := Row.next ((r_b y3).old _) hU4
  have r_q : ∀ z : Wb U4, Row z.at (y3.at.heap.size) [.int .i64 op, .int .i64 d, .int .i64 n, .int .i64 m, .int .i64 imm, .int .i64 kind] 23 := Row.next (Row.new _ [.int .i64 op, .int .i64 d, .int .i64 n, .int .i64 m, .int .i64 imm, .int .i64 kind] _) hU4
  have KK := Lib.hid (KB.next (KB.alloc (KK.out y3) _) hU4)
  clear hU4
  obtain ⟨c_b_0, c_b_1, c_b_2, c_b_3, c_b_4, c_b_5⟩ := six r_b
  obtain ⟨c_q_0, c_q_1, c_q_2, c_q_3, c_q_4, c_q_5⟩ := six r_q
  obtain ⟨qA, hqA⟩ : ∃ b, b = y3.at.heap.size := ⟨_, rfl⟩
  rw [← hqA] at r_q c_q_0 c_q_1 c_q_2 c_q_3 c_q_4 c_q_5
  simp only [← hqA]
  clear hqA
  have TZ := Lib.hid (fun z : Wb U4 => TH.out.below (KK.out z))
  go_wp2
  go_ret
  exact ⟨rfl, KK.out y4⟩

set_option maxRecDepth 100000 in
set_option maxHeartbeats 3200000 in
theorem asmBack_no (op d n m imm kind : Int) (hb : -9223372036854775808 ≤ imm ∧ imm ≤ 9223372036854775807) (w : World) (ht : Tab w) (hr : ¬ GrI.right ⟨op, d, n, m, imm, kind⟩) : Calls Tryd.prog 4 #[.agg #[.int .i64 op, .int .i64 d, .int .i64 n, .int .i64 m, .int .i64 imm, .int .i64 kind]] w fun e w' => e = .returned (.bool true) ∧ Below w.heap.size w w' := by
  have TH := Lib.hid ht
  have AW := Lib.hid (fun w2 (t2 : Tab w2) => aawake_any w2 t2)
  have PR := Lib.hid (fun w2 (t2 : Tab w2) => aprint_no op d n m imm kind w2 t2 hb (by simpa [encB] using hr))
  have RR := Lib.hid (fun w2 => pright_is ⟨op, d, n, m, imm, kind⟩ w2 false (by simpa [encB] using hr))
  unfold iv at RR
  simp only at RR
  clear ht hr hb
  go_enter Tryd.func4, Tryd.ntmps4
  go_upto_region 1 with fail
  refine to_cls ?_
  intro U0 hU0 y0
  have r_b : ∀ z : Wb U0, Row z.at (w.heap.size) [.int .i64 op, .int .i64 d, .int .i64 n, .int .i64 m, .int .i64 imm, .int .i64 kind] 23 := Row.next (Row.new _ [.int .i64 op, .int .i64 d, .int .i64 n, .int .i64 m, .int .i64 imm, .int .i64 kind] _) hU0
  have KK := Lib.hid (KB.next (KB.alloc (Below.refl _ _) _) hU0)
  clear hU0
  obtain ⟨c_b_0, c_b_1, c_b_2, c_b_3, c_b_4, c_b_5⟩ := six r_b
  have TZ := Lib.hid (fun z : Wb U0 => TH.out.below (KK.out z))
  go_wp2_with fail
  refine (AW.out _ (TZ.out y0)).mono ?_
  rintro e w1 ⟨rfl, g⟩
  obtain ⟨y1, rfl⟩ := Wb.next (x := y0) g
  clear g
  go_wp2_with fail
  refine (PR.out _ (TZ.out y1)).mono ?_
  rintro e w1 ⟨rfl, g⟩
  obtain ⟨y2, rfl⟩ := Wb.next (x := y1) g
  clear g
  go_wp2_with fail
  refine (RR.out _).mono ?_
  rintro e w1 ⟨rfl, g⟩
  obtain ⟨y3, rfl⟩ := Wb.next (x := y2) g
  clear g
  go_wp2
  go_ret
  exact ⟨rfl, KK.out y3⟩

theorem asmBack_walk (op d n m imm kind : Int) (hb : -9223372036854775808 ≤ imm ∧ imm ≤ 9223372036854775807) (w : World) (ht : Tab w) : Calls Tryd.prog 4 #[.agg #[.int .i64 op, .int .i64 d, .int .i64 n, .int .i64 m, .int .i64 imm, .int .i64 kind]] w fun e w' => e = .returned (.bool true) ∧ Below w.heap.size w w' := by
  by_cases hr : GrI.right ⟨op, d, n, m, imm, kind⟩
  · exact asmBack_yes op d n m imm kind hb w ht hr
  · exact asmBack_no op d n m imm kind hb w ht hr
end Go.Proofs.YtebpmngllljkaaaDoor
