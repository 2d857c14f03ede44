/-
  Layer 12: what litmus.Parse says of texts that lex.Check refuses; the law LitmusLong, walked.
-/
import Derived.Test.YtlpejfoeiaogcaaGreatDoorEd
set_option linter.unusedSimpArgs false
set_option linter.unusedVariables false
namespace Go.Proofs.YtlpejfoeiaogcaaGreatDoor
open Go.RowKit GrP GrL
def noTest : List Value := [.string ⟨#[]⟩, .slice none 0 0, .slice none 0 0, .bool false, .int .i64 0, .int .i64 0, .int .i64 0, .int .u64 0, .int .u64 0, .slice none 0 0, .slice none 0 0, .slice none 0 0, .slice none 0 0, .slice none 0 0, .slice none 0 0, .int .i64 0]

set_option maxRecDepth 100000 in
set_option maxHeartbeats 3200000 in
theorem parse_bad (l : Tx) (w : World) (h : ¬ (checkL l).1 = 0) : Calls Tryz.prog 6 #[.string (strL l)] w fun e w' => e = .returned (.tuple #[.agg #[.string ⟨#[]⟩, .slice none 0 0, .slice none 0 0, .bool false, .int .i64 0, .int .i64 0, .int .i64 0, .int .u64 0, .int .u64 0, .slice none 0 0, .slice none 0 0, .slice none 0 0, .slice none 0 0, .slice none 0 0, .slice none 0 0, .int .i64 0], .agg #[.int .i64 (((checkL l).1 : Nat) : Int), .int .i64 (((checkL l).2 : Nat) : Int)]]) ∧ Below w.heap.size w w' := by
  have LC := Lib.hid (fun w => lcheck_any l w)
  obtain ⟨a, ha⟩ : ∃ a, a = (checkL l).1 := ⟨_, rfl⟩
  obtain ⟨b, hb⟩ : ∃ b, b = (checkL l).2 := ⟨_, rfl⟩
  rw [← ha, ← hb] at LC
  rw [← ha] at h ⊢
  rw [← hb]
  clear ha hb
  have a1 : ((a : Int) != 0) = true := by simp; omega
  have a2 : ¬ (a : Int) = 0 := by omega
  clear h
  go_enter Tryz.func6, Tryz.ntmps6
  go_upto_region 1 with fail
  refine to_cls ?_
  intro U0 hU0 y0
  have r_S : ∀ z : Wb U0, Row z.at w.heap.size [.string ⟨#[]⟩, .slice none 0 0, .slice none 0 0, .bool false, .int .i64 0, .int .i64 0, .int .i64 0, .int .u64 0, .int .u64 0, .slice none 0 0, .slice none 0 0, .slice none 0 0, .slice none 0 0, .slice none 0 0, .slice none 0 0, .int .i64 0] 39 :=
    Row.next ((Row.new w [.string ⟨#[]⟩, .slice none 0 0, .slice none 0 0, .bool false, .int .i64 0, .int .i64 0, .int .i64 0, .int .u64 0, .int .u64 0, .slice none 0 0, .slice none 0 0, .slice none 0 0, .slice none 0 0, .slice none 0 0, .slice none 0 0, .int .i64 0] _).old _) hU0
  have r_P : ∀ z : Wb U0, Row z.at (w.heap.size + 1) [.int .i64 0, .int .i64 0] 42 := Row.next (Row.new' _ [.int .i64 0, .int .i64 0] _ _ (by simp)) hU0
  have KK := Lib.hid (KB.next (KB.alloc (KB.alloc (Below.refl w.heap.size w) _) _) hU0)
  clear hU0
  go_upto_region 2 with (go_at_call 8; refine (LC.out _).mono ?_; rintro e w1 ⟨rfl, d⟩; obtain ⟨x2, rfl⟩ := Wb.next d; clear d)
  refine to_pt ?_
  intro U hU
  have r_T := (Row.new x2.at [.int .i64 (a : Int), .int .i64 (b : Int)] 42).below hU
  have s_S := ((r_S x2).old (.cells #[.int .i64 (a : Int), .int .i64 (b : Int)] 42)).below hU
  have s_P := ((r_P x2).old (.cells #[.int .i64 (a : Int), .int .i64 (b : Int)] 42)).below hU
  have KU := Lib.hid (show Below w.heap.size w U from ((KK.out x2).alloc (KK.out x2).size _).trans (hU.mono (by have := (KK.out x2).size; simp; omega)))
  have nt : x2.at.heap.size ≠ w.heap.size ∧ x2.at.heap.size ≠ w.heap.size + 1 := ⟨by have := (r_S x2).lt; omega, by have := (r_P x2).lt; omega⟩
  clear hU r_S r_P KK
  obtain ⟨pT, hpT⟩ : ∃ p, p = x2.at.heap.size := ⟨_, rfl⟩
  rw [← hpT] at r_T nt
  simp only [← hpT]
  clear hpT
  obtain ⟨pS, hpS⟩ : ∃ p, p = w.heap.size := ⟨_, rfl⟩
  rw [← hpS] at s_S s_P nt KU
  simp only [← hpS]
  have HP := Lib.hid hpS
  clear hpS
  have c_0 := r_T.cell 0
  have c_1 := r_T.cell 1
  simp only [List.getElem?_cons_zero, List.getElem?_cons_succ] at c_0 c_1
  have d_0 := s_S.cell 0
  have d_1 := s_S.cell 1
  have d_2 := s_S.cell 2
  have d_3 := s_S.cell 3
  have d_4 := s_S.cell 4
  have d_5 := s_S.cell 5
  have d_6 := s_S.cell 6
  have d_7 := s_S.cell 7
  have d_8 := s_S.cell 8
  have d_9 := s_S.cell 9
  have d_10 := s_S.cell 10
  have d_11 := s_S.cell 11
  have d_12 := s_S.cell 12
  have d_13 := s_S.cell 13
  have d_14 := s_S.cell 14
  have d_15 := s_S.cell 15
  have e_0 := s_P.cell 0
  have e_1 := s_P.cell 1
  have d_f := fun i => s_S.free i
  have e_f := fun i => s_P.free i
  simp only [List.getElem?_cons_zero, List.getElem?_cons_succ] at d_0 d_1 d_2 d_3 d_4 d_5 d_6 d_7 d_8 d_9 d_10 d_11 d_12 d_13 d_14 d_15 e_0 e_1
  have nt1 : pT ≠ pS := nt.1
  have nt2 : pT ≠ pS + 1 := nt.2
  have SS := Lib.hid s_S
  have SP := Lib.hid s_P
  clear s_S s_P r_T nt
  go_upto_region 3 with fail
  go_region
  all_goals (go_wp2)
  all_goals (refine bodyPost_ret (v := .tuple #[.agg #[.string ⟨#[]⟩, .slice none 0 0, .slice none 0 0, .bool false, .int .i64 0, .int .i64 0, .int .i64 0, .int .u64 0, .int .u64 0, .slice none 0 0, .slice none 0 0, .slice none 0 0, .slice none 0 0, .slice none 0 0, .slice none 0 0, .int .i64 0], .agg #[.int .i64 (a : Int), .int .i64 (b : Int)]]) (by simp [results, Tryz.results6, go_sem, *]) rfl ⟨rfl, ?_⟩)
  all_goals (rw [← HP.out])
  all_goals (repeat' first | (with_reducible exact KU.out) | (with_reducible refine Below.drew ?_) | (with_reducible refine Below.setCell ?_ ?_ _) | (simp; done) | (simp; omega) | omega)

end Go.Proofs.YtlpejfoeiaogcaaGreatDoor
