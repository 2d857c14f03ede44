/-
  Layer 12: the law LitmusLong, walked.
-/
import Derived.Test.YtlpejfoeiaogcaaGreatDoorEw
import Derived.Test.YtlpejfoeiaogcaaGreatDoorR33
set_option linter.unusedSimpArgs false
set_option linter.unusedVariables false
namespace Go.Proofs.YtlpejfoeiaogcaaGreatDoor
open Go.RowKit GrP GrL

set_option maxRecDepth 100000 in
set_option maxHeartbeats 3200000 in
theorem litmusLong_walk (l : Tx) (w : World) (AW0 : Calls Tryz.prog 4 #[] w fun e w' => e = .returned (.bool true) ∧ Below w.heap.size w w') : Calls Tryz.prog 3 #[.string (strL l)] w fun e w' => e = .returned (.bool true) ∧ Below w.heap.size w w' := by
  have AW := Lib.hid AW0
  clear AW0
  have RC := Lib.hid (fun w => rcheck_any l w)
  by_cases h : (checkL l).1 = 0
  · obtain ⟨b, hb⟩ : ∃ b, b = (checkL l).2 := ⟨_, rfl⟩
    rw [← hb, h] at RC
    clear hb h
    go_enter Tryz.func3, Tryz.ntmps3
    go_upto_region 3 with (go_at_call 4; refine AW.out.mono ?_; rintro e w1 ⟨rfl, d⟩; obtain ⟨x1, rfl⟩ := Wb.start d; clear d)
    go_wp2_with (go_at_call 5; refine (RC.out _).mono ?_; rintro e w1 ⟨rfl, rfl⟩)
    go_ret
    exact ⟨rfl, x1.bel⟩
  · have PB := Lib.hid (fun w => parse_bad l w h)
    have h2 : ¬ (((checkL l).1 : Nat) : Int) = 0 := by omega
    have h3 : ((((checkL l).1 : Nat) : Int) == 0) = false := by simp; omega
    clear h
    obtain ⟨a, ha⟩ : ∃ a, a = (checkL l).1 := ⟨_, rfl⟩
    obtain ⟨b, hb⟩ : ∃ b, b = (checkL l).2 := ⟨_, rfl⟩
    rw [← hb, ← ha] at RC PB
    rw [← ha] at h2 h3
    clear ha hb
    go_enter Tryz.func3, Tryz.ntmps3
    go_upto_region 3 with (go_at_call 4; refine AW.out.mono ?_; rintro e w1 ⟨rfl, d⟩; obtain ⟨x1, rfl⟩ := Wb.start d; clear d)
    go_upto_region 6 with (go_at_call 5; refine (RC.out _).mono ?_; rintro e w1 ⟨rfl, rfl⟩)
    go_upto_region 7 with (go_at_call 6; refine (PB.out _).mono ?_; rintro e w1 ⟨rfl, d⟩; obtain ⟨x2, rfl⟩ := Wb.next d; clear d)
    refine to_pt ?_
    intro U hU
    have r_S := ((Row.new x2.at [.string ⟨#[]⟩, .slice none 0 0, .slice none 0 0, .bool false, .int .i64 0, .int .i64 0, .int .i64 0, .int .u64 0, .int .u64 0, .slice none 0 0, .slice none 0 0, .slice none 0 0, .slice none 0 0, .slice none 0 0, .slice none 0 0, .int .i64 0] 39).old (.cells #[.int .i64 (a : Int), .int .i64 (b : Int)] 42)).below hU
    have r_P := (Row.new' (x2.at.alloc (.cells #[.string ⟨#[]⟩, .slice none 0 0, .slice none 0 0, .bool false, .int .i64 0, .int .i64 0, .int .i64 0, .int .u64 0, .int .u64 0, .slice none 0 0, .slice none 0 0, .slice none 0 0, .slice none 0 0, .slice none 0 0, .slice none 0 0, .int .i64 0] 39)) [.int .i64 (a : Int), .int .i64 (b : Int)] 42 (x2.at.heap.size + 1) (by simp)).below hU
    have KU := Lib.hid (show Below w.heap.size w U from (KB.alloc (KB.alloc x2.bel _) _).trans (hU.mono (by have := x2.size; simp; omega)))
    clear hU
    have c_0 := r_S.cell 0
    have c_2 := r_S.cell 2
    have d_0 := r_P.cell 0
    have d_1 := r_P.cell 1
    simp only [List.getElem?_cons_zero, List.getElem?_cons_succ] at c_0 c_2 d_0 d_1
    clear r_S r_P
    go_wp2
    go_ret
    exact ⟨rfl, KU.out⟩
end Go.Proofs.YtlpejfoeiaogcaaGreatDoor
