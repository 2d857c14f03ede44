/-
  Texts of one claim, merged.
-/
import Derived.Test.YtlflknfkenfpiaaGreatDoorB5
set_option linter.unusedSimpArgs false
set_option linter.unusedVariables false
namespace Go.Proofs.YtlflknfkenfpiaaGreatDoor
open Go.RowKit
theorem right_eq_13 (d n m imm kind : Int) : decide (GrI.right ⟨13, d, n, m, imm, kind⟩) = (GrI.inB d 0 31 && (GrI.inB n 0 31 && (GrI.inB m 0 31 && ((imm == 0) && ((kind == 0)))))) := by
  rw [Bool.eq_iff_iff]
  simp [GrI.right, GrI.parts, GrI.nums, GrI.inB]
  try omega
set_option maxRecDepth 100000 in
set_option maxHeartbeats 6400000 in
theorem rright_13 (d n m imm kind : Int) (w : World) :
    Calls Tryz.prog 57 #[.agg #[.int .i64 13, .int .i64 d, .int .i64 n, .int .i64 m, .int .i64 imm, .int .i64 kind]] w fun e w' => e = .returned (.bool (decide (GrI.right ⟨13, d, n, m, imm, kind⟩))) ∧ w.alloc (.cells #[.int .i64 13, .int .i64 d, .int .i64 n, .int .i64 m, .int .i64 imm, .int .i64 kind] 84) = w' := by
  have E := Lib.hid (right_eq_13 d n m imm kind)
  have ep : GrI.parts 13 = 7 := rfl
  have h1 : GrI.hasB 7 1 = true := rfl
  have h2 : GrI.hasB 7 2 = true := rfl
  have h4 : GrI.hasB 7 4 = true := rfl
  have h8 : GrI.hasB 7 8 = false := rfl
  have h16 : GrI.hasB 7 16 = false := rfl
  cases c0 : GrI.inB d 0 31 with
  | false =>
    go_enter Tryz.func57, Tryz.ntmps57
    go_wp2_with (first | (go_at_call 88; refine (parts_in 13 _ (by decide) (by decide)).mono ?_; rintro e w1 ⟨rfl, rfl⟩) | (go_at_call 89; refine (in_any _ _ _ _).mono ?_; rintro e w1 ⟨rfl, rfl⟩) | (go_at_call 90; refine (has_any _ _ _ (by decide) (by decide) (by decide)).mono ?_; rintro e w1 ⟨rfl, rfl⟩))
    go_ret
    exact ⟨ret_b (by rw [E.out]; simp [c0]), rfl⟩
  | true =>
    cases c1 : GrI.inB n 0 31 with
    | false =>
      go_enter Tryz.func57, Tryz.ntmps57
      go_wp2_with (first | (go_at_call 88; refine (parts_in 13 _ (by decide) (by decide)).mono ?_; rintro e w1 ⟨rfl, rfl⟩) | (go_at_call 89; refine (in_any _ _ _ _).mono ?_; rintro e w1 ⟨rfl, rfl⟩) | (go_at_call 90; refine (has_any _ _ _ (by decide) (by decide) (by decide)).mono ?_; rintro e w1 ⟨rfl, rfl⟩))
      go_ret
      exact ⟨ret_b (by rw [E.out]; simp [c0, c1]), rfl⟩
    | true =>
      cases c2 : GrI.inB m 0 31 with
      | false =>
        go_enter Tryz.func57, Tryz.ntmps57
        go_wp2_with (first | (go_at_call 88; refine (parts_in 13 _ (by decide) (by decide)).mono ?_; rintro e w1 ⟨rfl, rfl⟩) | (go_at_call 89; refine (in_any _ _ _ _).mono ?_; rintro e w1 ⟨rfl, rfl⟩) | (go_at_call 90; refine (has_any _ _ _ (by decide) (by decide) (by decide)).mono ?_; rintro e w1 ⟨rfl, rfl⟩))
        go_ret
        exact ⟨ret_b (by rw [E.out]; simp [c0, c1, c2]), rfl⟩
      | true =>
        by_cases z3 : imm = 0
        · subst z3
          by_cases z4 : kind = 0
          · subst z4
            go_enter Tryz.func57, Tryz.ntmps57
            go_wp2_with (first | (go_at_call 88; refine (parts_in 13 _ (by decide) (by decide)).mono ?_; rintro e w1 ⟨rfl, rfl⟩) | (go_at_call 89; refine (in_any _ _ _ _).mono ?_; rintro e w1 ⟨rfl, rfl⟩) | (go_at_call 90; refine (has_any _ _ _ (by decide) (by decide) (by decide)).mono ?_; rintro e w1 ⟨rfl, rfl⟩))
            go_ret
            exact ⟨ret_b (by rw [E.out]; simp [c0, c1, c2]), rfl⟩
          · have c4 : (kind != 0) = true := by simpa using z4
            have c4b : (kind == 0) = false := by simpa using z4
            clear z4
            go_enter Tryz.func57, Tryz.ntmps57
            go_wp2_with (first | (go_at_call 88; refine (parts_in 13 _ (by decide) (by decide)).mono ?_; rintro e w1 ⟨rfl, rfl⟩) | (go_at_call 89; refine (in_any _ _ _ _).mono ?_; rintro e w1 ⟨rfl, rfl⟩) | (go_at_call 90; refine (has_any _ _ _ (by decide) (by decide) (by decide)).mono ?_; rintro e w1 ⟨rfl, rfl⟩))
            go_ret
            exact ⟨ret_b (by rw [E.out]; simp [c0, c1, c2, c4b]), rfl⟩
        · have c3 : (imm != 0) = true := by simpa using z3
          have c3b : (imm == 0) = false := by simpa using z3
          clear z3
          go_enter Tryz.func57, Tryz.ntmps57
          go_wp2_with (first | (go_at_call 88; refine (parts_in 13 _ (by decide) (by decide)).mono ?_; rintro e w1 ⟨rfl, rfl⟩) | (go_at_call 89; refine (in_any _ _ _ _).mono ?_; rintro e w1 ⟨rfl, rfl⟩) | (go_at_call 90; refine (has_any _ _ _ (by decide) (by decide) (by decide)).mono ?_; rintro e w1 ⟨rfl, rfl⟩))
          go_ret
          exact ⟨ret_b (by rw [E.out]; simp [c0, c1, c2, c3b]), rfl⟩
theorem right_eq_14 (d n m imm kind : Int) : decide (GrI.right ⟨14, d, n, m, imm, kind⟩) = (GrI.inB d 0 31 && (GrI.inB n 0 31 && (GrI.inB m 0 31 && ((d == 0) && ((n == 0) && ((m == 0) && ((kind == 0) && ((GrI.inB imm (-33554432) 33554431))))))))) := by
  rw [Bool.eq_iff_iff]
  simp [GrI.right, GrI.parts, GrI.nums, GrI.inB]
  try omega
set_option maxRecDepth 100000 in
set_option maxHeartbeats 6400000 in
theorem rright_14 (d n m imm kind : Int) (w : World) :
    Calls Tryz.prog 57 #[.agg #[.int .i64 14, .int .i64 d, .int .i64 n, .int .i64 m, .int .i64 imm, .int .i64 kind]] w fun e w' => e = .returned (.bool (decide (GrI.right ⟨14, d, n, m, imm, kind⟩))) ∧ w.alloc (.cells #[.int .i64 14, .int .i64 d, .int .i64 n, .int .i64 m, .int .i64 imm, .int .i64 kind] 84) = w' := by
  have E := Lib.hid (right_eq_14 d n m imm kind)
  have ep : GrI.parts 14 = 8 := rfl
  have h1 : GrI.hasB 8 1 = false := rfl
  have h2 : GrI.hasB 8 2 = false := rfl
  have h4 : GrI.hasB 8 4 = false := rfl
  have h8 : GrI.hasB 8 8 = true := rfl
  have h16 : GrI.hasB 8 16 = false := rfl
  cases c0 : GrI.inB d 0 31 with
  | false =>
    go_enter Tryz.func57, Tryz.ntmps57
    go_wp2_with (first | (go_at_call 88; refine (parts_in 14 _ (by decide) (by decide)).mono ?_; rintro e w1 ⟨rfl, rfl⟩) | (go_at_call 89; refine (in_any _ _ _ _).mono ?_; rintro e w1 ⟨rfl, rfl⟩) | (go_at_call 90; refine (has_any _ _ _ (by decide) (by decide) (by decide)).mono ?_; rintro e w1 ⟨rfl, rfl⟩))
    go_ret
    exact ⟨ret_b (by rw [E.out]; simp [c0]), rfl⟩
  | true =>
    cases c1 : GrI.inB n 0 31 with
    | false =>
      go_enter Tryz.func57, Tryz.ntmps57
      go_wp2_with (first | (go_at_call 88; refine (parts_in 14 _ (by decide) (by decide)).mono ?_; rintro e w1 ⟨rfl, rfl⟩) | (go_at_call 89; refine (in_any _ _ _ _).mono ?_; rintro e w1 ⟨rfl, rfl⟩) | (go_at_call 90; refine (has_any _ _ _ (by decide) (by decide) (by decide)).mono ?_; rintro e w1 ⟨rfl, rfl⟩))
      go_ret
      exact ⟨ret_b (by rw [E.out]; simp [c0, c1]), rfl⟩
    | true =>
      cases c2 : GrI.inB m 0 31 with
      | false =>
        go_enter Tryz.func57, Tryz.ntmps57
        go_wp2_with (first | (go_at_call 88; refine (parts_in 14 _ (by decide) (by decide)).mono ?_; rintro e w1 ⟨rfl, rfl⟩) | (go_at_call 89; refine (in_any _ _ _ _).mono ?_; rintro e w1 ⟨rfl, rfl⟩) | (go_at_call 90; refine (has_any _ _ _ (by decide) (by decide) (by decide)).mono ?_; rintro e w1 ⟨rfl, rfl⟩))
        go_ret
        exact ⟨ret_b (by rw [E.out]; simp [c0, c1, c2]), rfl⟩
      | true =>
        by_cases z3 : d = 0
        · subst z3
          by_cases z4 : n = 0
          · subst z4
            by_cases z5 : m = 0
            · subst z5
              by_cases z6 : kind = 0
              · subst z6
                go_enter Tryz.func57, Tryz.ntmps57
                go_wp2_with (first | (go_at_call 88; refine (parts_in 14 _ (by decide) (by decide)).mono ?_; rintro e w1 ⟨rfl, rfl⟩) | (go_at_call 89; refine (in_any _ _ _ _).mono ?_; rintro e w1 ⟨rfl, rfl⟩) | (go_at_call 90; refine (has_any _ _ _ (by decide) (by decide) (by decide)).mono ?_; rintro e w1 ⟨rfl, rfl⟩))
                go_ret
                exact ⟨ret_b (by rw [E.out]; simp [c0, c1, c2]), rfl⟩
              · have c6 : (kind != 0) = true := by simpa using z6
                have c6b : (kind == 0) = false := by simpa using z6
                clear z6
                go_enter Tryz.func57, Tryz.ntmps57
                go_wp2_with (first | (go_at_call 88; refine (parts_in 14 _ (by decide) (by decide)).mono ?_; rintro e w1 ⟨rfl, rfl⟩) | (go_at_call 89; refine (in_any _ _ _ _).mono ?_; rintro e w1 ⟨rfl, rfl⟩) | (go_at_call 90; refine (has_any _ _ _ (by decide) (by decide) (by decide)).mono ?_; rintro e w1 ⟨rfl, rfl⟩))
                go_ret
                exact ⟨ret_b (by rw [E.out]; simp [c0, c1, c2, c6b]), rfl⟩
            · have c5 : (m != 0) = true := by simpa using z5
              have c5b : (m == 0) = false := by simpa using z5
              clear z5
              go_enter Tryz.func57, Tryz.ntmps57
              go_wp2_with (first | (go_at_call 88; refine (parts_in 14 _ (by decide) (by decide)).mono ?_; rintro e w1 ⟨rfl, rfl⟩) | (go_at_call 89; refine (in_any _ _ _ _).mono ?_; rintro e w1 ⟨rfl, rfl⟩) | (go_at_call 90; refine (has_any _ _ _ (by decide) (by decide) (by decide)).mono ?_; rintro e w1 ⟨rfl, rfl⟩))
              go_ret
              exact ⟨ret_b (by rw [E.out]; simp [c0, c1, c2, c5b]), rfl⟩
          · have c4 : (n != 0) = true := by simpa using z4
            have c4b : (n == 0) = false := by simpa using z4
            clear z4
            go_enter Tryz.func57, Tryz.ntmps57
            go_wp2_with (first | (go_at_call 88; refine (parts_in 14 _ (by decide) (by decide)).mono ?_; rintro e w1 ⟨rfl, rfl⟩) | (go_at_call 89; refine (in_any _ _ _ _).mono ?_; rintro e w1 ⟨rfl, rfl⟩) | (go_at_call 90; refine (has_any _ _ _ (by decide) (by decide) (by decide)).mono ?_; rintro e w1 ⟨rfl, rfl⟩))
            go_ret
            exact ⟨ret_b (by rw [E.out]; simp [c0, c1, c2, c4b]), rfl⟩
        · have c3 : (d != 0) = true := by simpa using z3
          have c3b : (d == 0) = false := by simpa using z3
          clear z3
          go_enter Tryz.func57, Tryz.ntmps57
          go_wp2_with (first | (go_at_call 88; refine (parts_in 14 _ (by decide) (by decide)).mono ?_; rintro e w1 ⟨rfl, rfl⟩) | (go_at_call 89; refine (in_any _ _ _ _).mono ?_; rintro e w1 ⟨rfl, rfl⟩) | (go_at_call 90; refine (has_any _ _ _ (by decide) (by decide) (by decide)).mono ?_; rintro e w1 ⟨rfl, rfl⟩))
          go_ret
          exact ⟨ret_b (by rw [E.out]; simp [c0, c1, c2, c3b]), rfl⟩
theorem right_eq_15 (d n m imm kind : Int) : decide (GrI.right ⟨15, d, n, m, imm, kind⟩) = (GrI.inB d 0 31 && (GrI.inB n 0 31 && (GrI.inB m 0 31 && ((n == 0) && ((m == 0) && ((kind == 0) && ((GrI.inB imm (-262144) 262143)))))))) := by
  rw [Bool.eq_iff_iff]
  simp [GrI.right, GrI.parts, GrI.nums, GrI.inB]
  try omega
set_option maxRecDepth 100000 in
set_option maxHeartbeats 6400000 in
theorem rright_15 (d n m imm kind : Int) (w : World) :
    Calls Tryz.prog 57 #[.agg #[.int .i64 15, .int .i64 d, .int .i64 n, .int .i64 m, .int .i64 imm, .int .i64 kind]] w fun e w' => e = .returned (.bool (decide (GrI.right ⟨15, d, n, m, imm, kind⟩))) ∧ w.alloc (.cells #[.int .i64 15, .int .i64 d, .int .i64 n, .int .i64 m, .int .i64 imm, .int .i64 kind] 84) = w' := by
  have E := Lib.hid (right_eq_15 d n m imm kind)
  have ep : GrI.parts 15 = 9 := rfl
  have h1 : GrI.hasB 9 1 = true := rfl
  have h2 : GrI.hasB 9 2 = false := rfl
  have h4 : GrI.hasB 9 4 = false := rfl
  have h8 : GrI.hasB 9 8 = true := rfl
  have h16 : GrI.hasB 9 16 = false := rfl
  cases c0 : GrI.inB d 0 31 with
  | false =>
    go_enter Tryz.func57, Tryz.ntmps57
    go_wp2_with (first | (go_at_call 88; refine (parts_in 15 _ (by decide) (by decide)).mono ?_; rintro e w1 ⟨rfl, rfl⟩) | (go_at_call 89; refine (in_any _ _ _ _).mono ?_; rintro e w1 ⟨rfl, rfl⟩) | (go_at_call 90; refine (has_any _ _ _ (by decide) (by decide) (by decide)).mono ?_; rintro e w1 ⟨rfl, rfl⟩))
    go_ret
    exact ⟨ret_b (by rw [E.out]; simp [c0]), rfl⟩
  | true =>
    cases c1 : GrI.inB n 0 31 with
    | false =>
      go_enter Tryz.func57, Tryz.ntmps57
      go_wp2_with (first | (go_at_call 88; refine (parts_in 15 _ (by decide) (by decide)).mono ?_; rintro e w1 ⟨rfl, rfl⟩) | (go_at_call 89; refine (in_any _ _ _ _).mono ?_; rintro e w1 ⟨rfl, rfl⟩) | (go_at_call 90; refine (has_any _ _ _ (by decide) (by decide) (by decide)).mono ?_; rintro e w1 ⟨rfl, rfl⟩))
      go_ret
      exact ⟨ret_b (by rw [E.out]; simp [c0, c1]), rfl⟩
    | true =>
      cases c2 : GrI.inB m 0 31 with
      | false =>
        go_enter Tryz.func57, Tryz.ntmps57
        go_wp2_with (first | (go_at_call 88; refine (parts_in 15 _ (by decide) (by decide)).mono ?_; rintro e w1 ⟨rfl, rfl⟩) | (go_at_call 89; refine (in_any _ _ _ _).mono ?_; rintro e w1 ⟨rfl, rfl⟩) | (go_at_call 90; refine (has_any _ _ _ (by decide) (by decide) (by decide)).mono ?_; rintro e w1 ⟨rfl, rfl⟩))
        go_ret
        exact ⟨ret_b (by rw [E.out]; simp [c0, c1, c2]), rfl⟩
      | true =>
        by_cases z3 : n = 0
        · subst z3
          by_cases z4 : m = 0
          · subst z4
            by_cases z5 : kind = 0
            · subst z5
              go_enter Tryz.func57, Tryz.ntmps57
              go_wp2_with (first | (go_at_call 88; refine (parts_in 15 _ (by decide) (by decide)).mono ?_; rintro e w1 ⟨rfl, rfl⟩) | (go_at_call 89; refine (in_any _ _ _ _).mono ?_; rintro e w1 ⟨rfl, rfl⟩) | (go_at_call 90; refine (has_any _ _ _ (by decide) (by decide) (by decide)).mono ?_; rintro e w1 ⟨rfl, rfl⟩))
              go_ret
              exact ⟨ret_b (by rw [E.out]; simp [c0, c1, c2]), rfl⟩
            · have c5 : (kind != 0) = true := by simpa using z5
              have c5b : (kind == 0) = false := by simpa using z5
              clear z5
              go_enter Tryz.func57, Tryz.ntmps57
              go_wp2_with (first | (go_at_call 88; refine (parts_in 15 _ (by decide) (by decide)).mono ?_; rintro e w1 ⟨rfl, rfl⟩) | (go_at_call 89; refine (in_any _ _ _ _).mono ?_; rintro e w1 ⟨rfl, rfl⟩) | (go_at_call 90; refine (has_any _ _ _ (by decide) (by decide) (by decide)).mono ?_; rintro e w1 ⟨rfl, rfl⟩))
              go_ret
              exact ⟨ret_b (by rw [E.out]; simp [c0, c1, c2, c5b]), rfl⟩
          · have c4 : (m != 0) = true := by simpa using z4
            have c4b : (m == 0) = false := by simpa using z4
            clear z4
            go_enter Tryz.func57, Tryz.ntmps57
            go_wp2_with (first | (go_at_call 88; refine (parts_in 15 _ (by decide) (by decide)).mono ?_; rintro e w1 ⟨rfl, rfl⟩) | (go_at_call 89; refine (in_any _ _ _ _).mono ?_; rintro e w1 ⟨rfl, rfl⟩) | (go_at_call 90; refine (has_any _ _ _ (by decide) (by decide) (by decide)).mono ?_; rintro e w1 ⟨rfl, rfl⟩))
            go_ret
            exact ⟨ret_b (by rw [E.out]; simp [c0, c1, c2, c4b]), rfl⟩
        · have c3 : (n != 0) = true := by simpa using z3
          have c3b : (n == 0) = false := by simpa using z3
          clear z3
          go_enter Tryz.func57, Tryz.ntmps57
          go_wp2_with (first | (go_at_call 88; refine (parts_in 15 _ (by decide) (by decide)).mono ?_; rintro e w1 ⟨rfl, rfl⟩) | (go_at_call 89; refine (in_any _ _ _ _).mono ?_; rintro e w1 ⟨rfl, rfl⟩) | (go_at_call 90; refine (has_any _ _ _ (by decide) (by decide) (by decide)).mono ?_; rintro e w1 ⟨rfl, rfl⟩))
          go_ret
          exact ⟨ret_b (by rw [E.out]; simp [c0, c1, c2, c3b]), rfl⟩
theorem right_eq_16 (d n m imm kind : Int) : decide (GrI.right ⟨16, d, n, m, imm, kind⟩) = (GrI.inB d 0 31 && (GrI.inB n 0 31 && (GrI.inB m 0 31 && ((n == 0) && ((m == 0) && ((kind == 0) && ((GrI.inB imm (-262144) 262143)))))))) := by
  rw [Bool.eq_iff_iff]
  simp [GrI.right, GrI.parts, GrI.nums, GrI.inB]
  try omega
set_option maxRecDepth 100000 in
set_option maxHeartbeats 6400000 in
theorem rright_16 (d n m imm kind : Int) (w : World) :
    Calls Tryz.prog 57 #[.agg #[.int .i64 16, .int .i64 d, .int .i64 n, .int .i64 m, .int .i64 imm, .int .i64 kind]] w fun e w' => e = .returned (.bool (decide (GrI.right ⟨16, d, n, m, imm, kind⟩))) ∧ w.alloc (.cells #[.int .i64 16, .int .i64 d, .int .i64 n, .int .i64 m, .int .i64 imm, .int .i64 kind] 84) = w' := by
  have E := Lib.hid (right_eq_16 d n m imm kind)
  have ep : GrI.parts 16 = 9 := rfl
  have h1 : GrI.hasB 9 1 = true := rfl
  have h2 : GrI.hasB 9 2 = false := rfl
  have h4 : GrI.hasB 9 4 = false := rfl
  have h8 : GrI.hasB 9 8 = true := rfl
  have h16 : GrI.hasB 9 16 = false := rfl
  cases c0 : GrI.inB d 0 31 with
  | false =>
    go_enter Tryz.func57, Tryz.ntmps57
    go_wp2_with (first | (go_at_call 88; refine (parts_in 16 _ (by decide) (by decide)).mono ?_; rintro e w1 ⟨rfl, rfl⟩) | (go_at_call 89; refine (in_any _ _ _ _).mono ?_; rintro e w1 ⟨rfl, rfl⟩) | (go_at_call 90; refine (has_any _ _ _ (by decide) (by decide) (by decide)).mono ?_; rintro e w1 ⟨rfl, rfl⟩))
    go_ret
    exact ⟨ret_b (by rw [E.out]; simp [c0]), rfl⟩
  | true =>
    cases c1 : GrI.inB n 0 31 with
    | false =>
      go_enter Tryz.func57, Tryz.ntmps57
      go_wp2_with (first | (go_at_call 88; refine (parts_in 16 _ (by decide) (by decide)).mono ?_; rintro e w1 ⟨rfl, rfl⟩) | (go_at_call 89; refine (in_any _ _ _ _).mono ?_; rintro e w1 ⟨rfl, rfl⟩) | (go_at_call 90; refine (has_any _ _ _ (by decide) (by decide) (by decide)).mono ?_; rintro e w1 ⟨rfl, rfl⟩))
      go_ret
      exact ⟨ret_b (by rw [E.out]; simp [c0, c1]), rfl⟩
    | true =>
      cases c2 : GrI.inB m 0 31 with
      | false =>
        go_enter Tryz.func57, Tryz.ntmps57
        go_wp2_with (first | (go_at_call 88; refine (parts_in 16 _ (by decide) (by decide)).mono ?_; rintro e w1 ⟨rfl, rfl⟩) | (go_at_call 89; refine (in_any _ _ _ _).mono ?_; rintro e w1 ⟨rfl, rfl⟩) | (go_at_call 90; refine (has_any _ _ _ (by decide) (by decide) (by decide)).mono ?_; rintro e w1 ⟨rfl, rfl⟩))
        go_ret
        exact ⟨ret_b (by rw [E.out]; simp [c0, c1, c2]), rfl⟩
      | true =>
        by_cases z3 : n = 0
        · subst z3
          by_cases z4 : m = 0
          · subst z4
            by_cases z5 : kind = 0
            · subst z5
              go_enter Tryz.func57, Tryz.ntmps57
              go_wp2_with (first | (go_at_call 88; refine (parts_in 16 _ (by decide) (by decide)).mono ?_; rintro e w1 ⟨rfl, rfl⟩) | (go_at_call 89; refine (in_any _ _ _ _).mono ?_; rintro e w1 ⟨rfl, rfl⟩) | (go_at_call 90; refine (has_any _ _ _ (by decide) (by decide) (by decide)).mono ?_; rintro e w1 ⟨rfl, rfl⟩))
              go_ret
              exact ⟨ret_b (by rw [E.out]; simp [c0, c1, c2]), rfl⟩
            · have c5 : (kind != 0) = true := by simpa using z5
              have c5b : (kind == 0) = false := by simpa using z5
              clear z5
              go_enter Tryz.func57, Tryz.ntmps57
              go_wp2_with (first | (go_at_call 88; refine (parts_in 16 _ (by decide) (by decide)).mono ?_; rintro e w1 ⟨rfl, rfl⟩) | (go_at_call 89; refine (in_any _ _ _ _).mono ?_; rintro e w1 ⟨rfl, rfl⟩) | (go_at_call 90; refine (has_any _ _ _ (by decide) (by decide) (by decide)).mono ?_; rintro e w1 ⟨rfl, rfl⟩))
              go_ret
              exact ⟨ret_b (by rw [E.out]; simp [c0, c1, c2, c5b]), rfl⟩
          · have c4 : (m != 0) = true := by simpa using z4
            have c4b : (m == 0) = false := by simpa using z4
            clear z4
            go_enter Tryz.func57, Tryz.ntmps57
            go_wp2_with (first | (go_at_call 88; refine (parts_in 16 _ (by decide) (by decide)).mono ?_; rintro e w1 ⟨rfl, rfl⟩) | (go_at_call 89; refine (in_any _ _ _ _).mono ?_; rintro e w1 ⟨rfl, rfl⟩) | (go_at_call 90; refine (has_any _ _ _ (by decide) (by decide) (by decide)).mono ?_; rintro e w1 ⟨rfl, rfl⟩))
            go_ret
            exact ⟨ret_b (by rw [E.out]; simp [c0, c1, c2, c4b]), rfl⟩
        · have c3 : (n != 0) = true := by simpa using z3
          have c3b : (n == 0) = false := by simpa using z3
          clear z3
          go_enter Tryz.func57, Tryz.ntmps57
          go_wp2_with (first | (go_at_call 88; refine (parts_in 16 _ (by decide) (by decide)).mono ?_; rintro e w1 ⟨rfl, rfl⟩) | (go_at_call 89; refine (in_any _ _ _ _).mono ?_; rintro e w1 ⟨rfl, rfl⟩) | (go_at_call 90; refine (has_any _ _ _ (by decide) (by decide) (by decide)).mono ?_; rintro e w1 ⟨rfl, rfl⟩))
          go_ret
          exact ⟨ret_b (by rw [E.out]; simp [c0, c1, c2, c3b]), rfl⟩
theorem right_eq_17 (d n m imm kind : Int) : decide (GrI.right ⟨17, d, n, m, imm, kind⟩) = (GrI.inB d 0 31 && (GrI.inB n 0 31 && (GrI.inB m 0 31 && ((d == 0) && ((n == 0) && ((m == 0) && ((GrI.inB imm (-262144) 262143) && ((GrI.inB kind 0 1))))))))) := by
  rw [Bool.eq_iff_iff]
  simp [GrI.right, GrI.parts, GrI.nums, GrI.inB]
  try omega
set_option maxRecDepth 100000 in
set_option maxHeartbeats 6400000 in
theorem rright_17 (d n m imm kind : Int) (w : World) :
    Calls Tryz.prog 57 #[.agg #[.int .i64 17, .int .i64 d, .int .i64 n, .int .i64 m, .int .i64 imm, .int .i64 kind]] w fun e w' => e = .returned (.bool (decide (GrI.right ⟨17, d, n, m, imm, kind⟩))) ∧ w.alloc (.cells #[.int .i64 17, .int .i64 d, .int .i64 n, .int .i64 m, .int .i64 imm, .int .i64 kind] 84) = w' := by
  have E := Lib.hid (right_eq_17 d n m imm kind)
  have ep : GrI.parts 17 = 24 := rfl
  have h1 : GrI.hasB 24 1 = false := rfl
  have h2 : GrI.hasB 24 2 = false := rfl
  have h4 : GrI.hasB 24 4 = false := rfl
  have h8 : GrI.hasB 24 8 = true := rfl
  have h16 : GrI.hasB 24 16 = true := rfl
  cases c0 : GrI.inB d 0 31 with
  | false =>
    go_enter Tryz.func57, Tryz.ntmps57
    go_wp2_with (first | (go_at_call 88; refine (parts_in 17 _ (by decide) (by decide)).mono ?_; rintro e w1 ⟨rfl, rfl⟩) | (go_at_call 89; refine (in_any _ _ _ _).mono ?_; rintro e w1 ⟨rfl, rfl⟩) | (go_at_call 90; refine (has_any _ _ _ (by decide) (by decide) (by decide)).mono ?_; rintro e w1 ⟨rfl, rfl⟩))
    go_ret
    exact ⟨ret_b (by rw [E.out]; simp [c0]), rfl⟩
  | true =>
    cases c1 : GrI.inB n 0 31 with
    | false =>
      go_enter Tryz.func57, Tryz.ntmps57
      go_wp2_with (first | (go_at_call 88; refine (parts_in 17 _ (by decide) (by decide)).mono ?_; rintro e w1 ⟨rfl, rfl⟩) | (go_at_call 89; refine (in_any _ _ _ _).mono ?_; rintro e w1 ⟨rfl, rfl⟩) | (go_at_call 90; refine (has_any _ _ _ (by decide) (by decide) (by decide)).mono ?_; rintro e w1 ⟨rfl, rfl⟩))
      go_ret
      exact ⟨ret_b (by rw [E.out]; simp [c0, c1]), rfl⟩
    | true =>
      cases c2 : GrI.inB m 0 31 with
      | false =>
        go_enter Tryz.func57, Tryz.ntmps57
        go_wp2_with (first | (go_at_call 88; refine (parts_in 17 _ (by decide) (by decide)).mono ?_; rintro e w1 ⟨rfl, rfl⟩) | (go_at_call 89; refine (in_any _ _ _ _).mono ?_; rintro e w1 ⟨rfl, rfl⟩) | (go_at_call 90; refine (has_any _ _ _ (by decide) (by decide) (by decide)).mono ?_; rintro e w1 ⟨rfl, rfl⟩))
        go_ret
        exact ⟨ret_b (by rw [E.out]; simp [c0, c1, c2]), rfl⟩
      | true =>
        by_cases z3 : d = 0
        · subst z3
          by_cases z4 : n = 0
          · subst z4
            by_cases z5 : m = 0
            · subst z5
              cases c90 : GrI.inB imm (-262144) 262143 with
              | false =>
                go_enter Tryz.func57, Tryz.ntmps57
                go_wp2_with (first | (go_at_call 88; refine (parts_in 17 _ (by decide) (by decide)).mono ?_; rintro e w1 ⟨rfl, rfl⟩) | (go_at_call 89; refine (in_any _ _ _ _).mono ?_; rintro e w1 ⟨rfl, rfl⟩) | (go_at_call 90; refine (has_any _ _ _ (by decide) (by decide) (by decide)).mono ?_; rintro e w1 ⟨rfl, rfl⟩))
                go_ret
                exact ⟨ret_b (by rw [E.out]; simp [c0, c1, c2, c90]), rfl⟩
              | true =>
                go_enter Tryz.func57, Tryz.ntmps57
                go_wp2_with (first | (go_at_call 88; refine (parts_in 17 _ (by decide) (by decide)).mono ?_; rintro e w1 ⟨rfl, rfl⟩) | (go_at_call 89; refine (in_any _ _ _ _).mono ?_; rintro e w1 ⟨rfl, rfl⟩) | (go_at_call 90; refine (has_any _ _ _ (by decide) (by decide) (by decide)).mono ?_; rintro e w1 ⟨rfl, rfl⟩))
                go_ret
                exact ⟨ret_b (by rw [E.out]; simp [c0, c1, c2, c90]), rfl⟩
            · have c5 : (m != 0) = true := by simpa using z5
              have c5b : (m == 0) = false := by simpa using z5
              clear z5
              go_enter Tryz.func57, Tryz.ntmps57
              go_wp2_with (first | (go_at_call 88; refine (parts_in 17 _ (by decide) (by decide)).mono ?_; rintro e w1 ⟨rfl, rfl⟩) | (go_at_call 89; refine (in_any _ _ _ _).mono ?_; rintro e w1 ⟨rfl, rfl⟩) | (go_at_call 90; refine (has_any _ _ _ (by decide) (by decide) (by decide)).mono ?_; rintro e w1 ⟨rfl, rfl⟩))
              go_ret
              exact ⟨ret_b (by rw [E.out]; simp [c0, c1, c2, c5b]), rfl⟩
          · have c4 : (n != 0) = true := by simpa using z4
            have c4b : (n == 0) = false := by simpa using z4
            clear z4
            go_enter Tryz.func57, Tryz.ntmps57
            go_wp2_with (first | (go_at_call 88; refine (parts_in 17 _ (by decide) (by decide)).mono ?_; rintro e w1 ⟨rfl, rfl⟩) | (go_at_call 89; refine (in_any _ _ _ _).mono ?_; rintro e w1 ⟨rfl, rfl⟩) | (go_at_call 90; refine (has_any _ _ _ (by decide) (by decide) (by decide)).mono ?_; rintro e w1 ⟨rfl, rfl⟩))
            go_ret
            exact ⟨ret_b (by rw [E.out]; simp [c0, c1, c2, c4b]), rfl⟩
        · have c3 : (d != 0) = true := by simpa using z3
          have c3b : (d == 0) = false := by simpa using z3
          clear z3
          go_enter Tryz.func57, Tryz.ntmps57
          go_wp2_with (first | (go_at_call 88; refine (parts_in 17 _ (by decide) (by decide)).mono ?_; rintro e w1 ⟨rfl, rfl⟩) | (go_at_call 89; refine (in_any _ _ _ _).mono ?_; rintro e w1 ⟨rfl, rfl⟩) | (go_at_call 90; refine (has_any _ _ _ (by decide) (by decide) (by decide)).mono ?_; rintro e w1 ⟨rfl, rfl⟩))
          go_ret
          exact ⟨ret_b (by rw [E.out]; simp [c0, c1, c2, c3b]), rfl⟩
theorem right_eq_18 (d n m imm kind : Int) : decide (GrI.right ⟨18, d, n, m, imm, kind⟩) = (GrI.inB d 0 31 && (GrI.inB n 0 31 && (GrI.inB m 0 31 && ((d == 0) && ((n == 0) && ((m == 0) && ((imm == 0) && ((GrI.inB kind 9 11 || GrI.inB kind 13 15))))))))) := by
  rw [Bool.eq_iff_iff]
  simp [GrI.right, GrI.parts, GrI.nums, GrI.inB]
  try omega
set_option maxRecDepth 100000 in
set_option maxHeartbeats 6400000 in
theorem rright_18 (d n m imm kind : Int) (w : World) :
    Calls Tryz.prog 57 #[.agg #[.int .i64 18, .int .i64 d, .int .i64 n, .int .i64 m, .int .i64 imm, .int .i64 kind]] w fun e w' => e = .returned (.bool (decide (GrI.right ⟨18, d, n, m, imm, kind⟩))) ∧ w.alloc (.cells #[.int .i64 18, .int .i64 d, .int .i64 n, .int .i64 m, .int .i64 imm, .int .i64 kind] 84) = w' := by
  have E := Lib.hid (right_eq_18 d n m imm kind)
  have ep : GrI.parts 18 = 16 := rfl
  have h1 : GrI.hasB 16 1 = false := rfl
  have h2 : GrI.hasB 16 2 = false := rfl
  have h4 : GrI.hasB 16 4 = false := rfl
  have h8 : GrI.hasB 16 8 = false := rfl
  have h16 : GrI.hasB 16 16 = true := rfl
  cases c0 : GrI.inB d 0 31 with
  | false =>
    go_enter Tryz.func57, Tryz.ntmps57
    go_wp2_with (first | (go_at_call 88; refine (parts_in 18 _ (by decide) (by decide)).mono ?_; rintro e w1 ⟨rfl, rfl⟩) | (go_at_call 89; refine (in_any _ _ _ _).mono ?_; rintro e w1 ⟨rfl, rfl⟩) | (go_at_call 90; refine (has_any _ _ _ (by decide) (by decide) (by decide)).mono ?_; rintro e w1 ⟨rfl, rfl⟩))
    go_ret
    exact ⟨ret_b (by rw [E.out]; simp [c0]), rfl⟩
  | true =>
    cases c1 : GrI.inB n 0 31 with
    | false =>
      go_enter Tryz.func57, Tryz.ntmps57
      go_wp2_with (first | (go_at_call 88; refine (parts_in 18 _ (by decide) (by decide)).mono ?_; rintro e w1 ⟨rfl, rfl⟩) | (go_at_call 89; refine (in_any _ _ _ _).mono ?_; rintro e w1 ⟨rfl, rfl⟩) | (go_at_call 90; refine (has_any _ _ _ (by decide) (by decide) (by decide)).mono ?_; rintro e w1 ⟨rfl, rfl⟩))
      go_ret
      exact ⟨ret_b (by rw [E.out]; simp [c0, c1]), rfl⟩
    | true =>
      cases c2 : GrI.inB m 0 31 with
      | false =>
        go_enter Tryz.func57, Tryz.ntmps57
        go_wp2_with (first | (go_at_call 88; refine (parts_in 18 _ (by decide) (by decide)).mono ?_; rintro e w1 ⟨rfl, rfl⟩) | (go_at_call 89; refine (in_any _ _ _ _).mono ?_; rintro e w1 ⟨rfl, rfl⟩) | (go_at_call 90; refine (has_any _ _ _ (by decide) (by decide) (by decide)).mono ?_; rintro e w1 ⟨rfl, rfl⟩))
        go_ret
        exact ⟨ret_b (by rw [E.out]; simp [c0, c1, c2]), rfl⟩
      | true =>
        by_cases z3 : d = 0
        · subst z3
          by_cases z4 : n = 0
          · subst z4
            by_cases z5 : m = 0
            · subst z5
              by_cases z6 : imm = 0
              · subst z6
                cases c90 : GrI.inB kind 9 11 with
                | false =>
                  go_enter Tryz.func57, Tryz.ntmps57
                  go_wp2_with (first | (go_at_call 88; refine (parts_in 18 _ (by decide) (by decide)).mono ?_; rintro e w1 ⟨rfl, rfl⟩) | (go_at_call 89; refine (in_any _ _ _ _).mono ?_; rintro e w1 ⟨rfl, rfl⟩) | (go_at_call 90; refine (has_any _ _ _ (by decide) (by decide) (by decide)).mono ?_; rintro e w1 ⟨rfl, rfl⟩))
                  go_ret
                  exact ⟨ret_b (by rw [E.out]; simp [c0, c1, c2, c90]), rfl⟩
                | true =>
                  go_enter Tryz.func57, Tryz.ntmps57
                  go_wp2_with (first | (go_at_call 88; refine (parts_in 18 _ (by decide) (by decide)).mono ?_; rintro e w1 ⟨rfl, rfl⟩) | (go_at_call 89; refine (in_any _ _ _ _).mono ?_; rintro e w1 ⟨rfl, rfl⟩) | (go_at_call 90; refine (has_any _ _ _ (by decide) (by decide) (by decide)).mono ?_; rintro e w1 ⟨rfl, rfl⟩))
                  go_ret
                  exact ⟨ret_b (by rw [E.out]; simp [c0, c1, c2, c90]), rfl⟩
              · have c6 : (imm != 0) = true := by simpa using z6
                have c6b : (imm == 0) = false := by simpa using z6
                clear z6
                go_enter Tryz.func57, Tryz.ntmps57
                go_wp2_with (first | (go_at_call 88; refine (parts_in 18 _ (by decide) (by decide)).mono ?_; rintro e w1 ⟨rfl, rfl⟩) | (go_at_call 89; refine (in_any _ _ _ _).mono ?_; rintro e w1 ⟨rfl, rfl⟩) | (go_at_call 90; refine (has_any _ _ _ (by decide) (by decide) (by decide)).mono ?_; rintro e w1 ⟨rfl, rfl⟩))
                go_ret
                exact ⟨ret_b (by rw [E.out]; simp [c0, c1, c2, c6b]), rfl⟩
            · have c5 : (m != 0) = true := by simpa using z5
              have c5b : (m == 0) = false := by simpa using z5
              clear z5
              go_enter Tryz.func57, Tryz.ntmps57
              go_wp2_with (first | (go_at_call 88; refine (parts_in 18 _ (by decide) (by decide)).mono ?_; rintro e w1 ⟨rfl, rfl⟩) | (go_at_call 89; refine (in_any _ _ _ _).mono ?_; rintro e w1 ⟨rfl, rfl⟩) | (go_at_call 90; refine (has_any _ _ _ (by decide) (by decide) (by decide)).mono ?_; rintro e w1 ⟨rfl, rfl⟩))
              go_ret
              exact ⟨ret_b (by rw [E.out]; simp [c0, c1, c2, c5b]), rfl⟩
          · have c4 : (n != 0) = true := by simpa using z4
            have c4b : (n == 0) = false := by simpa using z4
            clear z4
            go_enter Tryz.func57, Tryz.ntmps57
            go_wp2_with (first | (go_at_call 88; refine (parts_in 18 _ (by decide) (by decide)).mono ?_; rintro e w1 ⟨rfl, rfl⟩) | (go_at_call 89; refine (in_any _ _ _ _).mono ?_; rintro e w1 ⟨rfl, rfl⟩) | (go_at_call 90; refine (has_any _ _ _ (by decide) (by decide) (by decide)).mono ?_; rintro e w1 ⟨rfl, rfl⟩))
            go_ret
            exact ⟨ret_b (by rw [E.out]; simp [c0, c1, c2, c4b]), rfl⟩
        · have c3 : (d != 0) = true := by simpa using z3
          have c3b : (d == 0) = false := by simpa using z3
          clear z3
          go_enter Tryz.func57, Tryz.ntmps57
          go_wp2_with (first | (go_at_call 88; refine (parts_in 18 _ (by decide) (by decide)).mono ?_; rintro e w1 ⟨rfl, rfl⟩) | (go_at_call 89; refine (in_any _ _ _ _).mono ?_; rintro e w1 ⟨rfl, rfl⟩) | (go_at_call 90; refine (has_any _ _ _ (by decide) (by decide) (by decide)).mono ?_; rintro e w1 ⟨rfl, rfl⟩))
          go_ret
          exact ⟨ret_b (by rw [E.out]; simp [c0, c1, c2, c3b]), rfl⟩
end Go.Proofs.YtlflknfkenfpiaaGreatDoor
namespace Go.Proofs.YtlflknfkenfpiaaGreatDoor
open Go.RowKit
theorem right_eq_19 (d n m imm kind : Int) : decide (GrI.right ⟨19, d, n, m, imm, kind⟩) = (GrI.inB d 0 31 && (GrI.inB n 0 31 && (GrI.inB m 0 31 && ((d == 0) && ((n == 0) && ((m == 0) && ((imm == 0) && ((GrI.inB kind 9 11 || GrI.inB kind 13 15))))))))) := by
  rw [Bool.eq_iff_iff]
  simp [GrI.right, GrI.parts, GrI.nums, GrI.inB]
  try omega
set_option maxRecDepth 100000 in
set_option maxHeartbeats 6400000 in
theorem rright_19 (d n m imm kind : Int) (w : World) :
    Calls Tryz.prog 57 #[.agg #[.int .i64 19, .int .i64 d, .int .i64 n, .int .i64 m, .int .i64 imm, .int .i64 kind]] w fun e w' => e = .returned (.bool (decide (GrI.right ⟨19, d, n, m, imm, kind⟩))) ∧ w.alloc (.cells #[.int .i64 19, .int .i64 d, .int .i64 n, .int .i64 m, .int .i64 imm, .int .i64 kind] 84) = w' := by
  have E := Lib.hid (right_eq_19 d n m imm kind)
  have ep : GrI.parts 19 = 16 := rfl
  have h1 : GrI.hasB 16 1 = false := rfl
  have h2 : GrI.hasB 16 2 = false := rfl
  have h4 : GrI.hasB 16 4 = false := rfl
  have h8 : GrI.hasB 16 8 = false := rfl
  have h16 : GrI.hasB 16 16 = true := rfl
  cases c0 : GrI.inB d 0 31 with
  | false =>
    go_enter Tryz.func57, Tryz.ntmps57
    go_wp2_with (first | (go_at_call 88; refine (parts_in 19 _ (by decide) (by decide)).mono ?_; rintro e w1 ⟨rfl, rfl⟩) | (go_at_call 89; refine (in_any _ _ _ _).mono ?_; rintro e w1 ⟨rfl, rfl⟩) | (go_at_call 90; refine (has_any _ _ _ (by decide) (by decide) (by decide)).mono ?_; rintro e w1 ⟨rfl, rfl⟩))
    go_ret
    exact ⟨ret_b (by rw [E.out]; simp [c0]), rfl⟩
  | true =>
    cases c1 : GrI.inB n 0 31 with
    | false =>
      go_enter Tryz.func57, Tryz.ntmps57
      go_wp2_with (first | (go_at_call 88; refine (parts_in 19 _ (by decide) (by decide)).mono ?_; rintro e w1 ⟨rfl, rfl⟩) | (go_at_call 89; refine (in_any _ _ _ _).mono ?_; rintro e w1 ⟨rfl, rfl⟩) | (go_at_call 90; refine (has_any _ _ _ (by decide) (by decide) (by decide)).mono ?_; rintro e w1 ⟨rfl, rfl⟩))
      go_ret
      exact ⟨ret_b (by rw [E.out]; simp [c0, c1]), rfl⟩
    | true =>
      cases c2 : GrI.inB m 0 31 with
      | false =>
        go_enter Tryz.func57, Tryz.ntmps57
        go_wp2_with (first | (go_at_call 88; refine (parts_in 19 _ (by decide) (by decide)).mono ?_; rintro e w1 ⟨rfl, rfl⟩) | (go_at_call 89; refine (in_any _ _ _ _).mono ?_; rintro e w1 ⟨rfl, rfl⟩) | (go_at_call 90; refine (has_any _ _ _ (by decide) (by decide) (by decide)).mono ?_; rintro e w1 ⟨rfl, rfl⟩))
        go_ret
        exact ⟨ret_b (by rw [E.out]; simp [c0, c1, c2]), rfl⟩
      | true =>
        by_cases z3 : d = 0
        · subst z3
          by_cases z4 : n = 0
          · subst z4
            by_cases z5 : m = 0
            · subst z5
              by_cases z6 : imm = 0
              · subst z6
                cases c90 : GrI.inB kind 9 11 with
                | false =>
                  go_enter Tryz.func57, Tryz.ntmps57
                  go_wp2_with (first | (go_at_call 88; refine (parts_in 19 _ (by decide) (by decide)).mono ?_; rintro e w1 ⟨rfl, rfl⟩) | (go_at_call 89; refine (in_any _ _ _ _).mono ?_; rintro e w1 ⟨rfl, rfl⟩) | (go_at_call 90; refine (has_any _ _ _ (by decide) (by decide) (by decide)).mono ?_; rintro e w1 ⟨rfl, rfl⟩))
                  go_ret
                  exact ⟨ret_b (by rw [E.out]; simp [c0, c1, c2, c90]), rfl⟩
                | true =>
                  go_enter Tryz.func57, Tryz.ntmps57
                  go_wp2_with (first | (go_at_call 88; refine (parts_in 19 _ (by decide) (by decide)).mono ?_; rintro e w1 ⟨rfl, rfl⟩) | (go_at_call 89; refine (in_any _ _ _ _).mono ?_; rintro e w1 ⟨rfl, rfl⟩) | (go_at_call 90; refine (has_any _ _ _ (by decide) (by decide) (by decide)).mono ?_; rintro e w1 ⟨rfl, rfl⟩))
                  go_ret
                  exact ⟨ret_b (by rw [E.out]; simp [c0, c1, c2, c90]), rfl⟩
              · have c6 : (imm != 0) = true := by simpa using z6
                have c6b : (imm == 0) = false := by simpa using z6
                clear z6
                go_enter Tryz.func57, Tryz.ntmps57
                go_wp2_with (first | (go_at_call 88; refine (parts_in 19 _ (by decide) (by decide)).mono ?_; rintro e w1 ⟨rfl, rfl⟩) | (go_at_call 89; refine (in_any _ _ _ _).mono ?_; rintro e w1 ⟨rfl, rfl⟩) | (go_at_call 90; refine (has_any _ _ _ (by decide) (by decide) (by decide)).mono ?_; rintro e w1 ⟨rfl, rfl⟩))
                go_ret
                exact ⟨ret_b (by rw [E.out]; simp [c0, c1, c2, c6b]), rfl⟩
            · have c5 : (m != 0) = true := by simpa using z5
              have c5b : (m == 0) = false := by simpa using z5
              clear z5
              go_enter Tryz.func57, Tryz.ntmps57
              go_wp2_with (first | (go_at_call 88; refine (parts_in 19 _ (by decide) (by decide)).mono ?_; rintro e w1 ⟨rfl, rfl⟩) | (go_at_call 89; refine (in_any _ _ _ _).mono ?_; rintro e w1 ⟨rfl, rfl⟩) | (go_at_call 90; refine (has_any _ _ _ (by decide) (by decide) (by decide)).mono ?_; rintro e w1 ⟨rfl, rfl⟩))
              go_ret
              exact ⟨ret_b (by rw [E.out]; simp [c0, c1, c2, c5b]), rfl⟩
          · have c4 : (n != 0) = true := by simpa using z4
            have c4b : (n == 0) = false := by simpa using z4
            clear z4
            go_enter Tryz.func57, Tryz.ntmps57
            go_wp2_with (first | (go_at_call 88; refine (parts_in 19 _ (by decide) (by decide)).mono ?_; rintro e w1 ⟨rfl, rfl⟩) | (go_at_call 89; refine (in_any _ _ _ _).mono ?_; rintro e w1 ⟨rfl, rfl⟩) | (go_at_call 90; refine (has_any _ _ _ (by decide) (by decide) (by decide)).mono ?_; rintro e w1 ⟨rfl, rfl⟩))
            go_ret
            exact ⟨ret_b (by rw [E.out]; simp [c0, c1, c2, c4b]), rfl⟩
        · have c3 : (d != 0) = true := by simpa using z3
          have c3b : (d == 0) = false := by simpa using z3
          clear z3
          go_enter Tryz.func57, Tryz.ntmps57
          go_wp2_with (first | (go_at_call 88; refine (parts_in 19 _ (by decide) (by decide)).mono ?_; rintro e w1 ⟨rfl, rfl⟩) | (go_at_call 89; refine (in_any _ _ _ _).mono ?_; rintro e w1 ⟨rfl, rfl⟩) | (go_at_call 90; refine (has_any _ _ _ (by decide) (by decide) (by decide)).mono ?_; rintro e w1 ⟨rfl, rfl⟩))
          go_ret
          exact ⟨ret_b (by rw [E.out]; simp [c0, c1, c2, c3b]), rfl⟩
theorem right_eq_20 (d n m imm kind : Int) : decide (GrI.right ⟨20, d, n, m, imm, kind⟩) = (GrI.inB d 0 31 && (GrI.inB n 0 31 && (GrI.inB m 0 31 && ((d == 0) && ((n == 0) && ((m == 0) && ((imm == 0) && ((kind == 0))))))))) := by
  rw [Bool.eq_iff_iff]
  simp [GrI.right, GrI.parts, GrI.nums, GrI.inB]
  try omega
set_option maxRecDepth 100000 in
set_option maxHeartbeats 6400000 in
theorem rright_20 (d n m imm kind : Int) (w : World) :
    Calls Tryz.prog 57 #[.agg #[.int .i64 20, .int .i64 d, .int .i64 n, .int .i64 m, .int .i64 imm, .int .i64 kind]] w fun e w' => e = .returned (.bool (decide (GrI.right ⟨20, d, n, m, imm, kind⟩))) ∧ w.alloc (.cells #[.int .i64 20, .int .i64 d, .int .i64 n, .int .i64 m, .int .i64 imm, .int .i64 kind] 84) = w' := by
  have E := Lib.hid (right_eq_20 d n m imm kind)
  have ep : GrI.parts 20 = 0 := rfl
  have h1 : GrI.hasB 0 1 = false := rfl
  have h2 : GrI.hasB 0 2 = false := rfl
  have h4 : GrI.hasB 0 4 = false := rfl
  have h8 : GrI.hasB 0 8 = false := rfl
  have h16 : GrI.hasB 0 16 = false := rfl
  cases c0 : GrI.inB d 0 31 with
  | false =>
    go_enter Tryz.func57, Tryz.ntmps57
    go_wp2_with (first | (go_at_call 88; refine (parts_in 20 _ (by decide) (by decide)).mono ?_; rintro e w1 ⟨rfl, rfl⟩) | (go_at_call 89; refine (in_any _ _ _ _).mono ?_; rintro e w1 ⟨rfl, rfl⟩) | (go_at_call 90; refine (has_any _ _ _ (by decide) (by decide) (by decide)).mono ?_; rintro e w1 ⟨rfl, rfl⟩))
    go_ret
    exact ⟨ret_b (by rw [E.out]; simp [c0]), rfl⟩
  | true =>
    cases c1 : GrI.inB n 0 31 with
    | false =>
      go_enter Tryz.func57, Tryz.ntmps57
      go_wp2_with (first | (go_at_call 88; refine (parts_in 20 _ (by decide) (by decide)).mono ?_; rintro e w1 ⟨rfl, rfl⟩) | (go_at_call 89; refine (in_any _ _ _ _).mono ?_; rintro e w1 ⟨rfl, rfl⟩) | (go_at_call 90; refine (has_any _ _ _ (by decide) (by decide) (by decide)).mono ?_; rintro e w1 ⟨rfl, rfl⟩))
      go_ret
      exact ⟨ret_b (by rw [E.out]; simp [c0, c1]), rfl⟩
    | true =>
      cases c2 : GrI.inB m 0 31 with
      | false =>
        go_enter Tryz.func57, Tryz.ntmps57
        go_wp2_with (first | (go_at_call 88; refine (parts_in 20 _ (by decide) (by decide)).mono ?_; rintro e w1 ⟨rfl, rfl⟩) | (go_at_call 89; refine (in_any _ _ _ _).mono ?_; rintro e w1 ⟨rfl, rfl⟩) | (go_at_call 90; refine (has_any _ _ _ (by decide) (by decide) (by decide)).mono ?_; rintro e w1 ⟨rfl, rfl⟩))
        go_ret
        exact ⟨ret_b (by rw [E.out]; simp [c0, c1, c2]), rfl⟩
      | true =>
        by_cases z3 : d = 0
        · subst z3
          by_cases z4 : n = 0
          · subst z4
            by_cases z5 : m = 0
            · subst z5
              by_cases z6 : imm = 0
              · subst z6
                by_cases z7 : kind = 0
                · subst z7
                  go_enter Tryz.func57, Tryz.ntmps57
                  go_wp2_with (first | (go_at_call 88; refine (parts_in 20 _ (by decide) (by decide)).mono ?_; rintro e w1 ⟨rfl, rfl⟩) | (go_at_call 89; refine (in_any _ _ _ _).mono ?_; rintro e w1 ⟨rfl, rfl⟩) | (go_at_call 90; refine (has_any _ _ _ (by decide) (by decide) (by decide)).mono ?_; rintro e w1 ⟨rfl, rfl⟩))
                  go_ret
                  exact ⟨ret_b (by rw [E.out]; simp [c0, c1, c2]), rfl⟩
                · have c7 : (kind != 0) = true := by simpa using z7
                  have c7b : (kind == 0) = false := by simpa using z7
                  clear z7
                  go_enter Tryz.func57, Tryz.ntmps57
                  go_wp2_with (first | (go_at_call 88; refine (parts_in 20 _ (by decide) (by decide)).mono ?_; rintro e w1 ⟨rfl, rfl⟩) | (go_at_call 89; refine (in_any _ _ _ _).mono ?_; rintro e w1 ⟨rfl, rfl⟩) | (go_at_call 90; refine (has_any _ _ _ (by decide) (by decide) (by decide)).mono ?_; rintro e w1 ⟨rfl, rfl⟩))
                  go_ret
                  exact ⟨ret_b (by rw [E.out]; simp [c0, c1, c2, c7b]), rfl⟩
              · have c6 : (imm != 0) = true := by simpa using z6
                have c6b : (imm == 0) = false := by simpa using z6
                clear z6
                go_enter Tryz.func57, Tryz.ntmps57
                go_wp2_with (first | (go_at_call 88; refine (parts_in 20 _ (by decide) (by decide)).mono ?_; rintro e w1 ⟨rfl, rfl⟩) | (go_at_call 89; refine (in_any _ _ _ _).mono ?_; rintro e w1 ⟨rfl, rfl⟩) | (go_at_call 90; refine (has_any _ _ _ (by decide) (by decide) (by decide)).mono ?_; rintro e w1 ⟨rfl, rfl⟩))
                go_ret
                exact ⟨ret_b (by rw [E.out]; simp [c0, c1, c2, c6b]), rfl⟩
            · have c5 : (m != 0) = true := by simpa using z5
              have c5b : (m == 0) = false := by simpa using z5
              clear z5
              go_enter Tryz.func57, Tryz.ntmps57
              go_wp2_with (first | (go_at_call 88; refine (parts_in 20 _ (by decide) (by decide)).mono ?_; rintro e w1 ⟨rfl, rfl⟩) | (go_at_call 89; refine (in_any _ _ _ _).mono ?_; rintro e w1 ⟨rfl, rfl⟩) | (go_at_call 90; refine (has_any _ _ _ (by decide) (by decide) (by decide)).mono ?_; rintro e w1 ⟨rfl, rfl⟩))
              go_ret
              exact ⟨ret_b (by rw [E.out]; simp [c0, c1, c2, c5b]), rfl⟩
          · have c4 : (n != 0) = true := by simpa using z4
            have c4b : (n == 0) = false := by simpa using z4
            clear z4
            go_enter Tryz.func57, Tryz.ntmps57
            go_wp2_with (first | (go_at_call 88; refine (parts_in 20 _ (by decide) (by decide)).mono ?_; rintro e w1 ⟨rfl, rfl⟩) | (go_at_call 89; refine (in_any _ _ _ _).mono ?_; rintro e w1 ⟨rfl, rfl⟩) | (go_at_call 90; refine (has_any _ _ _ (by decide) (by decide) (by decide)).mono ?_; rintro e w1 ⟨rfl, rfl⟩))
            go_ret
            exact ⟨ret_b (by rw [E.out]; simp [c0, c1, c2, c4b]), rfl⟩
        · have c3 : (d != 0) = true := by simpa using z3
          have c3b : (d == 0) = false := by simpa using z3
          clear z3
          go_enter Tryz.func57, Tryz.ntmps57
          go_wp2_with (first | (go_at_call 88; refine (parts_in 20 _ (by decide) (by decide)).mono ?_; rintro e w1 ⟨rfl, rfl⟩) | (go_at_call 89; refine (in_any _ _ _ _).mono ?_; rintro e w1 ⟨rfl, rfl⟩) | (go_at_call 90; refine (has_any _ _ _ (by decide) (by decide) (by decide)).mono ?_; rintro e w1 ⟨rfl, rfl⟩))
          go_ret
          exact ⟨ret_b (by rw [E.out]; simp [c0, c1, c2, c3b]), rfl⟩
theorem right_eq_21 (d n m imm kind : Int) : decide (GrI.right ⟨21, d, n, m, imm, kind⟩) = (GrI.inB d 0 31 && (GrI.inB n 0 31 && (GrI.inB m 0 31 && ((n == 0) && ((m == 0) && ((imm == 0) && ((GrI.inB kind 0 7) && (((kind % 4 != 0) || (d == 31)))))))))) := by
  rw [Bool.eq_iff_iff]
  simp [GrI.right, GrI.parts, GrI.nums, GrI.inB]
  try omega
set_option maxRecDepth 100000 in
set_option maxHeartbeats 6400000 in
theorem rright_21 (d n m imm kind : Int) (w : World) :
    Calls Tryz.prog 57 #[.agg #[.int .i64 21, .int .i64 d, .int .i64 n, .int .i64 m, .int .i64 imm, .int .i64 kind]] w fun e w' => e = .returned (.bool (decide (GrI.right ⟨21, d, n, m, imm, kind⟩))) ∧ w.alloc (.cells #[.int .i64 21, .int .i64 d, .int .i64 n, .int .i64 m, .int .i64 imm, .int .i64 kind] 84) = w' := by
  have E := Lib.hid (right_eq_21 d n m imm kind)
  have ep : GrI.parts 21 = 17 := rfl
  have h1 : GrI.hasB 17 1 = true := rfl
  have h2 : GrI.hasB 17 2 = false := rfl
  have h4 : GrI.hasB 17 4 = false := rfl
  have h8 : GrI.hasB 17 8 = false := rfl
  have h16 : GrI.hasB 17 16 = true := rfl
  cases c0 : GrI.inB d 0 31 with
  | false =>
    go_enter Tryz.func57, Tryz.ntmps57
    go_wp2_with (first | (go_at_call 88; refine (parts_in 21 _ (by decide) (by decide)).mono ?_; rintro e w1 ⟨rfl, rfl⟩) | (go_at_call 89; refine (in_any _ _ _ _).mono ?_; rintro e w1 ⟨rfl, rfl⟩) | (go_at_call 90; refine (has_any _ _ _ (by decide) (by decide) (by decide)).mono ?_; rintro e w1 ⟨rfl, rfl⟩))
    go_ret
    exact ⟨ret_b (by rw [E.out]; simp [c0]), rfl⟩
  | true =>
    cases c1 : GrI.inB n 0 31 with
    | false =>
      go_enter Tryz.func57, Tryz.ntmps57
      go_wp2_with (first | (go_at_call 88; refine (parts_in 21 _ (by decide) (by decide)).mono ?_; rintro e w1 ⟨rfl, rfl⟩) | (go_at_call 89; refine (in_any _ _ _ _).mono ?_; rintro e w1 ⟨rfl, rfl⟩) | (go_at_call 90; refine (has_any _ _ _ (by decide) (by decide) (by decide)).mono ?_; rintro e w1 ⟨rfl, rfl⟩))
      go_ret
      exact ⟨ret_b (by rw [E.out]; simp [c0, c1]), rfl⟩
    | true =>
      cases c2 : GrI.inB m 0 31 with
      | false =>
        go_enter Tryz.func57, Tryz.ntmps57
        go_wp2_with (first | (go_at_call 88; refine (parts_in 21 _ (by decide) (by decide)).mono ?_; rintro e w1 ⟨rfl, rfl⟩) | (go_at_call 89; refine (in_any _ _ _ _).mono ?_; rintro e w1 ⟨rfl, rfl⟩) | (go_at_call 90; refine (has_any _ _ _ (by decide) (by decide) (by decide)).mono ?_; rintro e w1 ⟨rfl, rfl⟩))
        go_ret
        exact ⟨ret_b (by rw [E.out]; simp [c0, c1, c2]), rfl⟩
      | true =>
        by_cases z3 : n = 0
        · subst z3
          by_cases z4 : m = 0
          · subst z4
            by_cases z5 : imm = 0
            · subst z5
              cases c90 : GrI.inB kind 0 7 with
              | false =>
                go_enter Tryz.func57, Tryz.ntmps57
                go_wp2_with (first | (go_at_call 88; refine (parts_in 21 _ (by decide) (by decide)).mono ?_; rintro e w1 ⟨rfl, rfl⟩) | (go_at_call 89; refine (in_any _ _ _ _).mono ?_; rintro e w1 ⟨rfl, rfl⟩) | (go_at_call 90; refine (has_any _ _ _ (by decide) (by decide) (by decide)).mono ?_; rintro e w1 ⟨rfl, rfl⟩))
                go_ret
                exact ⟨ret_b (by rw [E.out]; simp [c0, c1, c2, c90]), rfl⟩
              | true =>
                have c91 := (GrI.inB_of c90).1
                cases c92 : (kind % 4 != 0) with
                | false =>
                  go_enter Tryz.func57, Tryz.ntmps57
                  go_wp2_with (first | (go_at_call 88; refine (parts_in 21 _ (by decide) (by decide)).mono ?_; rintro e w1 ⟨rfl, rfl⟩) | (go_at_call 89; refine (in_any _ _ _ _).mono ?_; rintro e w1 ⟨rfl, rfl⟩) | (go_at_call 90; refine (has_any _ _ _ (by decide) (by decide) (by decide)).mono ?_; rintro e w1 ⟨rfl, rfl⟩))
                  go_ret
                  exact ⟨ret_b (by rw [E.out]; simp [c0, c1, c2, c90, c92]), rfl⟩
                | true =>
                  go_enter Tryz.func57, Tryz.ntmps57
                  go_wp2_with (first | (go_at_call 88; refine (parts_in 21 _ (by decide) (by decide)).mono ?_; rintro e w1 ⟨rfl, rfl⟩) | (go_at_call 89; refine (in_any _ _ _ _).mono ?_; rintro e w1 ⟨rfl, rfl⟩) | (go_at_call 90; refine (has_any _ _ _ (by decide) (by decide) (by decide)).mono ?_; rintro e w1 ⟨rfl, rfl⟩))
                  go_ret
                  exact ⟨ret_b (by rw [E.out]; simp [c0, c1, c2, c90, c92]), rfl⟩
            · have c5 : (imm != 0) = true := by simpa using z5
              have c5b : (imm == 0) = false := by simpa using z5
              clear z5
              go_enter Tryz.func57, Tryz.ntmps57
              go_wp2_with (first | (go_at_call 88; refine (parts_in 21 _ (by decide) (by decide)).mono ?_; rintro e w1 ⟨rfl, rfl⟩) | (go_at_call 89; refine (in_any _ _ _ _).mono ?_; rintro e w1 ⟨rfl, rfl⟩) | (go_at_call 90; refine (has_any _ _ _ (by decide) (by decide) (by decide)).mono ?_; rintro e w1 ⟨rfl, rfl⟩))
              go_ret
              exact ⟨ret_b (by rw [E.out]; simp [c0, c1, c2, c5b]), rfl⟩
          · have c4 : (m != 0) = true := by simpa using z4
            have c4b : (m == 0) = false := by simpa using z4
            clear z4
            go_enter Tryz.func57, Tryz.ntmps57
            go_wp2_with (first | (go_at_call 88; refine (parts_in 21 _ (by decide) (by decide)).mono ?_; rintro e w1 ⟨rfl, rfl⟩) | (go_at_call 89; refine (in_any _ _ _ _).mono ?_; rintro e w1 ⟨rfl, rfl⟩) | (go_at_call 90; refine (has_any _ _ _ (by decide) (by decide) (by decide)).mono ?_; rintro e w1 ⟨rfl, rfl⟩))
            go_ret
            exact ⟨ret_b (by rw [E.out]; simp [c0, c1, c2, c4b]), rfl⟩
        · have c3 : (n != 0) = true := by simpa using z3
          have c3b : (n == 0) = false := by simpa using z3
          clear z3
          go_enter Tryz.func57, Tryz.ntmps57
          go_wp2_with (first | (go_at_call 88; refine (parts_in 21 _ (by decide) (by decide)).mono ?_; rintro e w1 ⟨rfl, rfl⟩) | (go_at_call 89; refine (in_any _ _ _ _).mono ?_; rintro e w1 ⟨rfl, rfl⟩) | (go_at_call 90; refine (has_any _ _ _ (by decide) (by decide) (by decide)).mono ?_; rintro e w1 ⟨rfl, rfl⟩))
          go_ret
          exact ⟨ret_b (by rw [E.out]; simp [c0, c1, c2, c3b]), rfl⟩
theorem right_eq_22 (d n m imm kind : Int) : decide (GrI.right ⟨22, d, n, m, imm, kind⟩) = (GrI.inB d 0 31 && (GrI.inB n 0 31 && (GrI.inB m 0 31 && ((d == 0) && ((n == 0) && ((m == 0) && ((imm == 0) && ((kind == 0))))))))) := by
  rw [Bool.eq_iff_iff]
  simp [GrI.right, GrI.parts, GrI.nums, GrI.inB]
  try omega
set_option maxRecDepth 100000 in
set_option maxHeartbeats 6400000 in
theorem rright_22 (d n m imm kind : Int) (w : World) :
    Calls Tryz.prog 57 #[.agg #[.int .i64 22, .int .i64 d, .int .i64 n, .int .i64 m, .int .i64 imm, .int .i64 kind]] w fun e w' => e = .returned (.bool (decide (GrI.right ⟨22, d, n, m, imm, kind⟩))) ∧ w.alloc (.cells #[.int .i64 22, .int .i64 d, .int .i64 n, .int .i64 m, .int .i64 imm, .int .i64 kind] 84) = w' := by
  have E := Lib.hid (right_eq_22 d n m imm kind)
  have ep : GrI.parts 22 = 0 := rfl
  have h1 : GrI.hasB 0 1 = false := rfl
  have h2 : GrI.hasB 0 2 = false := rfl
  have h4 : GrI.hasB 0 4 = false := rfl
  have h8 : GrI.hasB 0 8 = false := rfl
  have h16 : GrI.hasB 0 16 = false := rfl
  cases c0 : GrI.inB d 0 31 with
  | false =>
    go_enter Tryz.func57, Tryz.ntmps57
    go_wp2_with (first | (go_at_call 88; refine (parts_in 22 _ (by decide) (by decide)).mono ?_; rintro e w1 ⟨rfl, rfl⟩) | (go_at_call 89; refine (in_any _ _ _ _).mono ?_; rintro e w1 ⟨rfl, rfl⟩) | (go_at_call 90; refine (has_any _ _ _ (by decide) (by decide) (by decide)).mono ?_; rintro e w1 ⟨rfl, rfl⟩))
    go_ret
    exact ⟨ret_b (by rw [E.out]; simp [c0]), rfl⟩
  | true =>
    cases c1 : GrI.inB n 0 31 with
    | false =>
      go_enter Tryz.func57, Tryz.ntmps57
      go_wp2_with (first | (go_at_call 88; refine (parts_in 22 _ (by decide) (by decide)).mono ?_; rintro e w1 ⟨rfl, rfl⟩) | (go_at_call 89; refine (in_any _ _ _ _).mono ?_; rintro e w1 ⟨rfl, rfl⟩) | (go_at_call 90; refine (has_any _ _ _ (by decide) (by decide) (by decide)).mono ?_; rintro e w1 ⟨rfl, rfl⟩))
      go_ret
      exact ⟨ret_b (by rw [E.out]; simp [c0, c1]), rfl⟩
    | true =>
      cases c2 : GrI.inB m 0 31 with
      | false =>
        go_enter Tryz.func57, Tryz.ntmps57
        go_wp2_with (first | (go_at_call 88; refine (parts_in 22 _ (by decide) (by decide)).mono ?_; rintro e w1 ⟨rfl, rfl⟩) | (go_at_call 89; refine (in_any _ _ _ _).mono ?_; rintro e w1 ⟨rfl, rfl⟩) | (go_at_call 90; refine (has_any _ _ _ (by decide) (by decide) (by decide)).mono ?_; rintro e w1 ⟨rfl, rfl⟩))
        go_ret
        exact ⟨ret_b (by rw [E.out]; simp [c0, c1, c2]), rfl⟩
      | true =>
        by_cases z3 : d = 0
        · subst z3
          by_cases z4 : n = 0
          · subst z4
            by_cases z5 : m = 0
            · subst z5
              by_cases z6 : imm = 0
              · subst z6
                by_cases z7 : kind = 0
                · subst z7
                  go_enter Tryz.func57, Tryz.ntmps57
                  go_wp2_with (first | (go_at_call 88; refine (parts_in 22 _ (by decide) (by decide)).mono ?_; rintro e w1 ⟨rfl, rfl⟩) | (go_at_call 89; refine (in_any _ _ _ _).mono ?_; rintro e w1 ⟨rfl, rfl⟩) | (go_at_call 90; refine (has_any _ _ _ (by decide) (by decide) (by decide)).mono ?_; rintro e w1 ⟨rfl, rfl⟩))
                  go_ret
                  exact ⟨ret_b (by rw [E.out]; simp [c0, c1, c2]), rfl⟩
                · have c7 : (kind != 0) = true := by simpa using z7
                  have c7b : (kind == 0) = false := by simpa using z7
                  clear z7
                  go_enter Tryz.func57, Tryz.ntmps57
                  go_wp2_with (first | (go_at_call 88; refine (parts_in 22 _ (by decide) (by decide)).mono ?_; rintro e w1 ⟨rfl, rfl⟩) | (go_at_call 89; refine (in_any _ _ _ _).mono ?_; rintro e w1 ⟨rfl, rfl⟩) | (go_at_call 90; refine (has_any _ _ _ (by decide) (by decide) (by decide)).mono ?_; rintro e w1 ⟨rfl, rfl⟩))
                  go_ret
                  exact ⟨ret_b (by rw [E.out]; simp [c0, c1, c2, c7b]), rfl⟩
              · have c6 : (imm != 0) = true := by simpa using z6
                have c6b : (imm == 0) = false := by simpa using z6
                clear z6
                go_enter Tryz.func57, Tryz.ntmps57
                go_wp2_with (first | (go_at_call 88; refine (parts_in 22 _ (by decide) (by decide)).mono ?_; rintro e w1 ⟨rfl, rfl⟩) | (go_at_call 89; refine (in_any _ _ _ _).mono ?_; rintro e w1 ⟨rfl, rfl⟩) | (go_at_call 90; refine (has_any _ _ _ (by decide) (by decide) (by decide)).mono ?_; rintro e w1 ⟨rfl, rfl⟩))
                go_ret
                exact ⟨ret_b (by rw [E.out]; simp [c0, c1, c2, c6b]), rfl⟩
            · have c5 : (m != 0) = true := by simpa using z5
              have c5b : (m == 0) = false := by simpa using z5
              clear z5
              go_enter Tryz.func57, Tryz.ntmps57
              go_wp2_with (first | (go_at_call 88; refine (parts_in 22 _ (by decide) (by decide)).mono ?_; rintro e w1 ⟨rfl, rfl⟩) | (go_at_call 89; refine (in_any _ _ _ _).mono ?_; rintro e w1 ⟨rfl, rfl⟩) | (go_at_call 90; refine (has_any _ _ _ (by decide) (by decide) (by decide)).mono ?_; rintro e w1 ⟨rfl, rfl⟩))
              go_ret
              exact ⟨ret_b (by rw [E.out]; simp [c0, c1, c2, c5b]), rfl⟩
          · have c4 : (n != 0) = true := by simpa using z4
            have c4b : (n == 0) = false := by simpa using z4
            clear z4
            go_enter Tryz.func57, Tryz.ntmps57
            go_wp2_with (first | (go_at_call 88; refine (parts_in 22 _ (by decide) (by decide)).mono ?_; rintro e w1 ⟨rfl, rfl⟩) | (go_at_call 89; refine (in_any _ _ _ _).mono ?_; rintro e w1 ⟨rfl, rfl⟩) | (go_at_call 90; refine (has_any _ _ _ (by decide) (by decide) (by decide)).mono ?_; rintro e w1 ⟨rfl, rfl⟩))
            go_ret
            exact ⟨ret_b (by rw [E.out]; simp [c0, c1, c2, c4b]), rfl⟩
        · have c3 : (d != 0) = true := by simpa using z3
          have c3b : (d == 0) = false := by simpa using z3
          clear z3
          go_enter Tryz.func57, Tryz.ntmps57
          go_wp2_with (first | (go_at_call 88; refine (parts_in 22 _ (by decide) (by decide)).mono ?_; rintro e w1 ⟨rfl, rfl⟩) | (go_at_call 89; refine (in_any _ _ _ _).mono ?_; rintro e w1 ⟨rfl, rfl⟩) | (go_at_call 90; refine (has_any _ _ _ (by decide) (by decide) (by decide)).mono ?_; rintro e w1 ⟨rfl, rfl⟩))
          go_ret
          exact ⟨ret_b (by rw [E.out]; simp [c0, c1, c2, c3b]), rfl⟩
theorem right_eq_23 (d n m imm kind : Int) : decide (GrI.right ⟨23, d, n, m, imm, kind⟩) = (GrI.inB d 0 31 && (GrI.inB n 0 31 && (GrI.inB m 0 31 && ((n == 0) && ((m == 0) && ((imm == 0) && ((GrI.inB kind 0 2)))))))) := by
  rw [Bool.eq_iff_iff]
  simp [GrI.right, GrI.parts, GrI.nums, GrI.inB]
  try omega
set_option maxRecDepth 100000 in
set_option maxHeartbeats 6400000 in
theorem rright_23 (d n m imm kind : Int) (w : World) :
    Calls Tryz.prog 57 #[.agg #[.int .i64 23, .int .i64 d, .int .i64 n, .int .i64 m, .int .i64 imm, .int .i64 kind]] w fun e w' => e = .returned (.bool (decide (GrI.right ⟨23, d, n, m, imm, kind⟩))) ∧ w.alloc (.cells #[.int .i64 23, .int .i64 d, .int .i64 n, .int .i64 m, .int .i64 imm, .int .i64 kind] 84) = w' := by
  have E := Lib.hid (right_eq_23 d n m imm kind)
  have ep : GrI.parts 23 = 17 := rfl
  have h1 : GrI.hasB 17 1 = true := rfl
  have h2 : GrI.hasB 17 2 = false := rfl
  have h4 : GrI.hasB 17 4 = false := rfl
  have h8 : GrI.hasB 17 8 = false := rfl
  have h16 : GrI.hasB 17 16 = true := rfl
  cases c0 : GrI.inB d 0 31 with
  | false =>
    go_enter Tryz.func57, Tryz.ntmps57
    go_wp2_with (first | (go_at_call 88; refine (parts_in 23 _ (by decide) (by decide)).mono ?_; rintro e w1 ⟨rfl, rfl⟩) | (go_at_call 89; refine (in_any _ _ _ _).mono ?_; rintro e w1 ⟨rfl, rfl⟩) | (go_at_call 90; refine (has_any _ _ _ (by decide) (by decide) (by decide)).mono ?_; rintro e w1 ⟨rfl, rfl⟩))
    go_ret
    exact ⟨ret_b (by rw [E.out]; simp [c0]), rfl⟩
  | true =>
    cases c1 : GrI.inB n 0 31 with
    | false =>
      go_enter Tryz.func57, Tryz.ntmps57
      go_wp2_with (first | (go_at_call 88; refine (parts_in 23 _ (by decide) (by decide)).mono ?_; rintro e w1 ⟨rfl, rfl⟩) | (go_at_call 89; refine (in_any _ _ _ _).mono ?_; rintro e w1 ⟨rfl, rfl⟩) | (go_at_call 90; refine (has_any _ _ _ (by decide) (by decide) (by decide)).mono ?_; rintro e w1 ⟨rfl, rfl⟩))
      go_ret
      exact ⟨ret_b (by rw [E.out]; simp [c0, c1]), rfl⟩
    | true =>
      cases c2 : GrI.inB m 0 31 with
      | false =>
        go_enter Tryz.func57, Tryz.ntmps57
        go_wp2_with (first | (go_at_call 88; refine (parts_in 23 _ (by decide) (by decide)).mono ?_; rintro e w1 ⟨rfl, rfl⟩) | (go_at_call 89; refine (in_any _ _ _ _).mono ?_; rintro e w1 ⟨rfl, rfl⟩) | (go_at_call 90; refine (has_any _ _ _ (by decide) (by decide) (by decide)).mono ?_; rintro e w1 ⟨rfl, rfl⟩))
        go_ret
        exact ⟨ret_b (by rw [E.out]; simp [c0, c1, c2]), rfl⟩
      | true =>
        by_cases z3 : n = 0
        · subst z3
          by_cases z4 : m = 0
          · subst z4
            by_cases z5 : imm = 0
            · subst z5
              go_enter Tryz.func57, Tryz.ntmps57
              go_wp2_with (first | (go_at_call 88; refine (parts_in 23 _ (by decide) (by decide)).mono ?_; rintro e w1 ⟨rfl, rfl⟩) | (go_at_call 89; refine (in_any _ _ _ _).mono ?_; rintro e w1 ⟨rfl, rfl⟩) | (go_at_call 90; refine (has_any _ _ _ (by decide) (by decide) (by decide)).mono ?_; rintro e w1 ⟨rfl, rfl⟩))
              go_ret
              exact ⟨ret_b (by rw [E.out]; simp [c0, c1, c2]), rfl⟩
            · have c5 : (imm != 0) = true := by simpa using z5
              have c5b : (imm == 0) = false := by simpa using z5
              clear z5
              go_enter Tryz.func57, Tryz.ntmps57
              go_wp2_with (first | (go_at_call 88; refine (parts_in 23 _ (by decide) (by decide)).mono ?_; rintro e w1 ⟨rfl, rfl⟩) | (go_at_call 89; refine (in_any _ _ _ _).mono ?_; rintro e w1 ⟨rfl, rfl⟩) | (go_at_call 90; refine (has_any _ _ _ (by decide) (by decide) (by decide)).mono ?_; rintro e w1 ⟨rfl, rfl⟩))
              go_ret
              exact ⟨ret_b (by rw [E.out]; simp [c0, c1, c2, c5b]), rfl⟩
          · have c4 : (m != 0) = true := by simpa using z4
            have c4b : (m == 0) = false := by simpa using z4
            clear z4
            go_enter Tryz.func57, Tryz.ntmps57
            go_wp2_with (first | (go_at_call 88; refine (parts_in 23 _ (by decide) (by decide)).mono ?_; rintro e w1 ⟨rfl, rfl⟩) | (go_at_call 89; refine (in_any _ _ _ _).mono ?_; rintro e w1 ⟨rfl, rfl⟩) | (go_at_call 90; refine (has_any _ _ _ (by decide) (by decide) (by decide)).mono ?_; rintro e w1 ⟨rfl, rfl⟩))
            go_ret
            exact ⟨ret_b (by rw [E.out]; simp [c0, c1, c2, c4b]), rfl⟩
        · have c3 : (n != 0) = true := by simpa using z3
          have c3b : (n == 0) = false := by simpa using z3
          clear z3
          go_enter Tryz.func57, Tryz.ntmps57
          go_wp2_with (first | (go_at_call 88; refine (parts_in 23 _ (by decide) (by decide)).mono ?_; rintro e w1 ⟨rfl, rfl⟩) | (go_at_call 89; refine (in_any _ _ _ _).mono ?_; rintro e w1 ⟨rfl, rfl⟩) | (go_at_call 90; refine (has_any _ _ _ (by decide) (by decide) (by decide)).mono ?_; rintro e w1 ⟨rfl, rfl⟩))
          go_ret
          exact ⟨ret_b (by rw [E.out]; simp [c0, c1, c2, c3b]), rfl⟩
end Go.Proofs.YtlflknfkenfpiaaGreatDoor
namespace Go.Proofs.YtlflknfkenfpiaaGreatDoor
open Go.RowKit
set_option maxHeartbeats 1600000 in
theorem rright_out (op d n m imm kind : Int) (w : World) (h : op < 1 ∨ 23 < op) :
    Calls Tryz.prog 57 #[.agg #[.int .i64 op, .int .i64 d, .int .i64 n, .int .i64 m, .int .i64 imm, .int .i64 kind]] w fun e w' => e = .returned (.bool (decide (GrI.right ⟨op, d, n, m, imm, kind⟩))) ∧ w.alloc (.cells #[.int .i64 op, .int .i64 d, .int .i64 n, .int .i64 m, .int .i64 imm, .int .i64 kind] 84) = w' := by
  have hn : ¬ GrI.right ⟨op, d, n, m, imm, kind⟩ := by
    intro hr
    have h1 := hr.1
    have h2 := hr.2.1
    simp only at h1 h2
    omega
  have E := Lib.hid (show decide (GrI.right ⟨op, d, n, m, imm, kind⟩) = false by simpa using hn)
  clear hn
  have PO := Lib.hid (fun w => parts_out op w h)
  clear h
  go_enter Tryz.func57, Tryz.ntmps57
  go_wp2_with fail
  refine (PO.out _).mono ?_
  rintro e w1 ⟨rfl, rfl⟩
  go_wp2
  go_ret
  exact ⟨ret_b (by rw [E.out]), rfl⟩
theorem irright_any (x : GrI.I) (w : World) :
    Calls Tryz.prog 57 #[iv x] w fun e w' => e = .returned (.bool (decide (GrI.right x))) ∧ w.alloc (ibox x) = w' := by
  obtain ⟨op, d, n, m, imm, kind⟩ := x
  by_cases h : op < 1 ∨ 23 < op
  · exact rright_out op d n m imm kind w h
  · have ho : op = 1 ∨ op = 2 ∨ op = 3 ∨ op = 4 ∨ op = 5 ∨ op = 6 ∨ op = 7 ∨ op = 8 ∨ op = 9 ∨ op = 10 ∨ op = 11 ∨ op = 12 ∨ op = 13 ∨ op = 14 ∨ op = 15 ∨ op = 16 ∨ op = 17 ∨ op = 18 ∨ op = 19 ∨ op = 20 ∨ op = 21 ∨ op = 22 ∨ op = 23 := by omega
    rcases ho with rfl | rfl | rfl | rfl | rfl | rfl | rfl | rfl | rfl | rfl | rfl | rfl | rfl | rfl | rfl | rfl | rfl | rfl | rfl | rfl | rfl | rfl | rfl
    · exact rright_1 d n m imm kind w
    · exact rright_2 d n m imm kind w
    · exact rright_3 d n m imm kind w
    · exact rright_4 d n m imm kind w
    · exact rright_5 d n m imm kind w
    · exact rright_6 d n m imm kind w
    · exact rright_7 d n m imm kind w
    · exact rright_8 d n m imm kind w
    · exact rright_9 d n m imm kind w
    · exact rright_10 d n m imm kind w
    · exact rright_11 d n m imm kind w
    · exact rright_12 d n m imm kind w
    · exact rright_13 d n m imm kind w
    · exact rright_14 d n m imm kind w
    · exact rright_15 d n m imm kind w
    · exact rright_16 d n m imm kind w
    · exact rright_17 d n m imm kind w
    · exact rright_18 d n m imm kind w
    · exact rright_19 d n m imm kind w
    · exact rright_20 d n m imm kind w
    · exact rright_21 d n m imm kind w
    · exact rright_22 d n m imm kind w
    · exact rright_23 d n m imm kind w
end Go.Proofs.YtlflknfkenfpiaaGreatDoor
