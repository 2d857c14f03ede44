/-
  Layer 3, the walks: the page's own Right, operations 1 to 6.
-/
import Derived.Test.YtnehdgapcgbdeaaRi
set_option linter.unusedSimpArgs false
set_option linter.unusedVariables false
namespace Go.Proofs.Ytnehdgapcgbdeaa
open Go.RowKit

theorem right_eq_1 (d n m imm kind : Int) : decide (GrI.right ⟨1, d, n, m, imm, kind⟩) = (GrI.inB d 0 31 && (GrI.inB n 0 31 && (GrI.inB m 0 31 && ((d == 0) && ((n == 0) && ((m == 0) && ((imm == 0) && ((kind == 0))))))))) := by
  rw [Bool.eq_iff_iff]
  simp [GrI.right, GrI.parts, GrI.nums, GrI.inB]
  try omega

set_option maxRecDepth 100000 in
set_option maxHeartbeats 6400000 in
theorem rright_1 (d n m imm kind : Int) (w : World) :
    Calls Try.prog 9 #[.agg #[.int .i64 1, .int .i64 d, .int .i64 n, .int .i64 m, .int .i64 imm, .int .i64 kind]] w fun e w' => e = .returned (.bool (decide (GrI.right ⟨1, d, n, m, imm, kind⟩))) ∧ w.alloc (.cells #[.int .i64 1, .int .i64 d, .int .i64 n, .int .i64 m, .int .i64 imm, .int .i64 kind] 23) = w' := by
  have E := Lib.hid (right_eq_1 d n m imm kind)
  have ep : GrI.parts 1 = 0 := rfl
  have h1 : GrI.hasB 0 1 = false := rfl
  have h2 : GrI.hasB 0 2 = false := rfl
  have h4 : GrI.hasB 0 4 = false := rfl
  have h8 : GrI.hasB 0 8 = false := rfl
  have h16 : GrI.hasB 0 16 = false := rfl
  cases c0 : GrI.inB d 0 31 with
  | false =>
    go_enter Try.func9, Try.ntmps9
    go_wp2_with (first | (go_at_call 34; refine (parts_in 1 _ (by decide) (by decide)).mono ?_; rintro e w1 ⟨rfl, rfl⟩) | (go_at_call 35; refine (in_any _ _ _ _).mono ?_; rintro e w1 ⟨rfl, rfl⟩) | (go_at_call 36; refine (has_any _ _ _ (by decide) (by decide) (by decide)).mono ?_; rintro e w1 ⟨rfl, rfl⟩))
    go_ret
    exact ⟨ret_b (by rw [E.out]; simp [c0]), rfl⟩
  | true =>
    cases c1 : GrI.inB n 0 31 with
    | false =>
      go_enter Try.func9, Try.ntmps9
      go_wp2_with (first | (go_at_call 34; refine (parts_in 1 _ (by decide) (by decide)).mono ?_; rintro e w1 ⟨rfl, rfl⟩) | (go_at_call 35; refine (in_any _ _ _ _).mono ?_; rintro e w1 ⟨rfl, rfl⟩) | (go_at_call 36; refine (has_any _ _ _ (by decide) (by decide) (by decide)).mono ?_; rintro e w1 ⟨rfl, rfl⟩))
      go_ret
      exact ⟨ret_b (by rw [E.out]; simp [c0, c1]), rfl⟩
    | true =>
      cases c2 : GrI.inB m 0 31 with
      | false =>
        go_enter Try.func9, Try.ntmps9
        go_wp2_with (first | (go_at_call 34; refine (parts_in 1 _ (by decide) (by decide)).mono ?_; rintro e w1 ⟨rfl, rfl⟩) | (go_at_call 35; refine (in_any _ _ _ _).mono ?_; rintro e w1 ⟨rfl, rfl⟩) | (go_at_call 36; refine (has_any _ _ _ (by decide) (by decide) (by decide)).mono ?_; rintro e w1 ⟨rfl, rfl⟩))
        go_ret
        exact ⟨ret_b (by rw [E.out]; simp [c0, c1, c2]), rfl⟩
      | true =>
        by_cases z3 : d = 0
        · subst z3
          by_cases z4 : n = 0
          · subst z4
            by_cases z5 : m = 0
            · subst z5
              by_cases z6 : imm = 0
              · subst z6
                by_cases z7 : kind = 0
                · subst z7
                  go_enter Try.func9, Try.ntmps9
                  go_wp2_with (first | (go_at_call 34; refine (parts_in 1 _ (by decide) (by decide)).mono ?_; rintro e w1 ⟨rfl, rfl⟩) | (go_at_call 35; refine (in_any _ _ _ _).mono ?_; rintro e w1 ⟨rfl, rfl⟩) | (go_at_call 36; refine (has_any _ _ _ (by decide) (by decide) (by decide)).mono ?_; rintro e w1 ⟨rfl, rfl⟩))
                  go_ret
                  exact ⟨ret_b (by rw [E.out]; simp [c0, c1, c2]), rfl⟩
                · have c7 : (kind != 0) = true := by simpa using z7
                  have c7b : (kind == 0) = false := by simpa using z7
                  clear z7
                  go_enter Try.func9, Try.ntmps9
                  go_wp2_with (first | (go_at_call 34; refine (parts_in 1 _ (by decide) (by decide)).mono ?_; rintro e w1 ⟨rfl, rfl⟩) | (go_at_call 35; refine (in_any _ _ _ _).mono ?_; rintro e w1 ⟨rfl, rfl⟩) | (go_at_call 36; refine (has_any _ _ _ (by decide) (by decide) (by decide)).mono ?_; rintro e w1 ⟨rfl, rfl⟩))
                  go_ret
                  exact ⟨ret_b (by rw [E.out]; simp [c0, c1, c2, c7b]), rfl⟩
              · have c6 : (imm != 0) = true := by simpa using z6
                have c6b : (imm == 0) = false := by simpa using z6
                clear z6
                go_enter Try.func9, Try.ntmps9
                go_wp2_with (first | (go_at_call 34; refine (parts_in 1 _ (by decide) (by decide)).mono ?_; rintro e w1 ⟨rfl, rfl⟩) | (go_at_call 35; refine (in_any _ _ _ _).mono ?_; rintro e w1 ⟨rfl, rfl⟩) | (go_at_call 36; refine (has_any _ _ _ (by decide) (by decide) (by decide)).mono ?_; rintro e w1 ⟨rfl, rfl⟩))
                go_ret
                exact ⟨ret_b (by rw [E.out]; simp [c0, c1, c2, c6b]), rfl⟩
            · have c5 : (m != 0) = true := by simpa using z5
              have c5b : (m == 0) = false := by simpa using z5
              clear z5
              go_enter Try.func9, Try.ntmps9
              go_wp2_with (first | (go_at_call 34; refine (parts_in 1 _ (by decide) (by decide)).mono ?_; rintro e w1 ⟨rfl, rfl⟩) | (go_at_call 35; refine (in_any _ _ _ _).mono ?_; rintro e w1 ⟨rfl, rfl⟩) | (go_at_call 36; refine (has_any _ _ _ (by decide) (by decide) (by decide)).mono ?_; rintro e w1 ⟨rfl, rfl⟩))
              go_ret
              exact ⟨ret_b (by rw [E.out]; simp [c0, c1, c2, c5b]), rfl⟩
          · have c4 : (n != 0) = true := by simpa using z4
            have c4b : (n == 0) = false := by simpa using z4
            clear z4
            go_enter Try.func9, Try.ntmps9
            go_wp2_with (first | (go_at_call 34; refine (parts_in 1 _ (by decide) (by decide)).mono ?_; rintro e w1 ⟨rfl, rfl⟩) | (go_at_call 35; refine (in_any _ _ _ _).mono ?_; rintro e w1 ⟨rfl, rfl⟩) | (go_at_call 36; refine (has_any _ _ _ (by decide) (by decide) (by decide)).mono ?_; rintro e w1 ⟨rfl, rfl⟩))
            go_ret
            exact ⟨ret_b (by rw [E.out]; simp [c0, c1, c2, c4b]), rfl⟩
        · have c3 : (d != 0) = true := by simpa using z3
          have c3b : (d == 0) = false := by simpa using z3
          clear z3
          go_enter Try.func9, Try.ntmps9
          go_wp2_with (first | (go_at_call 34; refine (parts_in 1 _ (by decide) (by decide)).mono ?_; rintro e w1 ⟨rfl, rfl⟩) | (go_at_call 35; refine (in_any _ _ _ _).mono ?_; rintro e w1 ⟨rfl, rfl⟩) | (go_at_call 36; refine (has_any _ _ _ (by decide) (by decide) (by decide)).mono ?_; rintro e w1 ⟨rfl, rfl⟩))
          go_ret
          exact ⟨ret_b (by rw [E.out]; simp [c0, c1, c2, c3b]), rfl⟩

theorem right_eq_2 (d n m imm kind : Int) : decide (GrI.right ⟨2, d, n, m, imm, kind⟩) = (GrI.inB d 0 31 && (GrI.inB n 0 31 && (GrI.inB m 0 31 && ((m == 0) && ((kind == 0) && ((GrI.inB imm 0 32760) && ((imm % 8 == 0)))))))) := by
  rw [Bool.eq_iff_iff]
  simp [GrI.right, GrI.parts, GrI.nums, GrI.inB]
  try omega

set_option maxRecDepth 100000 in
set_option maxHeartbeats 6400000 in
theorem rright_2 (d n m imm kind : Int) (w : World) :
    Calls Try.prog 9 #[.agg #[.int .i64 2, .int .i64 d, .int .i64 n, .int .i64 m, .int .i64 imm, .int .i64 kind]] w fun e w' => e = .returned (.bool (decide (GrI.right ⟨2, d, n, m, imm, kind⟩))) ∧ w.alloc (.cells #[.int .i64 2, .int .i64 d, .int .i64 n, .int .i64 m, .int .i64 imm, .int .i64 kind] 23) = w' := by
  have E := Lib.hid (right_eq_2 d n m imm kind)
  have ep : GrI.parts 2 = 11 := rfl
  have h1 : GrI.hasB 11 1 = true := rfl
  have h2 : GrI.hasB 11 2 = true := rfl
  have h4 : GrI.hasB 11 4 = false := rfl
  have h8 : GrI.hasB 11 8 = true := rfl
  have h16 : GrI.hasB 11 16 = false := rfl
  cases c0 : GrI.inB d 0 31 with
  | false =>
    go_enter Try.func9, Try.ntmps9
    go_wp2_with (first | (go_at_call 34; refine (parts_in 2 _ (by decide) (by decide)).mono ?_; rintro e w1 ⟨rfl, rfl⟩) | (go_at_call 35; refine (in_any _ _ _ _).mono ?_; rintro e w1 ⟨rfl, rfl⟩) | (go_at_call 36; refine (has_any _ _ _ (by decide) (by decide) (by decide)).mono ?_; rintro e w1 ⟨rfl, rfl⟩))
    go_ret
    exact ⟨ret_b (by rw [E.out]; simp [c0]), rfl⟩
  | true =>
    cases c1 : GrI.inB n 0 31 with
    | false =>
      go_enter Try.func9, Try.ntmps9
      go_wp2_with (first | (go_at_call 34; refine (parts_in 2 _ (by decide) (by decide)).mono ?_; rintro e w1 ⟨rfl, rfl⟩) | (go_at_call 35; refine (in_any _ _ _ _).mono ?_; rintro e w1 ⟨rfl, rfl⟩) | (go_at_call 36; refine (has_any _ _ _ (by decide) (by decide) (by decide)).mono ?_; rintro e w1 ⟨rfl, rfl⟩))
      go_ret
      exact ⟨ret_b (by rw [E.out]; simp [c0, c1]), rfl⟩
    | true =>
      cases c2 : GrI.inB m 0 31 with
      | false =>
        go_enter Try.func9, Try.ntmps9
        go_wp2_with (first | (go_at_call 34; refine (parts_in 2 _ (by decide) (by decide)).mono ?_; rintro e w1 ⟨rfl, rfl⟩) | (go_at_call 35; refine (in_any _ _ _ _).mono ?_; rintro e w1 ⟨rfl, rfl⟩) | (go_at_call 36; refine (has_any _ _ _ (by decide) (by decide) (by decide)).mono ?_; rintro e w1 ⟨rfl, rfl⟩))
        go_ret
        exact ⟨ret_b (by rw [E.out]; simp [c0, c1, c2]), rfl⟩
      | true =>
        by_cases z3 : m = 0
        · subst z3
          by_cases z4 : kind = 0
          · subst z4
            cases c90 : GrI.inB imm 0 32760 with
            | false =>
              go_enter Try.func9, Try.ntmps9
              go_wp2_with (first | (go_at_call 34; refine (parts_in 2 _ (by decide) (by decide)).mono ?_; rintro e w1 ⟨rfl, rfl⟩) | (go_at_call 35; refine (in_any _ _ _ _).mono ?_; rintro e w1 ⟨rfl, rfl⟩) | (go_at_call 36; refine (has_any _ _ _ (by decide) (by decide) (by decide)).mono ?_; rintro e w1 ⟨rfl, rfl⟩))
              go_ret
              exact ⟨ret_b (by rw [E.out]; simp [c0, c1, c2, c90]), rfl⟩
            | true =>
              have c91 := (GrI.inB_of c90).1
              go_enter Try.func9, Try.ntmps9
              go_wp2_with (first | (go_at_call 34; refine (parts_in 2 _ (by decide) (by decide)).mono ?_; rintro e w1 ⟨rfl, rfl⟩) | (go_at_call 35; refine (in_any _ _ _ _).mono ?_; rintro e w1 ⟨rfl, rfl⟩) | (go_at_call 36; refine (has_any _ _ _ (by decide) (by decide) (by decide)).mono ?_; rintro e w1 ⟨rfl, rfl⟩))
              go_ret
              exact ⟨ret_b (by rw [E.out]; simp [c0, c1, c2, c90]), rfl⟩
          · have c4 : (kind != 0) = true := by simpa using z4
            have c4b : (kind == 0) = false := by simpa using z4
            clear z4
            go_enter Try.func9, Try.ntmps9
            go_wp2_with (first | (go_at_call 34; refine (parts_in 2 _ (by decide) (by decide)).mono ?_; rintro e w1 ⟨rfl, rfl⟩) | (go_at_call 35; refine (in_any _ _ _ _).mono ?_; rintro e w1 ⟨rfl, rfl⟩) | (go_at_call 36; refine (has_any _ _ _ (by decide) (by decide) (by decide)).mono ?_; rintro e w1 ⟨rfl, rfl⟩))
            go_ret
            exact ⟨ret_b (by rw [E.out]; simp [c0, c1, c2, c4b]), rfl⟩
        · have c3 : (m != 0) = true := by simpa using z3
          have c3b : (m == 0) = false := by simpa using z3
          clear z3
          go_enter Try.func9, Try.ntmps9
          go_wp2_with (first | (go_at_call 34; refine (parts_in 2 _ (by decide) (by decide)).mono ?_; rintro e w1 ⟨rfl, rfl⟩) | (go_at_call 35; refine (in_any _ _ _ _).mono ?_; rintro e w1 ⟨rfl, rfl⟩) | (go_at_call 36; refine (has_any _ _ _ (by decide) (by decide) (by decide)).mono ?_; rintro e w1 ⟨rfl, rfl⟩))
          go_ret
          exact ⟨ret_b (by rw [E.out]; simp [c0, c1, c2, c3b]), rfl⟩

theorem right_eq_3 (d n m imm kind : Int) : decide (GrI.right ⟨3, d, n, m, imm, kind⟩) = (GrI.inB d 0 31 && (GrI.inB n 0 31 && (GrI.inB m 0 31 && ((m == 0) && ((kind == 0) && ((GrI.inB imm 0 32760) && ((imm % 8 == 0)))))))) := by
  rw [Bool.eq_iff_iff]
  simp [GrI.right, GrI.parts, GrI.nums, GrI.inB]
  try omega

set_option maxRecDepth 100000 in
set_option maxHeartbeats 6400000 in
theorem rright_3 (d n m imm kind : Int) (w : World) :
    Calls Try.prog 9 #[.agg #[.int .i64 3, .int .i64 d, .int .i64 n, .int .i64 m, .int .i64 imm, .int .i64 kind]] w fun e w' => e = .returned (.bool (decide (GrI.right ⟨3, d, n, m, imm, kind⟩))) ∧ w.alloc (.cells #[.int .i64 3, .int .i64 d, .int .i64 n, .int .i64 m, .int .i64 imm, .int .i64 kind] 23) = w' := by
  have E := Lib.hid (right_eq_3 d n m imm kind)
  have ep : GrI.parts 3 = 11 := rfl
  have h1 : GrI.hasB 11 1 = true := rfl
  have h2 : GrI.hasB 11 2 = true := rfl
  have h4 : GrI.hasB 11 4 = false := rfl
  have h8 : GrI.hasB 11 8 = true := rfl
  have h16 : GrI.hasB 11 16 = false := rfl
  cases c0 : GrI.inB d 0 31 with
  | false =>
    go_enter Try.func9, Try.ntmps9
    go_wp2_with (first | (go_at_call 34; refine (parts_in 3 _ (by decide) (by decide)).mono ?_; rintro e w1 ⟨rfl, rfl⟩) | (go_at_call 35; refine (in_any _ _ _ _).mono ?_; rintro e w1 ⟨rfl, rfl⟩) | (go_at_call 36; refine (has_any _ _ _ (by decide) (by decide) (by decide)).mono ?_; rintro e w1 ⟨rfl, rfl⟩))
    go_ret
    exact ⟨ret_b (by rw [E.out]; simp [c0]), rfl⟩
  | true =>
    cases c1 : GrI.inB n 0 31 with
    | false =>
      go_enter Try.func9, Try.ntmps9
      go_wp2_with (first | (go_at_call 34; refine (parts_in 3 _ (by decide) (by decide)).mono ?_; rintro e w1 ⟨rfl, rfl⟩) | (go_at_call 35; refine (in_any _ _ _ _).mono ?_; rintro e w1 ⟨rfl, rfl⟩) | (go_at_call 36; refine (has_any _ _ _ (by decide) (by decide) (by decide)).mono ?_; rintro e w1 ⟨rfl, rfl⟩))
      go_ret
      exact ⟨ret_b (by rw [E.out]; simp [c0, c1]), rfl⟩
    | true =>
      cases c2 : GrI.inB m 0 31 with
      | false =>
        go_enter Try.func9, Try.ntmps9
        go_wp2_with (first | (go_at_call 34; refine (parts_in 3 _ (by decide) (by decide)).mono ?_; rintro e w1 ⟨rfl, rfl⟩) | (go_at_call 35; refine (in_any _ _ _ _).mono ?_; rintro e w1 ⟨rfl, rfl⟩) | (go_at_call 36; refine (has_any _ _ _ (by decide) (by decide) (by decide)).mono ?_; rintro e w1 ⟨rfl, rfl⟩))
        go_ret
        exact ⟨ret_b (by rw [E.out]; simp [c0, c1, c2]), rfl⟩
      | true =>
        by_cases z3 : m = 0
        · subst z3
          by_cases z4 : kind = 0
          · subst z4
            cases c90 : GrI.inB imm 0 32760 with
            | false =>
              go_enter Try.func9, Try.ntmps9
              go_wp2_with (first | (go_at_call 34; refine (parts_in 3 _ (by decide) (by decide)).mono ?_; rintro e w1 ⟨rfl, rfl⟩) | (go_at_call 35; refine (in_any _ _ _ _).mono ?_; rintro e w1 ⟨rfl, rfl⟩) | (go_at_call 36; refine (has_any _ _ _ (by decide) (by decide) (by decide)).mono ?_; rintro e w1 ⟨rfl, rfl⟩))
              go_ret
              exact ⟨ret_b (by rw [E.out]; simp [c0, c1, c2, c90]), rfl⟩
            | true =>
              have c91 := (GrI.inB_of c90).1
              go_enter Try.func9, Try.ntmps9
              go_wp2_with (first | (go_at_call 34; refine (parts_in 3 _ (by decide) (by decide)).mono ?_; rintro e w1 ⟨rfl, rfl⟩) | (go_at_call 35; refine (in_any _ _ _ _).mono ?_; rintro e w1 ⟨rfl, rfl⟩) | (go_at_call 36; refine (has_any _ _ _ (by decide) (by decide) (by decide)).mono ?_; rintro e w1 ⟨rfl, rfl⟩))
              go_ret
              exact ⟨ret_b (by rw [E.out]; simp [c0, c1, c2, c90]), rfl⟩
          · have c4 : (kind != 0) = true := by simpa using z4
            have c4b : (kind == 0) = false := by simpa using z4
            clear z4
            go_enter Try.func9, Try.ntmps9
            go_wp2_with (first | (go_at_call 34; refine (parts_in 3 _ (by decide) (by decide)).mono ?_; rintro e w1 ⟨rfl, rfl⟩) | (go_at_call 35; refine (in_any _ _ _ _).mono ?_; rintro e w1 ⟨rfl, rfl⟩) | (go_at_call 36; refine (has_any _ _ _ (by decide) (by decide) (by decide)).mono ?_; rintro e w1 ⟨rfl, rfl⟩))
            go_ret
            exact ⟨ret_b (by rw [E.out]; simp [c0, c1, c2, c4b]), rfl⟩
        · have c3 : (m != 0) = true := by simpa using z3
          have c3b : (m == 0) = false := by simpa using z3
          clear z3
          go_enter Try.func9, Try.ntmps9
          go_wp2_with (first | (go_at_call 34; refine (parts_in 3 _ (by decide) (by decide)).mono ?_; rintro e w1 ⟨rfl, rfl⟩) | (go_at_call 35; refine (in_any _ _ _ _).mono ?_; rintro e w1 ⟨rfl, rfl⟩) | (go_at_call 36; refine (has_any _ _ _ (by decide) (by decide) (by decide)).mono ?_; rintro e w1 ⟨rfl, rfl⟩))
          go_ret
          exact ⟨ret_b (by rw [E.out]; simp [c0, c1, c2, c3b]), rfl⟩

theorem right_eq_4 (d n m imm kind : Int) : decide (GrI.right ⟨4, d, n, m, imm, kind⟩) = (GrI.inB d 0 31 && (GrI.inB n 0 31 && (GrI.inB m 0 31 && ((m == 0) && ((imm == 0) && ((kind == 0))))))) := by
  rw [Bool.eq_iff_iff]
  simp [GrI.right, GrI.parts, GrI.nums, GrI.inB]
  try omega

set_option maxRecDepth 100000 in
set_option maxHeartbeats 6400000 in
theorem rright_4 (d n m imm kind : Int) (w : World) :
    Calls Try.prog 9 #[.agg #[.int .i64 4, .int .i64 d, .int .i64 n, .int .i64 m, .int .i64 imm, .int .i64 kind]] w fun e w' => e = .returned (.bool (decide (GrI.right ⟨4, d, n, m, imm, kind⟩))) ∧ w.alloc (.cells #[.int .i64 4, .int .i64 d, .int .i64 n, .int .i64 m, .int .i64 imm, .int .i64 kind] 23) = w' := by
  have E := Lib.hid (right_eq_4 d n m imm kind)
  have ep : GrI.parts 4 = 3 := rfl
  have h1 : GrI.hasB 3 1 = true := rfl
  have h2 : GrI.hasB 3 2 = true := rfl
  have h4 : GrI.hasB 3 4 = false := rfl
  have h8 : GrI.hasB 3 8 = false := rfl
  have h16 : GrI.hasB 3 16 = false := rfl
  cases c0 : GrI.inB d 0 31 with
  | false =>
    go_enter Try.func9, Try.ntmps9
    go_wp2_with (first | (go_at_call 34; refine (parts_in 4 _ (by decide) (by decide)).mono ?_; rintro e w1 ⟨rfl, rfl⟩) | (go_at_call 35; refine (in_any _ _ _ _).mono ?_; rintro e w1 ⟨rfl, rfl⟩) | (go_at_call 36; refine (has_any _ _ _ (by decide) (by decide) (by decide)).mono ?_; rintro e w1 ⟨rfl, rfl⟩))
    go_ret
    exact ⟨ret_b (by rw [E.out]; simp [c0]), rfl⟩
  | true =>
    cases c1 : GrI.inB n 0 31 with
    | false =>
      go_enter Try.func9, Try.ntmps9
      go_wp2_with (first | (go_at_call 34; refine (parts_in 4 _ (by decide) (by decide)).mono ?_; rintro e w1 ⟨rfl, rfl⟩) | (go_at_call 35; refine (in_any _ _ _ _).mono ?_; rintro e w1 ⟨rfl, rfl⟩) | (go_at_call 36; refine (has_any _ _ _ (by decide) (by decide) (by decide)).mono ?_; rintro e w1 ⟨rfl, rfl⟩))
      go_ret
      exact ⟨ret_b (by rw [E.out]; simp [c0, c1]), rfl⟩
    | true =>
      cases c2 : GrI.inB m 0 31 with
      | false =>
        go_enter Try.func9, Try.ntmps9
        go_wp2_with (first | (go_at_call 34; refine (parts_in 4 _ (by decide) (by decide)).mono ?_; rintro e w1 ⟨rfl, rfl⟩) | (go_at_call 35; refine (in_any _ _ _ _).mono ?_; rintro e w1 ⟨rfl, rfl⟩) | (go_at_call 36; refine (has_any _ _ _ (by decide) (by decide) (by decide)).mono ?_; rintro e w1 ⟨rfl, rfl⟩))
        go_ret
        exact ⟨ret_b (by rw [E.out]; simp [c0, c1, c2]), rfl⟩
      | true =>
        by_cases z3 : m = 0
        · subst z3
          by_cases z4 : imm = 0
          · subst z4
            by_cases z5 : kind = 0
            · subst z5
              go_enter Try.func9, Try.ntmps9
              go_wp2_with (first | (go_at_call 34; refine (parts_in 4 _ (by decide) (by decide)).mono ?_; rintro e w1 ⟨rfl, rfl⟩) | (go_at_call 35; refine (in_any _ _ _ _).mono ?_; rintro e w1 ⟨rfl, rfl⟩) | (go_at_call 36; refine (has_any _ _ _ (by decide) (by decide) (by decide)).mono ?_; rintro e w1 ⟨rfl, rfl⟩))
              go_ret
              exact ⟨ret_b (by rw [E.out]; simp [c0, c1, c2]), rfl⟩
            · have c5 : (kind != 0) = true := by simpa using z5
              have c5b : (kind == 0) = false := by simpa using z5
              clear z5
              go_enter Try.func9, Try.ntmps9
              go_wp2_with (first | (go_at_call 34; refine (parts_in 4 _ (by decide) (by decide)).mono ?_; rintro e w1 ⟨rfl, rfl⟩) | (go_at_call 35; refine (in_any _ _ _ _).mono ?_; rintro e w1 ⟨rfl, rfl⟩) | (go_at_call 36; refine (has_any _ _ _ (by decide) (by decide) (by decide)).mono ?_; rintro e w1 ⟨rfl, rfl⟩))
              go_ret
              exact ⟨ret_b (by rw [E.out]; simp [c0, c1, c2, c5b]), rfl⟩
          · have c4 : (imm != 0) = true := by simpa using z4
            have c4b : (imm == 0) = false := by simpa using z4
            clear z4
            go_enter Try.func9, Try.ntmps9
            go_wp2_with (first | (go_at_call 34; refine (parts_in 4 _ (by decide) (by decide)).mono ?_; rintro e w1 ⟨rfl, rfl⟩) | (go_at_call 35; refine (in_any _ _ _ _).mono ?_; rintro e w1 ⟨rfl, rfl⟩) | (go_at_call 36; refine (has_any _ _ _ (by decide) (by decide) (by decide)).mono ?_; rintro e w1 ⟨rfl, rfl⟩))
            go_ret
            exact ⟨ret_b (by rw [E.out]; simp [c0, c1, c2, c4b]), rfl⟩
        · have c3 : (m != 0) = true := by simpa using z3
          have c3b : (m == 0) = false := by simpa using z3
          clear z3
          go_enter Try.func9, Try.ntmps9
          go_wp2_with (first | (go_at_call 34; refine (parts_in 4 _ (by decide) (by decide)).mono ?_; rintro e w1 ⟨rfl, rfl⟩) | (go_at_call 35; refine (in_any _ _ _ _).mono ?_; rintro e w1 ⟨rfl, rfl⟩) | (go_at_call 36; refine (has_any _ _ _ (by decide) (by decide) (by decide)).mono ?_; rintro e w1 ⟨rfl, rfl⟩))
          go_ret
          exact ⟨ret_b (by rw [E.out]; simp [c0, c1, c2, c3b]), rfl⟩

theorem right_eq_5 (d n m imm kind : Int) : decide (GrI.right ⟨5, d, n, m, imm, kind⟩) = (GrI.inB d 0 31 && (GrI.inB n 0 31 && (GrI.inB m 0 31 && ((m == 0) && ((imm == 0) && ((kind == 0))))))) := by
  rw [Bool.eq_iff_iff]
  simp [GrI.right, GrI.parts, GrI.nums, GrI.inB]
  try omega

set_option maxRecDepth 100000 in
set_option maxHeartbeats 6400000 in
theorem rright_5 (d n m imm kind : Int) (w : World) :
    Calls Try.prog 9 #[.agg #[.int .i64 5, .int .i64 d, .int .i64 n, .int .i64 m, .int .i64 imm, .int .i64 kind]] w fun e w' => e = .returned (.bool (decide (GrI.right ⟨5, d, n, m, imm, kind⟩))) ∧ w.alloc (.cells #[.int .i64 5, .int .i64 d, .int .i64 n, .int .i64 m, .int .i64 imm, .int .i64 kind] 23) = w' := by
  have E := Lib.hid (right_eq_5 d n m imm kind)
  have ep : GrI.parts 5 = 3 := rfl
  have h1 : GrI.hasB 3 1 = true := rfl
  have h2 : GrI.hasB 3 2 = true := rfl
  have h4 : GrI.hasB 3 4 = false := rfl
  have h8 : GrI.hasB 3 8 = false := rfl
  have h16 : GrI.hasB 3 16 = false := rfl
  cases c0 : GrI.inB d 0 31 with
  | false =>
    go_enter Try.func9, Try.ntmps9
    go_wp2_with (first | (go_at_call 34; refine (parts_in 5 _ (by decide) (by decide)).mono ?_; rintro e w1 ⟨rfl, rfl⟩) | (go_at_call 35; refine (in_any _ _ _ _).mono ?_; rintro e w1 ⟨rfl, rfl⟩) | (go_at_call 36; refine (has_any _ _ _ (by decide) (by decide) (by decide)).mono ?_; rintro e w1 ⟨rfl, rfl⟩))
    go_ret
    exact ⟨ret_b (by rw [E.out]; simp [c0]), rfl⟩
  | true =>
    cases c1 : GrI.inB n 0 31 with
    | false =>
      go_enter Try.func9, Try.ntmps9
      go_wp2_with (first | (go_at_call 34; refine (parts_in 5 _ (by decide) (by decide)).mono ?_; rintro e w1 ⟨rfl, rfl⟩) | (go_at_call 35; refine (in_any _ _ _ _).mono ?_; rintro e w1 ⟨rfl, rfl⟩) | (go_at_call 36; refine (has_any _ _ _ (by decide) (by decide) (by decide)).mono ?_; rintro e w1 ⟨rfl, rfl⟩))
      go_ret
      exact ⟨ret_b (by rw [E.out]; simp [c0, c1]), rfl⟩
    | true =>
      cases c2 : GrI.inB m 0 31 with
      | false =>
        go_enter Try.func9, Try.ntmps9
        go_wp2_with (first | (go_at_call 34; refine (parts_in 5 _ (by decide) (by decide)).mono ?_; rintro e w1 ⟨rfl, rfl⟩) | (go_at_call 35; refine (in_any _ _ _ _).mono ?_; rintro e w1 ⟨rfl, rfl⟩) | (go_at_call 36; refine (has_any _ _ _ (by decide) (by decide) (by decide)).mono ?_; rintro e w1 ⟨rfl, rfl⟩))
        go_ret
        exact ⟨ret_b (by rw [E.out]; simp [c0, c1, c2]), rfl⟩
      | true =>
        by_cases z3 : m = 0
        · subst z3
          by_cases z4 : imm = 0
          · subst z4
            by_cases z5 : kind = 0
            · subst z5
              go_enter Try.func9, Try.ntmps9
              go_wp2_with (first | (go_at_call 34; refine (parts_in 5 _ (by decide) (by decide)).mono ?_; rintro e w1 ⟨rfl, rfl⟩) | (go_at_call 35; refine (in_any _ _ _ _).mono ?_; rintro e w1 ⟨rfl, rfl⟩) | (go_at_call 36; refine (has_any _ _ _ (by decide) (by decide) (by decide)).mono ?_; rintro e w1 ⟨rfl, rfl⟩))
              go_ret
              exact ⟨ret_b (by rw [E.out]; simp [c0, c1, c2]), rfl⟩
            · have c5 : (kind != 0) = true := by simpa using z5
              have c5b : (kind == 0) = false := by simpa using z5
              clear z5
              go_enter Try.func9, Try.ntmps9
              go_wp2_with (first | (go_at_call 34; refine (parts_in 5 _ (by decide) (by decide)).mono ?_; rintro e w1 ⟨rfl, rfl⟩) | (go_at_call 35; refine (in_any _ _ _ _).mono ?_; rintro e w1 ⟨rfl, rfl⟩) | (go_at_call 36; refine (has_any _ _ _ (by decide) (by decide) (by decide)).mono ?_; rintro e w1 ⟨rfl, rfl⟩))
              go_ret
              exact ⟨ret_b (by rw [E.out]; simp [c0, c1, c2, c5b]), rfl⟩
          · have c4 : (imm != 0) = true := by simpa using z4
            have c4b : (imm == 0) = false := by simpa using z4
            clear z4
            go_enter Try.func9, Try.ntmps9
            go_wp2_with (first | (go_at_call 34; refine (parts_in 5 _ (by decide) (by decide)).mono ?_; rintro e w1 ⟨rfl, rfl⟩) | (go_at_call 35; refine (in_any _ _ _ _).mono ?_; rintro e w1 ⟨rfl, rfl⟩) | (go_at_call 36; refine (has_any _ _ _ (by decide) (by decide) (by decide)).mono ?_; rintro e w1 ⟨rfl, rfl⟩))
            go_ret
            exact ⟨ret_b (by rw [E.out]; simp [c0, c1, c2, c4b]), rfl⟩
        · have c3 : (m != 0) = true := by simpa using z3
          have c3b : (m == 0) = false := by simpa using z3
          clear z3
          go_enter Try.func9, Try.ntmps9
          go_wp2_with (first | (go_at_call 34; refine (parts_in 5 _ (by decide) (by decide)).mono ?_; rintro e w1 ⟨rfl, rfl⟩) | (go_at_call 35; refine (in_any _ _ _ _).mono ?_; rintro e w1 ⟨rfl, rfl⟩) | (go_at_call 36; refine (has_any _ _ _ (by decide) (by decide) (by decide)).mono ?_; rintro e w1 ⟨rfl, rfl⟩))
          go_ret
          exact ⟨ret_b (by rw [E.out]; simp [c0, c1, c2, c3b]), rfl⟩

theorem right_eq_6 (d n m imm kind : Int) : decide (GrI.right ⟨6, d, n, m, imm, kind⟩) = (GrI.inB d 0 31 && (GrI.inB n 0 31 && (GrI.inB m 0 31 && ((n == 0) && ((m == 0) && ((GrI.inB imm 0 65535) && ((GrI.inB kind 0 3)))))))) := by
  rw [Bool.eq_iff_iff]
  simp [GrI.right, GrI.parts, GrI.nums, GrI.inB]
  try omega

set_option maxRecDepth 100000 in
set_option maxHeartbeats 6400000 in
theorem rright_6 (d n m imm kind : Int) (w : World) :
    Calls Try.prog 9 #[.agg #[.int .i64 6, .int .i64 d, .int .i64 n, .int .i64 m, .int .i64 imm, .int .i64 kind]] w fun e w' => e = .returned (.bool (decide (GrI.right ⟨6, d, n, m, imm, kind⟩))) ∧ w.alloc (.cells #[.int .i64 6, .int .i64 d, .int .i64 n, .int .i64 m, .int .i64 imm, .int .i64 kind] 23) = w' := by
  have E := Lib.hid (right_eq_6 d n m imm kind)
  have ep : GrI.parts 6 = 25 := rfl
  have h1 : GrI.hasB 25 1 = true := rfl
  have h2 : GrI.hasB 25 2 = false := rfl
  have h4 : GrI.hasB 25 4 = false := rfl
  have h8 : GrI.hasB 25 8 = true := rfl
  have h16 : GrI.hasB 25 16 = true := rfl
  cases c0 : GrI.inB d 0 31 with
  | false =>
    go_enter Try.func9, Try.ntmps9
    go_wp2_with (first | (go_at_call 34; refine (parts_in 6 _ (by decide) (by decide)).mono ?_; rintro e w1 ⟨rfl, rfl⟩) | (go_at_call 35; refine (in_any _ _ _ _).mono ?_; rintro e w1 ⟨rfl, rfl⟩) | (go_at_call 36; refine (has_any _ _ _ (by decide) (by decide) (by decide)).mono ?_; rintro e w1 ⟨rfl, rfl⟩))
    go_ret
    exact ⟨ret_b (by rw [E.out]; simp [c0]), rfl⟩
  | true =>
    cases c1 : GrI.inB n 0 31 with
    | false =>
      go_enter Try.func9, Try.ntmps9
      go_wp2_with (first | (go_at_call 34; refine (parts_in 6 _ (by decide) (by decide)).mono ?_; rintro e w1 ⟨rfl, rfl⟩) | (go_at_call 35; refine (in_any _ _ _ _).mono ?_; rintro e w1 ⟨rfl, rfl⟩) | (go_at_call 36; refine (has_any _ _ _ (by decide) (by decide) (by decide)).mono ?_; rintro e w1 ⟨rfl, rfl⟩))
      go_ret
      exact ⟨ret_b (by rw [E.out]; simp [c0, c1]), rfl⟩
    | true =>
      cases c2 : GrI.inB m 0 31 with
      | false =>
        go_enter Try.func9, Try.ntmps9
        go_wp2_with (first | (go_at_call 34; refine (parts_in 6 _ (by decide) (by decide)).mono ?_; rintro e w1 ⟨rfl, rfl⟩) | (go_at_call 35; refine (in_any _ _ _ _).mono ?_; rintro e w1 ⟨rfl, rfl⟩) | (go_at_call 36; refine (has_any _ _ _ (by decide) (by decide) (by decide)).mono ?_; rintro e w1 ⟨rfl, rfl⟩))
        go_ret
        exact ⟨ret_b (by rw [E.out]; simp [c0, c1, c2]), rfl⟩
      | true =>
        by_cases z3 : n = 0
        · subst z3
          by_cases z4 : m = 0
          · subst z4
            cases c90 : GrI.inB imm 0 65535 with
            | false =>
              go_enter Try.func9, Try.ntmps9
              go_wp2_with (first | (go_at_call 34; refine (parts_in 6 _ (by decide) (by decide)).mono ?_; rintro e w1 ⟨rfl, rfl⟩) | (go_at_call 35; refine (in_any _ _ _ _).mono ?_; rintro e w1 ⟨rfl, rfl⟩) | (go_at_call 36; refine (has_any _ _ _ (by decide) (by decide) (by decide)).mono ?_; rintro e w1 ⟨rfl, rfl⟩))
              go_ret
              exact ⟨ret_b (by rw [E.out]; simp [c0, c1, c2, c90]), rfl⟩
            | true =>
              go_enter Try.func9, Try.ntmps9
              go_wp2_with (first | (go_at_call 34; refine (parts_in 6 _ (by decide) (by decide)).mono ?_; rintro e w1 ⟨rfl, rfl⟩) | (go_at_call 35; refine (in_any _ _ _ _).mono ?_; rintro e w1 ⟨rfl, rfl⟩) | (go_at_call 36; refine (has_any _ _ _ (by decide) (by decide) (by decide)).mono ?_; rintro e w1 ⟨rfl, rfl⟩))
              go_ret
              exact ⟨ret_b (by rw [E.out]; simp [c0, c1, c2, c90]), rfl⟩
          · have c4 : (m != 0) = true := by simpa using z4
            have c4b : (m == 0) = false := by simpa using z4
            clear z4
            go_enter Try.func9, Try.ntmps9
            go_wp2_with (first | (go_at_call 34; refine (parts_in 6 _ (by decide) (by decide)).mono ?_; rintro e w1 ⟨rfl, rfl⟩) | (go_at_call 35; refine (in_any _ _ _ _).mono ?_; rintro e w1 ⟨rfl, rfl⟩) | (go_at_call 36; refine (has_any _ _ _ (by decide) (by decide) (by decide)).mono ?_; rintro e w1 ⟨rfl, rfl⟩))
            go_ret
            exact ⟨ret_b (by rw [E.out]; simp [c0, c1, c2, c4b]), rfl⟩
        · have c3 : (n != 0) = true := by simpa using z3
          have c3b : (n == 0) = false := by simpa using z3
          clear z3
          go_enter Try.func9, Try.ntmps9
          go_wp2_with (first | (go_at_call 34; refine (parts_in 6 _ (by decide) (by decide)).mono ?_; rintro e w1 ⟨rfl, rfl⟩) | (go_at_call 35; refine (in_any _ _ _ _).mono ?_; rintro e w1 ⟨rfl, rfl⟩) | (go_at_call 36; refine (has_any _ _ _ (by decide) (by decide) (by decide)).mono ?_; rintro e w1 ⟨rfl, rfl⟩))
          go_ret
          exact ⟨ret_b (by rw [E.out]; simp [c0, c1, c2, c3b]), rfl⟩

end Go.Proofs.Ytnehdgapcgbdeaa
