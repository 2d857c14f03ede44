/-
  Layer 3, the walks: the page's own Right, operations 7 to 12.
-/
import Derived.Test.YtnehdgapcgbdeaaRi
set_option linter.unusedSimpArgs false
set_option linter.unusedVariables false
namespace Go.Proofs.Ytnehdgapcgbdeaa
open Go.RowKit

theorem right_eq_7 (d n m imm kind : Int) : decide (GrI.right ⟨7, d, n, m, imm, kind⟩) = (GrI.inB d 0 31 && (GrI.inB n 0 31 && (GrI.inB m 0 31 && ((m == 0) && ((kind == 0) && ((GrI.inB imm 0 4095))))))) := by
  rw [Bool.eq_iff_iff]
  simp [GrI.right, GrI.parts, GrI.nums, GrI.inB]
  try omega

set_option maxRecDepth 100000 in
set_option maxHeartbeats 6400000 in
theorem rright_7 (d n m imm kind : Int) (w : World) :
    Calls Try.prog 9 #[.agg #[.int .i64 7, .int .i64 d, .int .i64 n, .int .i64 m, .int .i64 imm, .int .i64 kind]] w fun e w' => e = .returned (.bool (decide (GrI.right ⟨7, d, n, m, imm, kind⟩))) ∧ w.alloc (.cells #[.int .i64 7, .int .i64 d, .int .i64 n, .int .i64 m, .int .i64 imm, .int .i64 kind] 23) = w' := by
  have E := Lib.hid (right_eq_7 d n m imm kind)
  have ep : GrI.parts 7 = 11 := rfl
  have h1 : GrI.hasB 11 1 = true := rfl
  have h2 : GrI.hasB 11 2 = true := rfl
  have h4 : GrI.hasB 11 4 = false := rfl
  have h8 : GrI.hasB 11 8 = true := rfl
  have h16 : GrI.hasB 11 16 = false := rfl
  cases c0 : GrI.inB d 0 31 with
  | false =>
    go_enter Try.func9, Try.ntmps9
    go_wp2_with (first | (go_at_call 34; refine (parts_in 7 _ (by decide) (by decide)).mono ?_; rintro e w1 ⟨rfl, rfl⟩) | (go_at_call 35; refine (in_any _ _ _ _).mono ?_; rintro e w1 ⟨rfl, rfl⟩) | (go_at_call 36; refine (has_any _ _ _ (by decide) (by decide) (by decide)).mono ?_; rintro e w1 ⟨rfl, rfl⟩))
    go_ret
    exact ⟨ret_b (by rw [E.out]; simp [c0]), rfl⟩
  | true =>
    cases c1 : GrI.inB n 0 31 with
    | false =>
      go_enter Try.func9, Try.ntmps9
      go_wp2_with (first | (go_at_call 34; refine (parts_in 7 _ (by decide) (by decide)).mono ?_; rintro e w1 ⟨rfl, rfl⟩) | (go_at_call 35; refine (in_any _ _ _ _).mono ?_; rintro e w1 ⟨rfl, rfl⟩) | (go_at_call 36; refine (has_any _ _ _ (by decide) (by decide) (by decide)).mono ?_; rintro e w1 ⟨rfl, rfl⟩))
      go_ret
      exact ⟨ret_b (by rw [E.out]; simp [c0, c1]), rfl⟩
    | true =>
      cases c2 : GrI.inB m 0 31 with
      | false =>
        go_enter Try.func9, Try.ntmps9
        go_wp2_with (first | (go_at_call 34; refine (parts_in 7 _ (by decide) (by decide)).mono ?_; rintro e w1 ⟨rfl, rfl⟩) | (go_at_call 35; refine (in_any _ _ _ _).mono ?_; rintro e w1 ⟨rfl, rfl⟩) | (go_at_call 36; refine (has_any _ _ _ (by decide) (by decide) (by decide)).mono ?_; rintro e w1 ⟨rfl, rfl⟩))
        go_ret
        exact ⟨ret_b (by rw [E.out]; simp [c0, c1, c2]), rfl⟩
      | true =>
        by_cases z3 : m = 0
        · subst z3
          by_cases z4 : kind = 0
          · subst z4
            go_enter Try.func9, Try.ntmps9
            go_wp2_with (first | (go_at_call 34; refine (parts_in 7 _ (by decide) (by decide)).mono ?_; rintro e w1 ⟨rfl, rfl⟩) | (go_at_call 35; refine (in_any _ _ _ _).mono ?_; rintro e w1 ⟨rfl, rfl⟩) | (go_at_call 36; refine (has_any _ _ _ (by decide) (by decide) (by decide)).mono ?_; rintro e w1 ⟨rfl, rfl⟩))
            go_ret
            exact ⟨ret_b (by rw [E.out]; simp [c0, c1, c2]), rfl⟩
          · have c4 : (kind != 0) = true := by simpa using z4
            have c4b : (kind == 0) = false := by simpa using z4
            clear z4
            go_enter Try.func9, Try.ntmps9
            go_wp2_with (first | (go_at_call 34; refine (parts_in 7 _ (by decide) (by decide)).mono ?_; rintro e w1 ⟨rfl, rfl⟩) | (go_at_call 35; refine (in_any _ _ _ _).mono ?_; rintro e w1 ⟨rfl, rfl⟩) | (go_at_call 36; refine (has_any _ _ _ (by decide) (by decide) (by decide)).mono ?_; rintro e w1 ⟨rfl, rfl⟩))
            go_ret
            exact ⟨ret_b (by rw [E.out]; simp [c0, c1, c2, c4b]), rfl⟩
        · have c3 : (m != 0) = true := by simpa using z3
          have c3b : (m == 0) = false := by simpa using z3
          clear z3
          go_enter Try.func9, Try.ntmps9
          go_wp2_with (first | (go_at_call 34; refine (parts_in 7 _ (by decide) (by decide)).mono ?_; rintro e w1 ⟨rfl, rfl⟩) | (go_at_call 35; refine (in_any _ _ _ _).mono ?_; rintro e w1 ⟨rfl, rfl⟩) | (go_at_call 36; refine (has_any _ _ _ (by decide) (by decide) (by decide)).mono ?_; rintro e w1 ⟨rfl, rfl⟩))
          go_ret
          exact ⟨ret_b (by rw [E.out]; simp [c0, c1, c2, c3b]), rfl⟩

theorem right_eq_8 (d n m imm kind : Int) : decide (GrI.right ⟨8, d, n, m, imm, kind⟩) = (GrI.inB d 0 31 && (GrI.inB n 0 31 && (GrI.inB m 0 31 && ((imm == 0) && ((kind == 0)))))) := by
  rw [Bool.eq_iff_iff]
  simp [GrI.right, GrI.parts, GrI.nums, GrI.inB]
  try omega

set_option maxRecDepth 100000 in
set_option maxHeartbeats 6400000 in
theorem rright_8 (d n m imm kind : Int) (w : World) :
    Calls Try.prog 9 #[.agg #[.int .i64 8, .int .i64 d, .int .i64 n, .int .i64 m, .int .i64 imm, .int .i64 kind]] w fun e w' => e = .returned (.bool (decide (GrI.right ⟨8, d, n, m, imm, kind⟩))) ∧ w.alloc (.cells #[.int .i64 8, .int .i64 d, .int .i64 n, .int .i64 m, .int .i64 imm, .int .i64 kind] 23) = w' := by
  have E := Lib.hid (right_eq_8 d n m imm kind)
  have ep : GrI.parts 8 = 7 := rfl
  have h1 : GrI.hasB 7 1 = true := rfl
  have h2 : GrI.hasB 7 2 = true := rfl
  have h4 : GrI.hasB 7 4 = true := rfl
  have h8 : GrI.hasB 7 8 = false := rfl
  have h16 : GrI.hasB 7 16 = false := rfl
  cases c0 : GrI.inB d 0 31 with
  | false =>
    go_enter Try.func9, Try.ntmps9
    go_wp2_with (first | (go_at_call 34; refine (parts_in 8 _ (by decide) (by decide)).mono ?_; rintro e w1 ⟨rfl, rfl⟩) | (go_at_call 35; refine (in_any _ _ _ _).mono ?_; rintro e w1 ⟨rfl, rfl⟩) | (go_at_call 36; refine (has_any _ _ _ (by decide) (by decide) (by decide)).mono ?_; rintro e w1 ⟨rfl, rfl⟩))
    go_ret
    exact ⟨ret_b (by rw [E.out]; simp [c0]), rfl⟩
  | true =>
    cases c1 : GrI.inB n 0 31 with
    | false =>
      go_enter Try.func9, Try.ntmps9
      go_wp2_with (first | (go_at_call 34; refine (parts_in 8 _ (by decide) (by decide)).mono ?_; rintro e w1 ⟨rfl, rfl⟩) | (go_at_call 35; refine (in_any _ _ _ _).mono ?_; rintro e w1 ⟨rfl, rfl⟩) | (go_at_call 36; refine (has_any _ _ _ (by decide) (by decide) (by decide)).mono ?_; rintro e w1 ⟨rfl, rfl⟩))
      go_ret
      exact ⟨ret_b (by rw [E.out]; simp [c0, c1]), rfl⟩
    | true =>
      cases c2 : GrI.inB m 0 31 with
      | false =>
        go_enter Try.func9, Try.ntmps9
        go_wp2_with (first | (go_at_call 34; refine (parts_in 8 _ (by decide) (by decide)).mono ?_; rintro e w1 ⟨rfl, rfl⟩) | (go_at_call 35; refine (in_any _ _ _ _).mono ?_; rintro e w1 ⟨rfl, rfl⟩) | (go_at_call 36; refine (has_any _ _ _ (by decide) (by decide) (by decide)).mono ?_; rintro e w1 ⟨rfl, rfl⟩))
        go_ret
        exact ⟨ret_b (by rw [E.out]; simp [c0, c1, c2]), rfl⟩
      | true =>
        by_cases z3 : imm = 0
        · subst z3
          by_cases z4 : kind = 0
          · subst z4
            go_enter Try.func9, Try.ntmps9
            go_wp2_with (first | (go_at_call 34; refine (parts_in 8 _ (by decide) (by decide)).mono ?_; rintro e w1 ⟨rfl, rfl⟩) | (go_at_call 35; refine (in_any _ _ _ _).mono ?_; rintro e w1 ⟨rfl, rfl⟩) | (go_at_call 36; refine (has_any _ _ _ (by decide) (by decide) (by decide)).mono ?_; rintro e w1 ⟨rfl, rfl⟩))
            go_ret
            exact ⟨ret_b (by rw [E.out]; simp [c0, c1, c2]), rfl⟩
          · have c4 : (kind != 0) = true := by simpa using z4
            have c4b : (kind == 0) = false := by simpa using z4
            clear z4
            go_enter Try.func9, Try.ntmps9
            go_wp2_with (first | (go_at_call 34; refine (parts_in 8 _ (by decide) (by decide)).mono ?_; rintro e w1 ⟨rfl, rfl⟩) | (go_at_call 35; refine (in_any _ _ _ _).mono ?_; rintro e w1 ⟨rfl, rfl⟩) | (go_at_call 36; refine (has_any _ _ _ (by decide) (by decide) (by decide)).mono ?_; rintro e w1 ⟨rfl, rfl⟩))
            go_ret
            exact ⟨ret_b (by rw [E.out]; simp [c0, c1, c2, c4b]), rfl⟩
        · have c3 : (imm != 0) = true := by simpa using z3
          have c3b : (imm == 0) = false := by simpa using z3
          clear z3
          go_enter Try.func9, Try.ntmps9
          go_wp2_with (first | (go_at_call 34; refine (parts_in 8 _ (by decide) (by decide)).mono ?_; rintro e w1 ⟨rfl, rfl⟩) | (go_at_call 35; refine (in_any _ _ _ _).mono ?_; rintro e w1 ⟨rfl, rfl⟩) | (go_at_call 36; refine (has_any _ _ _ (by decide) (by decide) (by decide)).mono ?_; rintro e w1 ⟨rfl, rfl⟩))
          go_ret
          exact ⟨ret_b (by rw [E.out]; simp [c0, c1, c2, c3b]), rfl⟩

theorem right_eq_9 (d n m imm kind : Int) : decide (GrI.right ⟨9, d, n, m, imm, kind⟩) = (GrI.inB d 0 31 && (GrI.inB n 0 31 && (GrI.inB m 0 31 && ((imm == 0) && ((kind == 0)))))) := by
  rw [Bool.eq_iff_iff]
  simp [GrI.right, GrI.parts, GrI.nums, GrI.inB]
  try omega

set_option maxRecDepth 100000 in
set_option maxHeartbeats 6400000 in
theorem rright_9 (d n m imm kind : Int) (w : World) :
    Calls Try.prog 9 #[.agg #[.int .i64 9, .int .i64 d, .int .i64 n, .int .i64 m, .int .i64 imm, .int .i64 kind]] w fun e w' => e = .returned (.bool (decide (GrI.right ⟨9, d, n, m, imm, kind⟩))) ∧ w.alloc (.cells #[.int .i64 9, .int .i64 d, .int .i64 n, .int .i64 m, .int .i64 imm, .int .i64 kind] 23) = w' := by
  have E := Lib.hid (right_eq_9 d n m imm kind)
  have ep : GrI.parts 9 = 7 := rfl
  have h1 : GrI.hasB 7 1 = true := rfl
  have h2 : GrI.hasB 7 2 = true := rfl
  have h4 : GrI.hasB 7 4 = true := rfl
  have h8 : GrI.hasB 7 8 = false := rfl
  have h16 : GrI.hasB 7 16 = false := rfl
  cases c0 : GrI.inB d 0 31 with
  | false =>
    go_enter Try.func9, Try.ntmps9
    go_wp2_with (first | (go_at_call 34; refine (parts_in 9 _ (by decide) (by decide)).mono ?_; rintro e w1 ⟨rfl, rfl⟩) | (go_at_call 35; refine (in_any _ _ _ _).mono ?_; rintro e w1 ⟨rfl, rfl⟩) | (go_at_call 36; refine (has_any _ _ _ (by decide) (by decide) (by decide)).mono ?_; rintro e w1 ⟨rfl, rfl⟩))
    go_ret
    exact ⟨ret_b (by rw [E.out]; simp [c0]), rfl⟩
  | true =>
    cases c1 : GrI.inB n 0 31 with
    | false =>
      go_enter Try.func9, Try.ntmps9
      go_wp2_with (first | (go_at_call 34; refine (parts_in 9 _ (by decide) (by decide)).mono ?_; rintro e w1 ⟨rfl, rfl⟩) | (go_at_call 35; refine (in_any _ _ _ _).mono ?_; rintro e w1 ⟨rfl, rfl⟩) | (go_at_call 36; refine (has_any _ _ _ (by decide) (by decide) (by decide)).mono ?_; rintro e w1 ⟨rfl, rfl⟩))
      go_ret
      exact ⟨ret_b (by rw [E.out]; simp [c0, c1]), rfl⟩
    | true =>
      cases c2 : GrI.inB m 0 31 with
      | false =>
        go_enter Try.func9, Try.ntmps9
        go_wp2_with (first | (go_at_call 34; refine (parts_in 9 _ (by decide) (by decide)).mono ?_; rintro e w1 ⟨rfl, rfl⟩) | (go_at_call 35; refine (in_any _ _ _ _).mono ?_; rintro e w1 ⟨rfl, rfl⟩) | (go_at_call 36; refine (has_any _ _ _ (by decide) (by decide) (by decide)).mono ?_; rintro e w1 ⟨rfl, rfl⟩))
        go_ret
        exact ⟨ret_b (by rw [E.out]; simp [c0, c1, c2]), rfl⟩
      | true =>
        by_cases z3 : imm = 0
        · subst z3
          by_cases z4 : kind = 0
          · subst z4
            go_enter Try.func9, Try.ntmps9
            go_wp2_with (first | (go_at_call 34; refine (parts_in 9 _ (by decide) (by decide)).mono ?_; rintro e w1 ⟨rfl, rfl⟩) | (go_at_call 35; refine (in_any _ _ _ _).mono ?_; rintro e w1 ⟨rfl, rfl⟩) | (go_at_call 36; refine (has_any _ _ _ (by decide) (by decide) (by decide)).mono ?_; rintro e w1 ⟨rfl, rfl⟩))
            go_ret
            exact ⟨ret_b (by rw [E.out]; simp [c0, c1, c2]), rfl⟩
          · have c4 : (kind != 0) = true := by simpa using z4
            have c4b : (kind == 0) = false := by simpa using z4
            clear z4
            go_enter Try.func9, Try.ntmps9
            go_wp2_with (first | (go_at_call 34; refine (parts_in 9 _ (by decide) (by decide)).mono ?_; rintro e w1 ⟨rfl, rfl⟩) | (go_at_call 35; refine (in_any _ _ _ _).mono ?_; rintro e w1 ⟨rfl, rfl⟩) | (go_at_call 36; refine (has_any _ _ _ (by decide) (by decide) (by decide)).mono ?_; rintro e w1 ⟨rfl, rfl⟩))
            go_ret
            exact ⟨ret_b (by rw [E.out]; simp [c0, c1, c2, c4b]), rfl⟩
        · have c3 : (imm != 0) = true := by simpa using z3
          have c3b : (imm == 0) = false := by simpa using z3
          clear z3
          go_enter Try.func9, Try.ntmps9
          go_wp2_with (first | (go_at_call 34; refine (parts_in 9 _ (by decide) (by decide)).mono ?_; rintro e w1 ⟨rfl, rfl⟩) | (go_at_call 35; refine (in_any _ _ _ _).mono ?_; rintro e w1 ⟨rfl, rfl⟩) | (go_at_call 36; refine (has_any _ _ _ (by decide) (by decide) (by decide)).mono ?_; rintro e w1 ⟨rfl, rfl⟩))
          go_ret
          exact ⟨ret_b (by rw [E.out]; simp [c0, c1, c2, c3b]), rfl⟩

theorem right_eq_10 (d n m imm kind : Int) : decide (GrI.right ⟨10, d, n, m, imm, kind⟩) = (GrI.inB d 0 31 && (GrI.inB n 0 31 && (GrI.inB m 0 31 && ((imm == 0) && ((kind == 0)))))) := by
  rw [Bool.eq_iff_iff]
  simp [GrI.right, GrI.parts, GrI.nums, GrI.inB]
  try omega

set_option maxRecDepth 100000 in
set_option maxHeartbeats 6400000 in
theorem rright_10 (d n m imm kind : Int) (w : World) :
    Calls Try.prog 9 #[.agg #[.int .i64 10, .int .i64 d, .int .i64 n, .int .i64 m, .int .i64 imm, .int .i64 kind]] w fun e w' => e = .returned (.bool (decide (GrI.right ⟨10, d, n, m, imm, kind⟩))) ∧ w.alloc (.cells #[.int .i64 10, .int .i64 d, .int .i64 n, .int .i64 m, .int .i64 imm, .int .i64 kind] 23) = w' := by
  have E := Lib.hid (right_eq_10 d n m imm kind)
  have ep : GrI.parts 10 = 7 := rfl
  have h1 : GrI.hasB 7 1 = true := rfl
  have h2 : GrI.hasB 7 2 = true := rfl
  have h4 : GrI.hasB 7 4 = true := rfl
  have h8 : GrI.hasB 7 8 = false := rfl
  have h16 : GrI.hasB 7 16 = false := rfl
  cases c0 : GrI.inB d 0 31 with
  | false =>
    go_enter Try.func9, Try.ntmps9
    go_wp2_with (first | (go_at_call 34; refine (parts_in 10 _ (by decide) (by decide)).mono ?_; rintro e w1 ⟨rfl, rfl⟩) | (go_at_call 35; refine (in_any _ _ _ _).mono ?_; rintro e w1 ⟨rfl, rfl⟩) | (go_at_call 36; refine (has_any _ _ _ (by decide) (by decide) (by decide)).mono ?_; rintro e w1 ⟨rfl, rfl⟩))
    go_ret
    exact ⟨ret_b (by rw [E.out]; simp [c0]), rfl⟩
  | true =>
    cases c1 : GrI.inB n 0 31 with
    | false =>
      go_enter Try.func9, Try.ntmps9
      go_wp2_with (first | (go_at_call 34; refine (parts_in 10 _ (by decide) (by decide)).mono ?_; rintro e w1 ⟨rfl, rfl⟩) | (go_at_call 35; refine (in_any _ _ _ _).mono ?_; rintro e w1 ⟨rfl, rfl⟩) | (go_at_call 36; refine (has_any _ _ _ (by decide) (by decide) (by decide)).mono ?_; rintro e w1 ⟨rfl, rfl⟩))
      go_ret
      exact ⟨ret_b (by rw [E.out]; simp [c0, c1]), rfl⟩
    | true =>
      cases c2 : GrI.inB m 0 31 with
      | false =>
        go_enter Try.func9, Try.ntmps9
        go_wp2_with (first | (go_at_call 34; refine (parts_in 10 _ (by decide) (by decide)).mono ?_; rintro e w1 ⟨rfl, rfl⟩) | (go_at_call 35; refine (in_any _ _ _ _).mono ?_; rintro e w1 ⟨rfl, rfl⟩) | (go_at_call 36; refine (has_any _ _ _ (by decide) (by decide) (by decide)).mono ?_; rintro e w1 ⟨rfl, rfl⟩))
        go_ret
        exact ⟨ret_b (by rw [E.out]; simp [c0, c1, c2]), rfl⟩
      | true =>
        by_cases z3 : imm = 0
        · subst z3
          by_cases z4 : kind = 0
          · subst z4
            go_enter Try.func9, Try.ntmps9
            go_wp2_with (first | (go_at_call 34; refine (parts_in 10 _ (by decide) (by decide)).mono ?_; rintro e w1 ⟨rfl, rfl⟩) | (go_at_call 35; refine (in_any _ _ _ _).mono ?_; rintro e w1 ⟨rfl, rfl⟩) | (go_at_call 36; refine (has_any _ _ _ (by decide) (by decide) (by decide)).mono ?_; rintro e w1 ⟨rfl, rfl⟩))
            go_ret
            exact ⟨ret_b (by rw [E.out]; simp [c0, c1, c2]), rfl⟩
          · have c4 : (kind != 0) = true := by simpa using z4
            have c4b : (kind == 0) = false := by simpa using z4
            clear z4
            go_enter Try.func9, Try.ntmps9
            go_wp2_with (first | (go_at_call 34; refine (parts_in 10 _ (by decide) (by decide)).mono ?_; rintro e w1 ⟨rfl, rfl⟩) | (go_at_call 35; refine (in_any _ _ _ _).mono ?_; rintro e w1 ⟨rfl, rfl⟩) | (go_at_call 36; refine (has_any _ _ _ (by decide) (by decide) (by decide)).mono ?_; rintro e w1 ⟨rfl, rfl⟩))
            go_ret
            exact ⟨ret_b (by rw [E.out]; simp [c0, c1, c2, c4b]), rfl⟩
        · have c3 : (imm != 0) = true := by simpa using z3
          have c3b : (imm == 0) = false := by simpa using z3
          clear z3
          go_enter Try.func9, Try.ntmps9
          go_wp2_with (first | (go_at_call 34; refine (parts_in 10 _ (by decide) (by decide)).mono ?_; rintro e w1 ⟨rfl, rfl⟩) | (go_at_call 35; refine (in_any _ _ _ _).mono ?_; rintro e w1 ⟨rfl, rfl⟩) | (go_at_call 36; refine (has_any _ _ _ (by decide) (by decide) (by decide)).mono ?_; rintro e w1 ⟨rfl, rfl⟩))
          go_ret
          exact ⟨ret_b (by rw [E.out]; simp [c0, c1, c2, c3b]), rfl⟩

theorem right_eq_11 (d n m imm kind : Int) : decide (GrI.right ⟨11, d, n, m, imm, kind⟩) = (GrI.inB d 0 31 && (GrI.inB n 0 31 && (GrI.inB m 0 31 && ((imm == 0) && ((kind == 0)))))) := by
  rw [Bool.eq_iff_iff]
  simp [GrI.right, GrI.parts, GrI.nums, GrI.inB]
  try omega

set_option maxRecDepth 100000 in
set_option maxHeartbeats 6400000 in
theorem rright_11 (d n m imm kind : Int) (w : World) :
    Calls Try.prog 9 #[.agg #[.int .i64 11, .int .i64 d, .int .i64 n, .int .i64 m, .int .i64 imm, .int .i64 kind]] w fun e w' => e = .returned (.bool (decide (GrI.right ⟨11, d, n, m, imm, kind⟩))) ∧ w.alloc (.cells #[.int .i64 11, .int .i64 d, .int .i64 n, .int .i64 m, .int .i64 imm, .int .i64 kind] 23) = w' := by
  have E := Lib.hid (right_eq_11 d n m imm kind)
  have ep : GrI.parts 11 = 7 := rfl
  have h1 : GrI.hasB 7 1 = true := rfl
  have h2 : GrI.hasB 7 2 = true := rfl
  have h4 : GrI.hasB 7 4 = true := rfl
  have h8 : GrI.hasB 7 8 = false := rfl
  have h16 : GrI.hasB 7 16 = false := rfl
  cases c0 : GrI.inB d 0 31 with
  | false =>
    go_enter Try.func9, Try.ntmps9
    go_wp2_with (first | (go_at_call 34; refine (parts_in 11 _ (by decide) (by decide)).mono ?_; rintro e w1 ⟨rfl, rfl⟩) | (go_at_call 35; refine (in_any _ _ _ _).mono ?_; rintro e w1 ⟨rfl, rfl⟩) | (go_at_call 36; refine (has_any _ _ _ (by decide) (by decide) (by decide)).mono ?_; rintro e w1 ⟨rfl, rfl⟩))
    go_ret
    exact ⟨ret_b (by rw [E.out]; simp [c0]), rfl⟩
  | true =>
    cases c1 : GrI.inB n 0 31 with
    | false =>
      go_enter Try.func9, Try.ntmps9
      go_wp2_with (first | (go_at_call 34; refine (parts_in 11 _ (by decide) (by decide)).mono ?_; rintro e w1 ⟨rfl, rfl⟩) | (go_at_call 35; refine (in_any _ _ _ _).mono ?_; rintro e w1 ⟨rfl, rfl⟩) | (go_at_call 36; refine (has_any _ _ _ (by decide) (by decide) (by decide)).mono ?_; rintro e w1 ⟨rfl, rfl⟩))
      go_ret
      exact ⟨ret_b (by rw [E.out]; simp [c0, c1]), rfl⟩
    | true =>
      cases c2 : GrI.inB m 0 31 with
      | false =>
        go_enter Try.func9, Try.ntmps9
        go_wp2_with (first | (go_at_call 34; refine (parts_in 11 _ (by decide) (by decide)).mono ?_; rintro e w1 ⟨rfl, rfl⟩) | (go_at_call 35; refine (in_any _ _ _ _).mono ?_; rintro e w1 ⟨rfl, rfl⟩) | (go_at_call 36; refine (has_any _ _ _ (by decide) (by decide) (by decide)).mono ?_; rintro e w1 ⟨rfl, rfl⟩))
        go_ret
        exact ⟨ret_b (by rw [E.out]; simp [c0, c1, c2]), rfl⟩
      | true =>
        by_cases z3 : imm = 0
        · subst z3
          by_cases z4 : kind = 0
          · subst z4
            go_enter Try.func9, Try.ntmps9
            go_wp2_with (first | (go_at_call 34; refine (parts_in 11 _ (by decide) (by decide)).mono ?_; rintro e w1 ⟨rfl, rfl⟩) | (go_at_call 35; refine (in_any _ _ _ _).mono ?_; rintro e w1 ⟨rfl, rfl⟩) | (go_at_call 36; refine (has_any _ _ _ (by decide) (by decide) (by decide)).mono ?_; rintro e w1 ⟨rfl, rfl⟩))
            go_ret
            exact ⟨ret_b (by rw [E.out]; simp [c0, c1, c2]), rfl⟩
          · have c4 : (kind != 0) = true := by simpa using z4
            have c4b : (kind == 0) = false := by simpa using z4
            clear z4
            go_enter Try.func9, Try.ntmps9
            go_wp2_with (first | (go_at_call 34; refine (parts_in 11 _ (by decide) (by decide)).mono ?_; rintro e w1 ⟨rfl, rfl⟩) | (go_at_call 35; refine (in_any _ _ _ _).mono ?_; rintro e w1 ⟨rfl, rfl⟩) | (go_at_call 36; refine (has_any _ _ _ (by decide) (by decide) (by decide)).mono ?_; rintro e w1 ⟨rfl, rfl⟩))
            go_ret
            exact ⟨ret_b (by rw [E.out]; simp [c0, c1, c2, c4b]), rfl⟩
        · have c3 : (imm != 0) = true := by simpa using z3
          have c3b : (imm == 0) = false := by simpa using z3
          clear z3
          go_enter Try.func9, Try.ntmps9
          go_wp2_with (first | (go_at_call 34; refine (parts_in 11 _ (by decide) (by decide)).mono ?_; rintro e w1 ⟨rfl, rfl⟩) | (go_at_call 35; refine (in_any _ _ _ _).mono ?_; rintro e w1 ⟨rfl, rfl⟩) | (go_at_call 36; refine (has_any _ _ _ (by decide) (by decide) (by decide)).mono ?_; rintro e w1 ⟨rfl, rfl⟩))
          go_ret
          exact ⟨ret_b (by rw [E.out]; simp [c0, c1, c2, c3b]), rfl⟩

theorem right_eq_12 (d n m imm kind : Int) : decide (GrI.right ⟨12, d, n, m, imm, kind⟩) = (GrI.inB d 0 31 && (GrI.inB n 0 31 && (GrI.inB m 0 31 && ((imm == 0) && ((kind == 0)))))) := by
  rw [Bool.eq_iff_iff]
  simp [GrI.right, GrI.parts, GrI.nums, GrI.inB]
  try omega

set_option maxRecDepth 100000 in
set_option maxHeartbeats 6400000 in
theorem rright_12 (d n m imm kind : Int) (w : World) :
    Calls Try.prog 9 #[.agg #[.int .i64 12, .int .i64 d, .int .i64 n, .int .i64 m, .int .i64 imm, .int .i64 kind]] w fun e w' => e = .returned (.bool (decide (GrI.right ⟨12, d, n, m, imm, kind⟩))) ∧ w.alloc (.cells #[.int .i64 12, .int .i64 d, .int .i64 n, .int .i64 m, .int .i64 imm, .int .i64 kind] 23) = w' := by
  have E := Lib.hid (right_eq_12 d n m imm kind)
  have ep : GrI.parts 12 = 7 := rfl
  have h1 : GrI.hasB 7 1 = true := rfl
  have h2 : GrI.hasB 7 2 = true := rfl
  have h4 : GrI.hasB 7 4 = true := rfl
  have h8 : GrI.hasB 7 8 = false := rfl
  have h16 : GrI.hasB 7 16 = false := rfl
  cases c0 : GrI.inB d 0 31 with
  | false =>
    go_enter Try.func9, Try.ntmps9
    go_wp2_with (first | (go_at_call 34; refine (parts_in 12 _ (by decide) (by decide)).mono ?_; rintro e w1 ⟨rfl, rfl⟩) | (go_at_call 35; refine (in_any _ _ _ _).mono ?_; rintro e w1 ⟨rfl, rfl⟩) | (go_at_call 36; refine (has_any _ _ _ (by decide) (by decide) (by decide)).mono ?_; rintro e w1 ⟨rfl, rfl⟩))
    go_ret
    exact ⟨ret_b (by rw [E.out]; simp [c0]), rfl⟩
  | true =>
    cases c1 : GrI.inB n 0 31 with
    | false =>
      go_enter Try.func9, Try.ntmps9
      go_wp2_with (first | (go_at_call 34; refine (parts_in 12 _ (by decide) (by decide)).mono ?_; rintro e w1 ⟨rfl, rfl⟩) | (go_at_call 35; refine (in_any _ _ _ _).mono ?_; rintro e w1 ⟨rfl, rfl⟩) | (go_at_call 36; refine (has_any _ _ _ (by decide) (by decide) (by decide)).mono ?_; rintro e w1 ⟨rfl, rfl⟩))
      go_ret
      exact ⟨ret_b (by rw [E.out]; simp [c0, c1]), rfl⟩
    | true =>
      cases c2 : GrI.inB m 0 31 with
      | false =>
        go_enter Try.func9, Try.ntmps9
        go_wp2_with (first | (go_at_call 34; refine (parts_in 12 _ (by decide) (by decide)).mono ?_; rintro e w1 ⟨rfl, rfl⟩) | (go_at_call 35; refine (in_any _ _ _ _).mono ?_; rintro e w1 ⟨rfl, rfl⟩) | (go_at_call 36; refine (has_any _ _ _ (by decide) (by decide) (by decide)).mono ?_; rintro e w1 ⟨rfl, rfl⟩))
        go_ret
        exact ⟨ret_b (by rw [E.out]; simp [c0, c1, c2]), rfl⟩
      | true =>
        by_cases z3 : imm = 0
        · subst z3
          by_cases z4 : kind = 0
          · subst z4
            go_enter Try.func9, Try.ntmps9
            go_wp2_with (first | (go_at_call 34; refine (parts_in 12 _ (by decide) (by decide)).mono ?_; rintro e w1 ⟨rfl, rfl⟩) | (go_at_call 35; refine (in_any _ _ _ _).mono ?_; rintro e w1 ⟨rfl, rfl⟩) | (go_at_call 36; refine (has_any _ _ _ (by decide) (by decide) (by decide)).mono ?_; rintro e w1 ⟨rfl, rfl⟩))
            go_ret
            exact ⟨ret_b (by rw [E.out]; simp [c0, c1, c2]), rfl⟩
          · have c4 : (kind != 0) = true := by simpa using z4
            have c4b : (kind == 0) = false := by simpa using z4
            clear z4
            go_enter Try.func9, Try.ntmps9
            go_wp2_with (first | (go_at_call 34; refine (parts_in 12 _ (by decide) (by decide)).mono ?_; rintro e w1 ⟨rfl, rfl⟩) | (go_at_call 35; refine (in_any _ _ _ _).mono ?_; rintro e w1 ⟨rfl, rfl⟩) | (go_at_call 36; refine (has_any _ _ _ (by decide) (by decide) (by decide)).mono ?_; rintro e w1 ⟨rfl, rfl⟩))
            go_ret
            exact ⟨ret_b (by rw [E.out]; simp [c0, c1, c2, c4b]), rfl⟩
        · have c3 : (imm != 0) = true := by simpa using z3
          have c3b : (imm == 0) = false := by simpa using z3
          clear z3
          go_enter Try.func9, Try.ntmps9
          go_wp2_with (first | (go_at_call 34; refine (parts_in 12 _ (by decide) (by decide)).mono ?_; rintro e w1 ⟨rfl, rfl⟩) | (go_at_call 35; refine (in_any _ _ _ _).mono ?_; rintro e w1 ⟨rfl, rfl⟩) | (go_at_call 36; refine (has_any _ _ _ (by decide) (by decide) (by decide)).mono ?_; rintro e w1 ⟨rfl, rfl⟩))
          go_ret
          exact ⟨ret_b (by rw [E.out]; simp [c0, c1, c2, c3b]), rfl⟩

end Go.Proofs.Ytnehdgapcgbdeaa
