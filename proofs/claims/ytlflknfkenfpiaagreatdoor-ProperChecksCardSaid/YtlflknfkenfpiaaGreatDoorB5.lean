/-
  Texts of one claim, merged.
-/
import Derived.Test.YtlflknfkenfpiaaGreatDoorB1
import Derived.Test.YtlflknfkenfpiaaGreatDoorProg
set_option linter.unusedSimpArgs false
set_option linter.unusedVariables false
namespace GrI
def inB (n lo hi : Int) : Bool := decide (lo ≤ n) && decide (n ≤ hi)
theorem inB_of {n lo hi : Int} (h : inB n lo hi = true) : lo ≤ n ∧ n ≤ hi := by simpa [inB] using h
def hasB (p one : Int) : Bool := (p / one % 2 == 1)
end GrI
namespace Go.Proofs.YtlflknfkenfpiaaGreatDoor
open Go.RowKit
set_option maxHeartbeats 400000 in
theorem in_any (n lo hi : Int) (w : World) :
    Calls Tryz.prog 89 #[.int .i64 n, .int .i64 lo, .int .i64 hi] w fun e w' => e = .returned (.bool (GrI.inB n lo hi)) ∧ w = w' := by
  have E := Lib.hid (show GrI.inB n lo hi = (decide (lo ≤ n) && decide (n ≤ hi)) from rfl)
  by_cases h : lo ≤ n
  · have h1 : decide (lo ≤ n) = true := by simpa using h
    have E1 := Lib.hid (show GrI.inB n lo hi = decide (n ≤ hi) by rw [E.out, h1]; rfl)
    clear h E
    go_enter Tryz.func89, Tryz.ntmps89
    go_wp2
    go_ret
    exact ⟨ret_b E1.out.symm, rfl⟩
  · have h1 : decide (lo ≤ n) = false := by simpa using h
    have E1 := Lib.hid (show GrI.inB n lo hi = false by rw [E.out, h1]; rfl)
    clear h E
    go_enter Tryz.func89, Tryz.ntmps89
    go_wp2
    go_ret
    exact ⟨ret_b E1.out.symm, rfl⟩
set_option maxHeartbeats 400000 in
theorem has_any (p one : Int) (w : World) (h0 : 0 ≤ p) (h1 : p ≤ 25) (h2 : one = 1 ∨ one = 2 ∨ one = 4 ∨ one = 8 ∨ one = 16) :
    Calls Tryz.prog 90 #[.int .i64 p, .int .i64 one] w fun e w' => e = .returned (.bool (GrI.hasB p one)) ∧ w = w' := by
  have E := Lib.hid (show GrI.hasB p one = (p / one % 2 == 1) from rfl)
  rcases h2 with rfl | rfl | rfl | rfl | rfl
  all_goals
    go_enter Tryz.func90, Tryz.ntmps90
    go_wp2
    go_ret
    exact ⟨ret_b (by rw [E.out]; try simp), rfl⟩
set_option maxHeartbeats 3200000 in
theorem parts_in (op : Int) (w : World) (h : 1 ≤ op) (h2 : op ≤ 23) :
    Calls Tryz.prog 88 #[.int .i64 op] w fun e w' => e = .returned (.int .i64 (GrI.parts op)) ∧ w = w' := by
  have ho : op = 1 ∨ op = 2 ∨ op = 3 ∨ op = 4 ∨ op = 5 ∨ op = 6 ∨ op = 7 ∨ op = 8 ∨ op = 9 ∨ op = 10 ∨ op = 11 ∨ op = 12 ∨ op = 13 ∨ op = 14 ∨ op = 15 ∨ op = 16 ∨ op = 17 ∨ op = 18 ∨ op = 19 ∨ op = 20 ∨ op = 21 ∨ op = 22 ∨ op = 23 := by omega
  clear h h2
  rcases ho with rfl | rfl | rfl | rfl | rfl | rfl | rfl | rfl | rfl | rfl | rfl | rfl | rfl | rfl | rfl | rfl | rfl | rfl | rfl | rfl | rfl | rfl | rfl
  all_goals
    go_enter Tryz.func88, Tryz.ntmps88
    go_wp2
    go_ret
    exact ⟨rfl, rfl⟩
set_option maxHeartbeats 1600000 in
theorem parts_out (op : Int) (w : World) (h : op < 1 ∨ 23 < op) :
    Calls Tryz.prog 88 #[.int .i64 op] w fun e w' => e = .returned (.int .i64 (-1)) ∧ w = w' := by
  have n1 : (op == 1) = false := by simp; omega
  have n2 : (op == 2) = false := by simp; omega
  have n3 : (op == 3) = false := by simp; omega
  have n4 : (op == 4) = false := by simp; omega
  have n5 : (op == 5) = false := by simp; omega
  have n6 : (op == 6) = false := by simp; omega
  have n7 : (op == 7) = false := by simp; omega
  have n8 : (op == 8) = false := by simp; omega
  have n9 : (op == 9) = false := by simp; omega
  have n10 : (op == 10) = false := by simp; omega
  have n11 : (op == 11) = false := by simp; omega
  have n12 : (op == 12) = false := by simp; omega
  have n13 : (op == 13) = false := by simp; omega
  have n14 : (op == 14) = false := by simp; omega
  have n15 : (op == 15) = false := by simp; omega
  have n16 : (op == 16) = false := by simp; omega
  have n17 : (op == 17) = false := by simp; omega
  have n18 : (op == 18) = false := by simp; omega
  have n19 : (op == 19) = false := by simp; omega
  have n20 : (op == 20) = false := by simp; omega
  have n21 : (op == 21) = false := by simp; omega
  have n22 : (op == 22) = false := by simp; omega
  have n23 : (op == 23) = false := by simp; omega
  clear h
  go_enter Tryz.func88, Tryz.ntmps88
  go_wp2
  go_ret
  exact ⟨rfl, rfl⟩
end Go.Proofs.YtlflknfkenfpiaaGreatDoor
namespace Go.Proofs.YtlflknfkenfpiaaGreatDoor
open Go.RowKit
theorem right_eq_1 (d n m imm kind : Int) : decide (GrI.right ⟨1, d, n, m, imm, kind⟩) = (GrI.inB d 0 31 && (GrI.inB n 0 31 && (GrI.inB m 0 31 && ((d == 0) && ((n == 0) && ((m == 0) && ((imm == 0) && ((kind == 0))))))))) := by
  rw [Bool.eq_iff_iff]
  simp [GrI.right, GrI.parts, GrI.nums, GrI.inB]
  try omega
set_option maxRecDepth 100000 in
set_option maxHeartbeats 6400000 in
theorem rright_1 (d n m imm kind : Int) (w : World) :
    Calls Tryz.prog 57 #[.agg #[.int .i64 1, .int .i64 d, .int .i64 n, .int .i64 m, .int .i64 imm, .int .i64 kind]] w fun e w' => e = .returned (.bool (decide (GrI.right ⟨1, d, n, m, imm, kind⟩))) ∧ w.alloc (.cells #[.int .i64 1, .int .i64 d, .int .i64 n, .int .i64 m, .int .i64 imm, .int .i64 kind] 84) = w' := by
  have E := Lib.hid (right_eq_1 d n m imm kind)
  have ep : GrI.parts 1 = 0 := rfl
  have h1 : GrI.hasB 0 1 = false := rfl
  have h2 : GrI.hasB 0 2 = false := rfl
  have h4 : GrI.hasB 0 4 = false := rfl
  have h8 : GrI.hasB 0 8 = false := rfl
  have h16 : GrI.hasB 0 16 = false := rfl
  cases c0 : GrI.inB d 0 31 with
  | false =>
    go_enter Tryz.func57, Tryz.ntmps57
    go_wp2_with (first | (go_at_call 88; refine (parts_in 1 _ (by decide) (by decide)).mono ?_; rintro e w1 ⟨rfl, rfl⟩) | (go_at_call 89; refine (in_any _ _ _ _).mono ?_; rintro e w1 ⟨rfl, rfl⟩) | (go_at_call 90; refine (has_any _ _ _ (by decide) (by decide) (by decide)).mono ?_; rintro e w1 ⟨rfl, rfl⟩))
    go_ret
    exact ⟨ret_b (by rw [E.out]; simp [c0]), rfl⟩
  | true =>
    cases c1 : GrI.inB n 0 31 with
    | false =>
      go_enter Tryz.func57, Tryz.ntmps57
      go_wp2_with (first | (go_at_call 88; refine (parts_in 1 _ (by decide) (by decide)).mono ?_; rintro e w1 ⟨rfl, rfl⟩) | (go_at_call 89; refine (in_any _ _ _ _).mono ?_; rintro e w1 ⟨rfl, rfl⟩) | (go_at_call 90; refine (has_any _ _ _ (by decide) (by decide) (by decide)).mono ?_; rintro e w1 ⟨rfl, rfl⟩))
      go_ret
      exact ⟨ret_b (by rw [E.out]; simp [c0, c1]), rfl⟩
    | true =>
      cases c2 : GrI.inB m 0 31 with
      | false =>
        go_enter Tryz.func57, Tryz.ntmps57
        go_wp2_with (first | (go_at_call 88; refine (parts_in 1 _ (by decide) (by decide)).mono ?_; rintro e w1 ⟨rfl, rfl⟩) | (go_at_call 89; refine (in_any _ _ _ _).mono ?_; rintro e w1 ⟨rfl, rfl⟩) | (go_at_call 90; refine (has_any _ _ _ (by decide) (by decide) (by decide)).mono ?_; rintro e w1 ⟨rfl, rfl⟩))
        go_ret
        exact ⟨ret_b (by rw [E.out]; simp [c0, c1, c2]), rfl⟩
      | true =>
        by_cases z3 : d = 0
        · subst z3
          by_cases z4 : n = 0
          · subst z4
            by_cases z5 : m = 0
            · subst z5
              by_cases z6 : imm = 0
              · subst z6
                by_cases z7 : kind = 0
                · subst z7
                  go_enter Tryz.func57, Tryz.ntmps57
                  go_wp2_with (first | (go_at_call 88; refine (parts_in 1 _ (by decide) (by decide)).mono ?_; rintro e w1 ⟨rfl, rfl⟩) | (go_at_call 89; refine (in_any _ _ _ _).mono ?_; rintro e w1 ⟨rfl, rfl⟩) | (go_at_call 90; refine (has_any _ _ _ (by decide) (by decide) (by decide)).mono ?_; rintro e w1 ⟨rfl, rfl⟩))
                  go_ret
                  exact ⟨ret_b (by rw [E.out]; simp [c0, c1, c2]), rfl⟩
                · have c7 : (kind != 0) = true := by simpa using z7
                  have c7b : (kind == 0) = false := by simpa using z7
                  clear z7
                  go_enter Tryz.func57, Tryz.ntmps57
                  go_wp2_with (first | (go_at_call 88; refine (parts_in 1 _ (by decide) (by decide)).mono ?_; rintro e w1 ⟨rfl, rfl⟩) | (go_at_call 89; refine (in_any _ _ _ _).mono ?_; rintro e w1 ⟨rfl, rfl⟩) | (go_at_call 90; refine (has_any _ _ _ (by decide) (by decide) (by decide)).mono ?_; rintro e w1 ⟨rfl, rfl⟩))
                  go_ret
                  exact ⟨ret_b (by rw [E.out]; simp [c0, c1, c2, c7b]), rfl⟩
              · have c6 : (imm != 0) = true := by simpa using z6
                have c6b : (imm == 0) = false := by simpa using z6
                clear z6
                go_enter Tryz.func57, Tryz.ntmps57
                go_wp2_with (first | (go_at_call 88; refine (parts_in 1 _ (by decide) (by decide)).mono ?_; rintro e w1 ⟨rfl, rfl⟩) | (go_at_call 89; refine (in_any _ _ _ _).mono ?_; rintro e w1 ⟨rfl, rfl⟩) | (go_at_call 90; refine (has_any _ _ _ (by decide) (by decide) (by decide)).mono ?_; rintro e w1 ⟨rfl, rfl⟩))
                go_ret
                exact ⟨ret_b (by rw [E.out]; simp [c0, c1, c2, c6b]), rfl⟩
            · have c5 : (m != 0) = true := by simpa using z5
              have c5b : (m == 0) = false := by simpa using z5
              clear z5
              go_enter Tryz.func57, Tryz.ntmps57
              go_wp2_with (first | (go_at_call 88; refine (parts_in 1 _ (by decide) (by decide)).mono ?_; rintro e w1 ⟨rfl, rfl⟩) | (go_at_call 89; refine (in_any _ _ _ _).mono ?_; rintro e w1 ⟨rfl, rfl⟩) | (go_at_call 90; refine (has_any _ _ _ (by decide) (by decide) (by decide)).mono ?_; rintro e w1 ⟨rfl, rfl⟩))
              go_ret
              exact ⟨ret_b (by rw [E.out]; simp [c0, c1, c2, c5b]), rfl⟩
          · have c4 : (n != 0) = true := by simpa using z4
            have c4b : (n == 0) = false := by simpa using z4
            clear z4
            go_enter Tryz.func57, Tryz.ntmps57
            go_wp2_with (first | (go_at_call 88; refine (parts_in 1 _ (by decide) (by decide)).mono ?_; rintro e w1 ⟨rfl, rfl⟩) | (go_at_call 89; refine (in_any _ _ _ _).mono ?_; rintro e w1 ⟨rfl, rfl⟩) | (go_at_call 90; refine (has_any _ _ _ (by decide) (by decide) (by decide)).mono ?_; rintro e w1 ⟨rfl, rfl⟩))
            go_ret
            exact ⟨ret_b (by rw [E.out]; simp [c0, c1, c2, c4b]), rfl⟩
        · have c3 : (d != 0) = true := by simpa using z3
          have c3b : (d == 0) = false := by simpa using z3
          clear z3
          go_enter Tryz.func57, Tryz.ntmps57
          go_wp2_with (first | (go_at_call 88; refine (parts_in 1 _ (by decide) (by decide)).mono ?_; rintro e w1 ⟨rfl, rfl⟩) | (go_at_call 89; refine (in_any _ _ _ _).mono ?_; rintro e w1 ⟨rfl, rfl⟩) | (go_at_call 90; refine (has_any _ _ _ (by decide) (by decide) (by decide)).mono ?_; rintro e w1 ⟨rfl, rfl⟩))
          go_ret
          exact ⟨ret_b (by rw [E.out]; simp [c0, c1, c2, c3b]), rfl⟩
theorem right_eq_2 (d n m imm kind : Int) : decide (GrI.right ⟨2, d, n, m, imm, kind⟩) = (GrI.inB d 0 31 && (GrI.inB n 0 31 && (GrI.inB m 0 31 && ((m == 0) && ((kind == 0) && ((GrI.inB imm 0 32760) && ((imm % 8 == 0)))))))) := by
  rw [Bool.eq_iff_iff]
  simp [GrI.right, GrI.parts, GrI.nums, GrI.inB]
  try omega
set_option maxRecDepth 100000 in
set_option maxHeartbeats 6400000 in
theorem rright_2 (d n m imm kind : Int) (w : World) :
    Calls Tryz.prog 57 #[.agg #[.int .i64 2, .int .i64 d, .int .i64 n, .int .i64 m, .int .i64 imm, .int .i64 kind]] w fun e w' => e = .returned (.bool (decide (GrI.right ⟨2, d, n, m, imm, kind⟩))) ∧ w.alloc (.cells #[.int .i64 2, .int .i64 d, .int .i64 n, .int .i64 m, .int .i64 imm, .int .i64 kind] 84) = w' := by
  have E := Lib.hid (right_eq_2 d n m imm kind)
  have ep : GrI.parts 2 = 11 := rfl
  have h1 : GrI.hasB 11 1 = true := rfl
  have h2 : GrI.hasB 11 2 = true := rfl
  have h4 : GrI.hasB 11 4 = false := rfl
  have h8 : GrI.hasB 11 8 = true := rfl
  have h16 : GrI.hasB 11 16 = false := rfl
  cases c0 : GrI.inB d 0 31 with
  | false =>
    go_enter Tryz.func57, Tryz.ntmps57
    go_wp2_with (first | (go_at_call 88; refine (parts_in 2 _ (by decide) (by decide)).mono ?_; rintro e w1 ⟨rfl, rfl⟩) | (go_at_call 89; refine (in_any _ _ _ _).mono ?_; rintro e w1 ⟨rfl, rfl⟩) | (go_at_call 90; refine (has_any _ _ _ (by decide) (by decide) (by decide)).mono ?_; rintro e w1 ⟨rfl, rfl⟩))
    go_ret
    exact ⟨ret_b (by rw [E.out]; simp [c0]), rfl⟩
  | true =>
    cases c1 : GrI.inB n 0 31 with
    | false =>
      go_enter Tryz.func57, Tryz.ntmps57
      go_wp2_with (first | (go_at_call 88; refine (parts_in 2 _ (by decide) (by decide)).mono ?_; rintro e w1 ⟨rfl, rfl⟩) | (go_at_call 89; refine (in_any _ _ _ _).mono ?_; rintro e w1 ⟨rfl, rfl⟩) | (go_at_call 90; refine (has_any _ _ _ (by decide) (by decide) (by decide)).mono ?_; rintro e w1 ⟨rfl, rfl⟩))
      go_ret
      exact ⟨ret_b (by rw [E.out]; simp [c0, c1]), rfl⟩
    | true =>
      cases c2 : GrI.inB m 0 31 with
      | false =>
        go_enter Tryz.func57, Tryz.ntmps57
        go_wp2_with (first | (go_at_call 88; refine (parts_in 2 _ (by decide) (by decide)).mono ?_; rintro e w1 ⟨rfl, rfl⟩) | (go_at_call 89; refine (in_any _ _ _ _).mono ?_; rintro e w1 ⟨rfl, rfl⟩) | (go_at_call 90; refine (has_any _ _ _ (by decide) (by decide) (by decide)).mono ?_; rintro e w1 ⟨rfl, rfl⟩))
        go_ret
        exact ⟨ret_b (by rw [E.out]; simp [c0, c1, c2]), rfl⟩
      | true =>
        by_cases z3 : m = 0
        · subst z3
          by_cases z4 : kind = 0
          · subst z4
            cases c90 : GrI.inB imm 0 32760 with
            | false =>
              go_enter Tryz.func57, Tryz.ntmps57
              go_wp2_with (first | (go_at_call 88; refine (parts_in 2 _ (by decide) (by decide)).mono ?_; rintro e w1 ⟨rfl, rfl⟩) | (go_at_call 89; refine (in_any _ _ _ _).mono ?_; rintro e w1 ⟨rfl, rfl⟩) | (go_at_call 90; refine (has_any _ _ _ (by decide) (by decide) (by decide)).mono ?_; rintro e w1 ⟨rfl, rfl⟩))
              go_ret
              exact ⟨ret_b (by rw [E.out]; simp [c0, c1, c2, c90]), rfl⟩
            | true =>
              have c91 := (GrI.inB_of c90).1
              go_enter Tryz.func57, Tryz.ntmps57
              go_wp2_with (first | (go_at_call 88; refine (parts_in 2 _ (by decide) (by decide)).mono ?_; rintro e w1 ⟨rfl, rfl⟩) | (go_at_call 89; refine (in_any _ _ _ _).mono ?_; rintro e w1 ⟨rfl, rfl⟩) | (go_at_call 90; refine (has_any _ _ _ (by decide) (by decide) (by decide)).mono ?_; rintro e w1 ⟨rfl, rfl⟩))
              go_ret
              exact ⟨ret_b (by rw [E.out]; simp [c0, c1, c2, c90]), rfl⟩
          · have c4 : (kind != 0) = true := by simpa using z4
            have c4b : (kind == 0) = false := by simpa using z4
            clear z4
            go_enter Tryz.func57, Tryz.ntmps57
            go_wp2_with (first | (go_at_call 88; refine (parts_in 2 _ (by decide) (by decide)).mono ?_; rintro e w1 ⟨rfl, rfl⟩) | (go_at_call 89; refine (in_any _ _ _ _).mono ?_; rintro e w1 ⟨rfl, rfl⟩) | (go_at_call 90; refine (has_any _ _ _ (by decide) (by decide) (by decide)).mono ?_; rintro e w1 ⟨rfl, rfl⟩))
            go_ret
            exact ⟨ret_b (by rw [E.out]; simp [c0, c1, c2, c4b]), rfl⟩
        · have c3 : (m != 0) = true := by simpa using z3
          have c3b : (m == 0) = false := by simpa using z3
          clear z3
          go_enter Tryz.func57, Tryz.ntmps57
          go_wp2_with (first | (go_at_call 88; refine (parts_in 2 _ (by decide) (by decide)).mono ?_; rintro e w1 ⟨rfl, rfl⟩) | (go_at_call 89; refine (in_any _ _ _ _).mono ?_; rintro e w1 ⟨rfl, rfl⟩) | (go_at_call 90; refine (has_any _ _ _ (by decide) (by decide) (by decide)).mono ?_; rintro e w1 ⟨rfl, rfl⟩))
          go_ret
          exact ⟨ret_b (by rw [E.out]; simp [c0, c1, c2, c3b]), rfl⟩
theorem right_eq_3 (d n m imm kind : Int) : decide (GrI.right ⟨3, d, n, m, imm, kind⟩) = (GrI.inB d 0 31 && (GrI.inB n 0 31 && (GrI.inB m 0 31 && ((m == 0) && ((kind == 0) && ((GrI.inB imm 0 32760) && ((imm % 8 == 0)))))))) := by
  rw [Bool.eq_iff_iff]
  simp [GrI.right, GrI.parts, GrI.nums, GrI.inB]
  try omega
set_option maxRecDepth 100000 in
set_option maxHeartbeats 6400000 in
theorem rright_3 (d n m imm kind : Int) (w : World) :
    Calls Tryz.prog 57 #[.agg #[.int .i64 3, .int .i64 d, .int .i64 n, .int .i64 m, .int .i64 imm, .int .i64 kind]] w fun e w' => e = .returned (.bool (decide (GrI.right ⟨3, d, n, m, imm, kind⟩))) ∧ w.alloc (.cells #[.int .i64 3, .int .i64 d, .int .i64 n, .int .i64 m, .int .i64 imm, .int .i64 kind] 84) = w' := by
  have E := Lib.hid (right_eq_3 d n m imm kind)
  have ep : GrI.parts 3 = 11 := rfl
  have h1 : GrI.hasB 11 1 = true := rfl
  have h2 : GrI.hasB 11 2 = true := rfl
  have h4 : GrI.hasB 11 4 = false := rfl
  have h8 : GrI.hasB 11 8 = true := rfl
  have h16 : GrI.hasB 11 16 = false := rfl
  cases c0 : GrI.inB d 0 31 with
  | false =>
    go_enter Tryz.func57, Tryz.ntmps57
    go_wp2_with (first | (go_at_call 88; refine (parts_in 3 _ (by decide) (by decide)).mono ?_; rintro e w1 ⟨rfl, rfl⟩) | (go_at_call 89; refine (in_any _ _ _ _).mono ?_; rintro e w1 ⟨rfl, rfl⟩) | (go_at_call 90; refine (has_any _ _ _ (by decide) (by decide) (by decide)).mono ?_; rintro e w1 ⟨rfl, rfl⟩))
    go_ret
    exact ⟨ret_b (by rw [E.out]; simp [c0]), rfl⟩
  | true =>
    cases c1 : GrI.inB n 0 31 with
    | false =>
      go_enter Tryz.func57, Tryz.ntmps57
      go_wp2_with (first | (go_at_call 88; refine (parts_in 3 _ (by decide) (by decide)).mono ?_; rintro e w1 ⟨rfl, rfl⟩) | (go_at_call 89; refine (in_any _ _ _ _).mono ?_; rintro e w1 ⟨rfl, rfl⟩) | (go_at_call 90; refine (has_any _ _ _ (by decide) (by decide) (by decide)).mono ?_; rintro e w1 ⟨rfl, rfl⟩))
      go_ret
      exact ⟨ret_b (by rw [E.out]; simp [c0, c1]), rfl⟩
    | true =>
      cases c2 : GrI.inB m 0 31 with
      | false =>
        go_enter Tryz.func57, Tryz.ntmps57
        go_wp2_with (first | (go_at_call 88; refine (parts_in 3 _ (by decide) (by decide)).mono ?_; rintro e w1 ⟨rfl, rfl⟩) | (go_at_call 89; refine (in_any _ _ _ _).mono ?_; rintro e w1 ⟨rfl, rfl⟩) | (go_at_call 90; refine (has_any _ _ _ (by decide) (by decide) (by decide)).mono ?_; rintro e w1 ⟨rfl, rfl⟩))
        go_ret
        exact ⟨ret_b (by rw [E.out]; simp [c0, c1, c2]), rfl⟩
      | true =>
        by_cases z3 : m = 0
        · subst z3
          by_cases z4 : kind = 0
          · subst z4
            cases c90 : GrI.inB imm 0 32760 with
            | false =>
              go_enter Tryz.func57, Tryz.ntmps57
              go_wp2_with (first | (go_at_call 88; refine (parts_in 3 _ (by decide) (by decide)).mono ?_; rintro e w1 ⟨rfl, rfl⟩) | (go_at_call 89; refine (in_any _ _ _ _).mono ?_; rintro e w1 ⟨rfl, rfl⟩) | (go_at_call 90; refine (has_any _ _ _ (by decide) (by decide) (by decide)).mono ?_; rintro e w1 ⟨rfl, rfl⟩))
              go_ret
              exact ⟨ret_b (by rw [E.out]; simp [c0, c1, c2, c90]), rfl⟩
            | true =>
              have c91 := (GrI.inB_of c90).1
              go_enter Tryz.func57, Tryz.ntmps57
              go_wp2_with (first | (go_at_call 88; refine (parts_in 3 _ (by decide) (by decide)).mono ?_; rintro e w1 ⟨rfl, rfl⟩) | (go_at_call 89; refine (in_any _ _ _ _).mono ?_; rintro e w1 ⟨rfl, rfl⟩) | (go_at_call 90; refine (has_any _ _ _ (by decide) (by decide) (by decide)).mono ?_; rintro e w1 ⟨rfl, rfl⟩))
              go_ret
              exact ⟨ret_b (by rw [E.out]; simp [c0, c1, c2, c90]), rfl⟩
          · have c4 : (kind != 0) = true := by simpa using z4
            have c4b : (kind == 0) = false := by simpa using z4
            clear z4
            go_enter Tryz.func57, Tryz.ntmps57
            go_wp2_with (first | (go_at_call 88; refine (parts_in 3 _ (by decide) (by decide)).mono ?_; rintro e w1 ⟨rfl, rfl⟩) | (go_at_call 89; refine (in_any _ _ _ _).mono ?_; rintro e w1 ⟨rfl, rfl⟩) | (go_at_call 90; refine (has_any _ _ _ (by decide) (by decide) (by decide)).mono ?_; rintro e w1 ⟨rfl, rfl⟩))
            go_ret
            exact ⟨ret_b (by rw [E.out]; simp [c0, c1, c2, c4b]), rfl⟩
        · have c3 : (m != 0) = true := by simpa using z3
          have c3b : (m == 0) = false := by simpa using z3
          clear z3
          go_enter Tryz.func57, Tryz.ntmps57
          go_wp2_with (first | (go_at_call 88; refine (parts_in 3 _ (by decide) (by decide)).mono ?_; rintro e w1 ⟨rfl, rfl⟩) | (go_at_call 89; refine (in_any _ _ _ _).mono ?_; rintro e w1 ⟨rfl, rfl⟩) | (go_at_call 90; refine (has_any _ _ _ (by decide) (by decide) (by decide)).mono ?_; rintro e w1 ⟨rfl, rfl⟩))
          go_ret
          exact ⟨ret_b (by rw [E.out]; simp [c0, c1, c2, c3b]), rfl⟩
theorem right_eq_4 (d n m imm kind : Int) : decide (GrI.right ⟨4, d, n, m, imm, kind⟩) = (GrI.inB d 0 31 && (GrI.inB n 0 31 && (GrI.inB m 0 31 && ((m == 0) && ((imm == 0) && ((kind == 0))))))) := by
  rw [Bool.eq_iff_iff]
  simp [GrI.right, GrI.parts, GrI.nums, GrI.inB]
  try omega
set_option maxRecDepth 100000 in
set_option maxHeartbeats 6400000 in
theorem rright_4 (d n m imm kind : Int) (w : World) :
    Calls Tryz.prog 57 #[.agg #[.int .i64 4, .int .i64 d, .int .i64 n, .int .i64 m, .int .i64 imm, .int .i64 kind]] w fun e w' => e = .returned (.bool (decide (GrI.right ⟨4, d, n, m, imm, kind⟩))) ∧ w.alloc (.cells #[.int .i64 4, .int .i64 d, .int .i64 n, .int .i64 m, .int .i64 imm, .int .i64 kind] 84) = w' := by
  have E := Lib.hid (right_eq_4 d n m imm kind)
  have ep : GrI.parts 4 = 3 := rfl
  have h1 : GrI.hasB 3 1 = true := rfl
  have h2 : GrI.hasB 3 2 = true := rfl
  have h4 : GrI.hasB 3 4 = false := rfl
  have h8 : GrI.hasB 3 8 = false := rfl
  have h16 : GrI.hasB 3 16 = false := rfl
  cases c0 : GrI.inB d 0 31 with
  | false =>
    go_enter Tryz.func57, Tryz.ntmps57
    go_wp2_with (first | (go_at_call 88; refine (parts_in 4 _ (by decide) (by decide)).mono ?_; rintro e w1 ⟨rfl, rfl⟩) | (go_at_call 89; refine (in_any _ _ _ _).mono ?_; rintro e w1 ⟨rfl, rfl⟩) | (go_at_call 90; refine (has_any _ _ _ (by decide) (by decide) (by decide)).mono ?_; rintro e w1 ⟨rfl, rfl⟩))
    go_ret
    exact ⟨ret_b (by rw [E.out]; simp [c0]), rfl⟩
  | true =>
    cases c1 : GrI.inB n 0 31 with
    | false =>
      go_enter Tryz.func57, Tryz.ntmps57
      go_wp2_with (first | (go_at_call 88; refine (parts_in 4 _ (by decide) (by decide)).mono ?_; rintro e w1 ⟨rfl, rfl⟩) | (go_at_call 89; refine (in_any _ _ _ _).mono ?_; rintro e w1 ⟨rfl, rfl⟩) | (go_at_call 90; refine (has_any _ _ _ (by decide) (by decide) (by decide)).mono ?_; rintro e w1 ⟨rfl, rfl⟩))
      go_ret
      exact ⟨ret_b (by rw [E.out]; simp [c0, c1]), rfl⟩
    | true =>
      cases c2 : GrI.inB m 0 31 with
      | false =>
        go_enter Tryz.func57, Tryz.ntmps57
        go_wp2_with (first | (go_at_call 88; refine (parts_in 4 _ (by decide) (by decide)).mono ?_; rintro e w1 ⟨rfl, rfl⟩) | (go_at_call 89; refine (in_any _ _ _ _).mono ?_; rintro e w1 ⟨rfl, rfl⟩) | (go_at_call 90; refine (has_any _ _ _ (by decide) (by decide) (by decide)).mono ?_; rintro e w1 ⟨rfl, rfl⟩))
        go_ret
        exact ⟨ret_b (by rw [E.out]; simp [c0, c1, c2]), rfl⟩
      | true =>
        by_cases z3 : m = 0
        · subst z3
          by_cases z4 : imm = 0
          · subst z4
            by_cases z5 : kind = 0
            · subst z5
              go_enter Tryz.func57, Tryz.ntmps57
              go_wp2_with (first | (go_at_call 88; refine (parts_in 4 _ (by decide) (by decide)).mono ?_; rintro e w1 ⟨rfl, rfl⟩) | (go_at_call 89; refine (in_any _ _ _ _).mono ?_; rintro e w1 ⟨rfl, rfl⟩) | (go_at_call 90; refine (has_any _ _ _ (by decide) (by decide) (by decide)).mono ?_; rintro e w1 ⟨rfl, rfl⟩))
              go_ret
              exact ⟨ret_b (by rw [E.out]; simp [c0, c1, c2]), rfl⟩
            · have c5 : (kind != 0) = true := by simpa using z5
              have c5b : (kind == 0) = false := by simpa using z5
              clear z5
              go_enter Tryz.func57, Tryz.ntmps57
              go_wp2_with (first | (go_at_call 88; refine (parts_in 4 _ (by decide) (by decide)).mono ?_; rintro e w1 ⟨rfl, rfl⟩) | (go_at_call 89; refine (in_any _ _ _ _).mono ?_; rintro e w1 ⟨rfl, rfl⟩) | (go_at_call 90; refine (has_any _ _ _ (by decide) (by decide) (by decide)).mono ?_; rintro e w1 ⟨rfl, rfl⟩))
              go_ret
              exact ⟨ret_b (by rw [E.out]; simp [c0, c1, c2, c5b]), rfl⟩
          · have c4 : (imm != 0) = true := by simpa using z4
            have c4b : (imm == 0) = false := by simpa using z4
            clear z4
            go_enter Tryz.func57, Tryz.ntmps57
            go_wp2_with (first | (go_at_call 88; refine (parts_in 4 _ (by decide) (by decide)).mono ?_; rintro e w1 ⟨rfl, rfl⟩) | (go_at_call 89; refine (in_any _ _ _ _).mono ?_; rintro e w1 ⟨rfl, rfl⟩) | (go_at_call 90; refine (has_any _ _ _ (by decide) (by decide) (by decide)).mono ?_; rintro e w1 ⟨rfl, rfl⟩))
            go_ret
            exact ⟨ret_b (by rw [E.out]; simp [c0, c1, c2, c4b]), rfl⟩
        · have c3 : (m != 0) = true := by simpa using z3
          have c3b : (m == 0) = false := by simpa using z3
          clear z3
          go_enter Tryz.func57, Tryz.ntmps57
          go_wp2_with (first | (go_at_call 88; refine (parts_in 4 _ (by decide) (by decide)).mono ?_; rintro e w1 ⟨rfl, rfl⟩) | (go_at_call 89; refine (in_any _ _ _ _).mono ?_; rintro e w1 ⟨rfl, rfl⟩) | (go_at_call 90; refine (has_any _ _ _ (by decide) (by decide) (by decide)).mono ?_; rintro e w1 ⟨rfl, rfl⟩))
          go_ret
          exact ⟨ret_b (by rw [E.out]; simp [c0, c1, c2, c3b]), rfl⟩
theorem right_eq_5 (d n m imm kind : Int) : decide (GrI.right ⟨5, d, n, m, imm, kind⟩) = (GrI.inB d 0 31 && (GrI.inB n 0 31 && (GrI.inB m 0 31 && ((m == 0) && ((imm == 0) && ((kind == 0))))))) := by
  rw [Bool.eq_iff_iff]
  simp [GrI.right, GrI.parts, GrI.nums, GrI.inB]
  try omega
set_option maxRecDepth 100000 in
set_option maxHeartbeats 6400000 in
theorem rright_5 (d n m imm kind : Int) (w : World) :
    Calls Tryz.prog 57 #[.agg #[.int .i64 5, .int .i64 d, .int .i64 n, .int .i64 m, .int .i64 imm, .int .i64 kind]] w fun e w' => e = .returned (.bool (decide (GrI.right ⟨5, d, n, m, imm, kind⟩))) ∧ w.alloc (.cells #[.int .i64 5, .int .i64 d, .int .i64 n, .int .i64 m, .int .i64 imm, .int .i64 kind] 84) = w' := by
  have E := Lib.hid (right_eq_5 d n m imm kind)
  have ep : GrI.parts 5 = 3 := rfl
  have h1 : GrI.hasB 3 1 = true := rfl
  have h2 : GrI.hasB 3 2 = true := rfl
  have h4 : GrI.hasB 3 4 = false := rfl
  have h8 : GrI.hasB 3 8 = false := rfl
  have h16 : GrI.hasB 3 16 = false := rfl
  cases c0 : GrI.inB d 0 31 with
  | false =>
    go_enter Tryz.func57, Tryz.ntmps57
    go_wp2_with (first | (go_at_call 88; refine (parts_in 5 _ (by decide) (by decide)).mono ?_; rintro e w1 ⟨rfl, rfl⟩) | (go_at_call 89; refine (in_any _ _ _ _).mono ?_; rintro e w1 ⟨rfl, rfl⟩) | (go_at_call 90; refine (has_any _ _ _ (by decide) (by decide) (by decide)).mono ?_; rintro e w1 ⟨rfl, rfl⟩))
    go_ret
    exact ⟨ret_b (by rw [E.out]; simp [c0]), rfl⟩
  | true =>
    cases c1 : GrI.inB n 0 31 with
    | false =>
      go_enter Tryz.func57, Tryz.ntmps57
      go_wp2_with (first | (go_at_call 88; refine (parts_in 5 _ (by decide) (by decide)).mono ?_; rintro e w1 ⟨rfl, rfl⟩) | (go_at_call 89; refine (in_any _ _ _ _).mono ?_; rintro e w1 ⟨rfl, rfl⟩) | (go_at_call 90; refine (has_any _ _ _ (by decide) (by decide) (by decide)).mono ?_; rintro e w1 ⟨rfl, rfl⟩))
      go_ret
      exact ⟨ret_b (by rw [E.out]; simp [c0, c1]), rfl⟩
    | true =>
      cases c2 : GrI.inB m 0 31 with
      | false =>
        go_enter Tryz.func57, Tryz.ntmps57
        go_wp2_with (first | (go_at_call 88; refine (parts_in 5 _ (by decide) (by decide)).mono ?_; rintro e w1 ⟨rfl, rfl⟩) | (go_at_call 89; refine (in_any _ _ _ _).mono ?_; rintro e w1 ⟨rfl, rfl⟩) | (go_at_call 90; refine (has_any _ _ _ (by decide) (by decide) (by decide)).mono ?_; rintro e w1 ⟨rfl, rfl⟩))
        go_ret
        exact ⟨ret_b (by rw [E.out]; simp [c0, c1, c2]), rfl⟩
      | true =>
        by_cases z3 : m = 0
        · subst z3
          by_cases z4 : imm = 0
          · subst z4
            by_cases z5 : kind = 0
            · subst z5
              go_enter Tryz.func57, Tryz.ntmps57
              go_wp2_with (first | (go_at_call 88; refine (parts_in 5 _ (by decide) (by decide)).mono ?_; rintro e w1 ⟨rfl, rfl⟩) | (go_at_call 89; refine (in_any _ _ _ _).mono ?_; rintro e w1 ⟨rfl, rfl⟩) | (go_at_call 90; refine (has_any _ _ _ (by decide) (by decide) (by decide)).mono ?_; rintro e w1 ⟨rfl, rfl⟩))
              go_ret
              exact ⟨ret_b (by rw [E.out]; simp [c0, c1, c2]), rfl⟩
            · have c5 : (kind != 0) = true := by simpa using z5
              have c5b : (kind == 0) = false := by simpa using z5
              clear z5
              go_enter Tryz.func57, Tryz.ntmps57
              go_wp2_with (first | (go_at_call 88; refine (parts_in 5 _ (by decide) (by decide)).mono ?_; rintro e w1 ⟨rfl, rfl⟩) | (go_at_call 89; refine (in_any _ _ _ _).mono ?_; rintro e w1 ⟨rfl, rfl⟩) | (go_at_call 90; refine (has_any _ _ _ (by decide) (by decide) (by decide)).mono ?_; rintro e w1 ⟨rfl, rfl⟩))
              go_ret
              exact ⟨ret_b (by rw [E.out]; simp [c0, c1, c2, c5b]), rfl⟩
          · have c4 : (imm != 0) = true := by simpa using z4
            have c4b : (imm == 0) = false := by simpa using z4
            clear z4
            go_enter Tryz.func57, Tryz.ntmps57
            go_wp2_with (first | (go_at_call 88; refine (parts_in 5 _ (by decide) (by decide)).mono ?_; rintro e w1 ⟨rfl, rfl⟩) | (go_at_call 89; refine (in_any _ _ _ _).mono ?_; rintro e w1 ⟨rfl, rfl⟩) | (go_at_call 90; refine (has_any _ _ _ (by decide) (by decide) (by decide)).mono ?_; rintro e w1 ⟨rfl, rfl⟩))
            go_ret
            exact ⟨ret_b (by rw [E.out]; simp [c0, c1, c2, c4b]), rfl⟩
        · have c3 : (m != 0) = true := by simpa using z3
          have c3b : (m == 0) = false := by simpa using z3
          clear z3
          go_enter Tryz.func57, Tryz.ntmps57
          go_wp2_with (first | (go_at_call 88; refine (parts_in 5 _ (by decide) (by decide)).mono ?_; rintro e w1 ⟨rfl, rfl⟩) | (go_at_call 89; refine (in_any _ _ _ _).mono ?_; rintro e w1 ⟨rfl, rfl⟩) | (go_at_call 90; refine (has_any _ _ _ (by decide) (by decide) (by decide)).mono ?_; rintro e w1 ⟨rfl, rfl⟩))
          go_ret
          exact ⟨ret_b (by rw [E.out]; simp [c0, c1, c2, c3b]), rfl⟩
theorem right_eq_6 (d n m imm kind : Int) : decide (GrI.right ⟨6, d, n, m, imm, kind⟩) = (GrI.inB d 0 31 && (GrI.inB n 0 31 && (GrI.inB m 0 31 && ((n == 0) && ((m == 0) && ((GrI.inB imm 0 65535) && ((GrI.inB kind 0 3)))))))) := by
  rw [Bool.eq_iff_iff]
  simp [GrI.right, GrI.parts, GrI.nums, GrI.inB]
  try omega
set_option maxRecDepth 100000 in
set_option maxHeartbeats 6400000 in
theorem rright_6 (d n m imm kind : Int) (w : World) :
    Calls Tryz.prog 57 #[.agg #[.int .i64 6, .int .i64 d, .int .i64 n, .int .i64 m, .int .i64 imm, .int .i64 kind]] w fun e w' => e = .returned (.bool (decide (GrI.right ⟨6, d, n, m, imm, kind⟩))) ∧ w.alloc (.cells #[.int .i64 6, .int .i64 d, .int .i64 n, .int .i64 m, .int .i64 imm, .int .i64 kind] 84) = w' := by
  have E := Lib.hid (right_eq_6 d n m imm kind)
  have ep : GrI.parts 6 = 25 := rfl
  have h1 : GrI.hasB 25 1 = true := rfl
  have h2 : GrI.hasB 25 2 = false := rfl
  have h4 : GrI.hasB 25 4 = false := rfl
  have h8 : GrI.hasB 25 8 = true := rfl
  have h16 : GrI.hasB 25 16 = true := rfl
  cases c0 : GrI.inB d 0 31 with
  | false =>
    go_enter Tryz.func57, Tryz.ntmps57
    go_wp2_with (first | (go_at_call 88; refine (parts_in 6 _ (by decide) (by decide)).mono ?_; rintro e w1 ⟨rfl, rfl⟩) | (go_at_call 89; refine (in_any _ _ _ _).mono ?_; rintro e w1 ⟨rfl, rfl⟩) | (go_at_call 90; refine (has_any _ _ _ (by decide) (by decide) (by decide)).mono ?_; rintro e w1 ⟨rfl, rfl⟩))
    go_ret
    exact ⟨ret_b (by rw [E.out]; simp [c0]), rfl⟩
  | true =>
    cases c1 : GrI.inB n 0 31 with
    | false =>
      go_enter Tryz.func57, Tryz.ntmps57
      go_wp2_with (first | (go_at_call 88; refine (parts_in 6 _ (by decide) (by decide)).mono ?_; rintro e w1 ⟨rfl, rfl⟩) | (go_at_call 89; refine (in_any _ _ _ _).mono ?_; rintro e w1 ⟨rfl, rfl⟩) | (go_at_call 90; refine (has_any _ _ _ (by decide) (by decide) (by decide)).mono ?_; rintro e w1 ⟨rfl, rfl⟩))
      go_ret
      exact ⟨ret_b (by rw [E.out]; simp [c0, c1]), rfl⟩
    | true =>
      cases c2 : GrI.inB m 0 31 with
      | false =>
        go_enter Tryz.func57, Tryz.ntmps57
        go_wp2_with (first | (go_at_call 88; refine (parts_in 6 _ (by decide) (by decide)).mono ?_; rintro e w1 ⟨rfl, rfl⟩) | (go_at_call 89; refine (in_any _ _ _ _).mono ?_; rintro e w1 ⟨rfl, rfl⟩) | (go_at_call 90; refine (has_any _ _ _ (by decide) (by decide) (by decide)).mono ?_; rintro e w1 ⟨rfl, rfl⟩))
        go_ret
        exact ⟨ret_b (by rw [E.out]; simp [c0, c1, c2]), rfl⟩
      | true =>
        by_cases z3 : n = 0
        · subst z3
          by_cases z4 : m = 0
          · subst z4
            cases c90 : GrI.inB imm 0 65535 with
            | false =>
              go_enter Tryz.func57, Tryz.ntmps57
              go_wp2_with (first | (go_at_call 88; refine (parts_in 6 _ (by decide) (by decide)).mono ?_; rintro e w1 ⟨rfl, rfl⟩) | (go_at_call 89; refine (in_any _ _ _ _).mono ?_; rintro e w1 ⟨rfl, rfl⟩) | (go_at_call 90; refine (has_any _ _ _ (by decide) (by decide) (by decide)).mono ?_; rintro e w1 ⟨rfl, rfl⟩))
              go_ret
              exact ⟨ret_b (by rw [E.out]; simp [c0, c1, c2, c90]), rfl⟩
            | true =>
              go_enter Tryz.func57, Tryz.ntmps57
              go_wp2_with (first | (go_at_call 88; refine (parts_in 6 _ (by decide) (by decide)).mono ?_; rintro e w1 ⟨rfl, rfl⟩) | (go_at_call 89; refine (in_any _ _ _ _).mono ?_; rintro e w1 ⟨rfl, rfl⟩) | (go_at_call 90; refine (has_any _ _ _ (by decide) (by decide) (by decide)).mono ?_; rintro e w1 ⟨rfl, rfl⟩))
              go_ret
              exact ⟨ret_b (by rw [E.out]; simp [c0, c1, c2, c90]), rfl⟩
          · have c4 : (m != 0) = true := by simpa using z4
            have c4b : (m == 0) = false := by simpa using z4
            clear z4
            go_enter Tryz.func57, Tryz.ntmps57
            go_wp2_with (first | (go_at_call 88; refine (parts_in 6 _ (by decide) (by decide)).mono ?_; rintro e w1 ⟨rfl, rfl⟩) | (go_at_call 89; refine (in_any _ _ _ _).mono ?_; rintro e w1 ⟨rfl, rfl⟩) | (go_at_call 90; refine (has_any _ _ _ (by decide) (by decide) (by decide)).mono ?_; rintro e w1 ⟨rfl, rfl⟩))
            go_ret
            exact ⟨ret_b (by rw [E.out]; simp [c0, c1, c2, c4b]), rfl⟩
        · have c3 : (n != 0) = true := by simpa using z3
          have c3b : (n == 0) = false := by simpa using z3
          clear z3
          go_enter Tryz.func57, Tryz.ntmps57
          go_wp2_with (first | (go_at_call 88; refine (parts_in 6 _ (by decide) (by decide)).mono ?_; rintro e w1 ⟨rfl, rfl⟩) | (go_at_call 89; refine (in_any _ _ _ _).mono ?_; rintro e w1 ⟨rfl, rfl⟩) | (go_at_call 90; refine (has_any _ _ _ (by decide) (by decide) (by decide)).mono ?_; rintro e w1 ⟨rfl, rfl⟩))
          go_ret
          exact ⟨ret_b (by rw [E.out]; simp [c0, c1, c2, c3b]), rfl⟩
end Go.Proofs.YtlflknfkenfpiaaGreatDoor
namespace Go.Proofs.YtlflknfkenfpiaaGreatDoor
open Go.RowKit
theorem right_eq_7 (d n m imm kind : Int) : decide (GrI.right ⟨7, d, n, m, imm, kind⟩) = (GrI.inB d 0 31 && (GrI.inB n 0 31 && (GrI.inB m 0 31 && ((m == 0) && ((kind == 0) && ((GrI.inB imm 0 4095))))))) := by
  rw [Bool.eq_iff_iff]
  simp [GrI.right, GrI.parts, GrI.nums, GrI.inB]
  try omega
set_option maxRecDepth 100000 in
set_option maxHeartbeats 6400000 in
theorem rright_7 (d n m imm kind : Int) (w : World) :
    Calls Tryz.prog 57 #[.agg #[.int .i64 7, .int .i64 d, .int .i64 n, .int .i64 m, .int .i64 imm, .int .i64 kind]] w fun e w' => e = .returned (.bool (decide (GrI.right ⟨7, d, n, m, imm, kind⟩))) ∧ w.alloc (.cells #[.int .i64 7, .int .i64 d, .int .i64 n, .int .i64 m, .int .i64 imm, .int .i64 kind] 84) = w' := by
  have E := Lib.hid (right_eq_7 d n m imm kind)
  have ep : GrI.parts 7 = 11 := rfl
  have h1 : GrI.hasB 11 1 = true := rfl
  have h2 : GrI.hasB 11 2 = true := rfl
  have h4 : GrI.hasB 11 4 = false := rfl
  have h8 : GrI.hasB 11 8 = true := rfl
  have h16 : GrI.hasB 11 16 = false := rfl
  cases c0 : GrI.inB d 0 31 with
  | false =>
    go_enter Tryz.func57, Tryz.ntmps57
    go_wp2_with (first | (go_at_call 88; refine (parts_in 7 _ (by decide) (by decide)).mono ?_; rintro e w1 ⟨rfl, rfl⟩) | (go_at_call 89; refine (in_any _ _ _ _).mono ?_; rintro e w1 ⟨rfl, rfl⟩) | (go_at_call 90; refine (has_any _ _ _ (by decide) (by decide) (by decide)).mono ?_; rintro e w1 ⟨rfl, rfl⟩))
    go_ret
    exact ⟨ret_b (by rw [E.out]; simp [c0]), rfl⟩
  | true =>
    cases c1 : GrI.inB n 0 31 with
    | false =>
      go_enter Tryz.func57, Tryz.ntmps57
      go_wp2_with (first | (go_at_call 88; refine (parts_in 7 _ (by decide) (by decide)).mono ?_; rintro e w1 ⟨rfl, rfl⟩) | (go_at_call 89; refine (in_any _ _ _ _).mono ?_; rintro e w1 ⟨rfl, rfl⟩) | (go_at_call 90; refine (has_any _ _ _ (by decide) (by decide) (by decide)).mono ?_; rintro e w1 ⟨rfl, rfl⟩))
      go_ret
      exact ⟨ret_b (by rw [E.out]; simp [c0, c1]), rfl⟩
    | true =>
      cases c2 : GrI.inB m 0 31 with
      | false =>
        go_enter Tryz.func57, Tryz.ntmps57
        go_wp2_with (first | (go_at_call 88; refine (parts_in 7 _ (by decide) (by decide)).mono ?_; rintro e w1 ⟨rfl, rfl⟩) | (go_at_call 89; refine (in_any _ _ _ _).mono ?_; rintro e w1 ⟨rfl, rfl⟩) | (go_at_call 90; refine (has_any _ _ _ (by decide) (by decide) (by decide)).mono ?_; rintro e w1 ⟨rfl, rfl⟩))
        go_ret
        exact ⟨ret_b (by rw [E.out]; simp [c0, c1, c2]), rfl⟩
      | true =>
        by_cases z3 : m = 0
        · subst z3
          by_cases z4 : kind = 0
          · subst z4
            go_enter Tryz.func57, Tryz.ntmps57
            go_wp2_with (first | (go_at_call 88; refine (parts_in 7 _ (by decide) (by decide)).mono ?_; rintro e w1 ⟨rfl, rfl⟩) | (go_at_call 89; refine (in_any _ _ _ _).mono ?_; rintro e w1 ⟨rfl, rfl⟩) | (go_at_call 90; refine (has_any _ _ _ (by decide) (by decide) (by decide)).mono ?_; rintro e w1 ⟨rfl, rfl⟩))
            go_ret
            exact ⟨ret_b (by rw [E.out]; simp [c0, c1, c2]), rfl⟩
          · have c4 : (kind != 0) = true := by simpa using z4
            have c4b : (kind == 0) = false := by simpa using z4
            clear z4
            go_enter Tryz.func57, Tryz.ntmps57
            go_wp2_with (first | (go_at_call 88; refine (parts_in 7 _ (by decide) (by decide)).mono ?_; rintro e w1 ⟨rfl, rfl⟩) | (go_at_call 89; refine (in_any _ _ _ _).mono ?_; rintro e w1 ⟨rfl, rfl⟩) | (go_at_call 90; refine (has_any _ _ _ (by decide) (by decide) (by decide)).mono ?_; rintro e w1 ⟨rfl, rfl⟩))
            go_ret
            exact ⟨ret_b (by rw [E.out]; simp [c0, c1, c2, c4b]), rfl⟩
        · have c3 : (m != 0) = true := by simpa using z3
          have c3b : (m == 0) = false := by simpa using z3
          clear z3
          go_enter Tryz.func57, Tryz.ntmps57
          go_wp2_with (first | (go_at_call 88; refine (parts_in 7 _ (by decide) (by decide)).mono ?_; rintro e w1 ⟨rfl, rfl⟩) | (go_at_call 89; refine (in_any _ _ _ _).mono ?_; rintro e w1 ⟨rfl, rfl⟩) | (go_at_call 90; refine (has_any _ _ _ (by decide) (by decide) (by decide)).mono ?_; rintro e w1 ⟨rfl, rfl⟩))
          go_ret
          exact ⟨ret_b (by rw [E.out]; simp [c0, c1, c2, c3b]), rfl⟩
theorem right_eq_8 (d n m imm kind : Int) : decide (GrI.right ⟨8, d, n, m, imm, kind⟩) = (GrI.inB d 0 31 && (GrI.inB n 0 31 && (GrI.inB m 0 31 && ((imm == 0) && ((kind == 0)))))) := by
  rw [Bool.eq_iff_iff]
  simp [GrI.right, GrI.parts, GrI.nums, GrI.inB]
  try omega
set_option maxRecDepth 100000 in
set_option maxHeartbeats 6400000 in
theorem rright_8 (d n m imm kind : Int) (w : World) :
    Calls Tryz.prog 57 #[.agg #[.int .i64 8, .int .i64 d, .int .i64 n, .int .i64 m, .int .i64 imm, .int .i64 kind]] w fun e w' => e = .returned (.bool (decide (GrI.right ⟨8, d, n, m, imm, kind⟩))) ∧ w.alloc (.cells #[.int .i64 8, .int .i64 d, .int .i64 n, .int .i64 m, .int .i64 imm, .int .i64 kind] 84) = w' := by
  have E := Lib.hid (right_eq_8 d n m imm kind)
  have ep : GrI.parts 8 = 7 := rfl
  have h1 : GrI.hasB 7 1 = true := rfl
  have h2 : GrI.hasB 7 2 = true := rfl
  have h4 : GrI.hasB 7 4 = true := rfl
  have h8 : GrI.hasB 7 8 = false := rfl
  have h16 : GrI.hasB 7 16 = false := rfl
  cases c0 : GrI.inB d 0 31 with
  | false =>
    go_enter Tryz.func57, Tryz.ntmps57
    go_wp2_with (first | (go_at_call 88; refine (parts_in 8 _ (by decide) (by decide)).mono ?_; rintro e w1 ⟨rfl, rfl⟩) | (go_at_call 89; refine (in_any _ _ _ _).mono ?_; rintro e w1 ⟨rfl, rfl⟩) | (go_at_call 90; refine (has_any _ _ _ (by decide) (by decide) (by decide)).mono ?_; rintro e w1 ⟨rfl, rfl⟩))
    go_ret
    exact ⟨ret_b (by rw [E.out]; simp [c0]), rfl⟩
  | true =>
    cases c1 : GrI.inB n 0 31 with
    | false =>
      go_enter Tryz.func57, Tryz.ntmps57
      go_wp2_with (first | (go_at_call 88; refine (parts_in 8 _ (by decide) (by decide)).mono ?_; rintro e w1 ⟨rfl, rfl⟩) | (go_at_call 89; refine (in_any _ _ _ _).mono ?_; rintro e w1 ⟨rfl, rfl⟩) | (go_at_call 90; refine (has_any _ _ _ (by decide) (by decide) (by decide)).mono ?_; rintro e w1 ⟨rfl, rfl⟩))
      go_ret
      exact ⟨ret_b (by rw [E.out]; simp [c0, c1]), rfl⟩
    | true =>
      cases c2 : GrI.inB m 0 31 with
      | false =>
        go_enter Tryz.func57, Tryz.ntmps57
        go_wp2_with (first | (go_at_call 88; refine (parts_in 8 _ (by decide) (by decide)).mono ?_; rintro e w1 ⟨rfl, rfl⟩) | (go_at_call 89; refine (in_any _ _ _ _).mono ?_; rintro e w1 ⟨rfl, rfl⟩) | (go_at_call 90; refine (has_any _ _ _ (by decide) (by decide) (by decide)).mono ?_; rintro e w1 ⟨rfl, rfl⟩))
        go_ret
        exact ⟨ret_b (by rw [E.out]; simp [c0, c1, c2]), rfl⟩
      | true =>
        by_cases z3 : imm = 0
        · subst z3
          by_cases z4 : kind = 0
          · subst z4
            go_enter Tryz.func57, Tryz.ntmps57
            go_wp2_with (first | (go_at_call 88; refine (parts_in 8 _ (by decide) (by decide)).mono ?_; rintro e w1 ⟨rfl, rfl⟩) | (go_at_call 89; refine (in_any _ _ _ _).mono ?_; rintro e w1 ⟨rfl, rfl⟩) | (go_at_call 90; refine (has_any _ _ _ (by decide) (by decide) (by decide)).mono ?_; rintro e w1 ⟨rfl, rfl⟩))
            go_ret
            exact ⟨ret_b (by rw [E.out]; simp [c0, c1, c2]), rfl⟩
          · have c4 : (kind != 0) = true := by simpa using z4
            have c4b : (kind == 0) = false := by simpa using z4
            clear z4
            go_enter Tryz.func57, Tryz.ntmps57
            go_wp2_with (first | (go_at_call 88; refine (parts_in 8 _ (by decide) (by decide)).mono ?_; rintro e w1 ⟨rfl, rfl⟩) | (go_at_call 89; refine (in_any _ _ _ _).mono ?_; rintro e w1 ⟨rfl, rfl⟩) | (go_at_call 90; refine (has_any _ _ _ (by decide) (by decide) (by decide)).mono ?_; rintro e w1 ⟨rfl, rfl⟩))
            go_ret
            exact ⟨ret_b (by rw [E.out]; simp [c0, c1, c2, c4b]), rfl⟩
        · have c3 : (imm != 0) = true := by simpa using z3
          have c3b : (imm == 0) = false := by simpa using z3
          clear z3
          go_enter Tryz.func57, Tryz.ntmps57
          go_wp2_with (first | (go_at_call 88; refine (parts_in 8 _ (by decide) (by decide)).mono ?_; rintro e w1 ⟨rfl, rfl⟩) | (go_at_call 89; refine (in_any _ _ _ _).mono ?_; rintro e w1 ⟨rfl, rfl⟩) | (go_at_call 90; refine (has_any _ _ _ (by decide) (by decide) (by decide)).mono ?_; rintro e w1 ⟨rfl, rfl⟩))
          go_ret
          exact ⟨ret_b (by rw [E.out]; simp [c0, c1, c2, c3b]), rfl⟩
theorem right_eq_9 (d n m imm kind : Int) : decide (GrI.right ⟨9, d, n, m, imm, kind⟩) = (GrI.inB d 0 31 && (GrI.inB n 0 31 && (GrI.inB m 0 31 && ((imm == 0) && ((kind == 0)))))) := by
  rw [Bool.eq_iff_iff]
  simp [GrI.right, GrI.parts, GrI.nums, GrI.inB]
  try omega
set_option maxRecDepth 100000 in
set_option maxHeartbeats 6400000 in
theorem rright_9 (d n m imm kind : Int) (w : World) :
    Calls Tryz.prog 57 #[.agg #[.int .i64 9, .int .i64 d, .int .i64 n, .int .i64 m, .int .i64 imm, .int .i64 kind]] w fun e w' => e = .returned (.bool (decide (GrI.right ⟨9, d, n, m, imm, kind⟩))) ∧ w.alloc (.cells #[.int .i64 9, .int .i64 d, .int .i64 n, .int .i64 m, .int .i64 imm, .int .i64 kind] 84) = w' := by
  have E := Lib.hid (right_eq_9 d n m imm kind)
  have ep : GrI.parts 9 = 7 := rfl
  have h1 : GrI.hasB 7 1 = true := rfl
  have h2 : GrI.hasB 7 2 = true := rfl
  have h4 : GrI.hasB 7 4 = true := rfl
  have h8 : GrI.hasB 7 8 = false := rfl
  have h16 : GrI.hasB 7 16 = false := rfl
  cases c0 : GrI.inB d 0 31 with
  | false =>
    go_enter Tryz.func57, Tryz.ntmps57
    go_wp2_with (first | (go_at_call 88; refine (parts_in 9 _ (by decide) (by decide)).mono ?_; rintro e w1 ⟨rfl, rfl⟩) | (go_at_call 89; refine (in_any _ _ _ _).mono ?_; rintro e w1 ⟨rfl, rfl⟩) | (go_at_call 90; refine (has_any _ _ _ (by decide) (by decide) (by decide)).mono ?_; rintro e w1 ⟨rfl, rfl⟩))
    go_ret
    exact ⟨ret_b (by rw [E.out]; simp [c0]), rfl⟩
  | true =>
    cases c1 : GrI.inB n 0 31 with
    | false =>
      go_enter Tryz.func57, Tryz.ntmps57
      go_wp2_with (first | (go_at_call 88; refine (parts_in 9 _ (by decide) (by decide)).mono ?_; rintro e w1 ⟨rfl, rfl⟩) | (go_at_call 89; refine (in_any _ _ _ _).mono ?_; rintro e w1 ⟨rfl, rfl⟩) | (go_at_call 90; refine (has_any _ _ _ (by decide) (by decide) (by decide)).mono ?_; rintro e w1 ⟨rfl, rfl⟩))
      go_ret
      exact ⟨ret_b (by rw [E.out]; simp [c0, c1]), rfl⟩
    | true =>
      cases c2 : GrI.inB m 0 31 with
      | false =>
        go_enter Tryz.func57, Tryz.ntmps57
        go_wp2_with (first | (go_at_call 88; refine (parts_in 9 _ (by decide) (by decide)).mono ?_; rintro e w1 ⟨rfl, rfl⟩) | (go_at_call 89; refine (in_any _ _ _ _).mono ?_; rintro e w1 ⟨rfl, rfl⟩) | (go_at_call 90; refine (has_any _ _ _ (by decide) (by decide) (by decide)).mono ?_; rintro e w1 ⟨rfl, rfl⟩))
        go_ret
        exact ⟨ret_b (by rw [E.out]; simp [c0, c1, c2]), rfl⟩
      | true =>
        by_cases z3 : imm = 0
        · subst z3
          by_cases z4 : kind = 0
          · subst z4
            go_enter Tryz.func57, Tryz.ntmps57
            go_wp2_with (first | (go_at_call 88; refine (parts_in 9 _ (by decide) (by decide)).mono ?_; rintro e w1 ⟨rfl, rfl⟩) | (go_at_call 89; refine (in_any _ _ _ _).mono ?_; rintro e w1 ⟨rfl, rfl⟩) | (go_at_call 90; refine (has_any _ _ _ (by decide) (by decide) (by decide)).mono ?_; rintro e w1 ⟨rfl, rfl⟩))
            go_ret
            exact ⟨ret_b (by rw [E.out]; simp [c0, c1, c2]), rfl⟩
          · have c4 : (kind != 0) = true := by simpa using z4
            have c4b : (kind == 0) = false := by simpa using z4
            clear z4
            go_enter Tryz.func57, Tryz.ntmps57
            go_wp2_with (first | (go_at_call 88; refine (parts_in 9 _ (by decide) (by decide)).mono ?_; rintro e w1 ⟨rfl, rfl⟩) | (go_at_call 89; refine (in_any _ _ _ _).mono ?_; rintro e w1 ⟨rfl, rfl⟩) | (go_at_call 90; refine (has_any _ _ _ (by decide) (by decide) (by decide)).mono ?_; rintro e w1 ⟨rfl, rfl⟩))
            go_ret
            exact ⟨ret_b (by rw [E.out]; simp [c0, c1, c2, c4b]), rfl⟩
        · have c3 : (imm != 0) = true := by simpa using z3
          have c3b : (imm == 0) = false := by simpa using z3
          clear z3
          go_enter Tryz.func57, Tryz.ntmps57
          go_wp2_with (first | (go_at_call 88; refine (parts_in 9 _ (by decide) (by decide)).mono ?_; rintro e w1 ⟨rfl, rfl⟩) | (go_at_call 89; refine (in_any _ _ _ _).mono ?_; rintro e w1 ⟨rfl, rfl⟩) | (go_at_call 90; refine (has_any _ _ _ (by decide) (by decide) (by decide)).mono ?_; rintro e w1 ⟨rfl, rfl⟩))
          go_ret
          exact ⟨ret_b (by rw [E.out]; simp [c0, c1, c2, c3b]), rfl⟩
theorem right_eq_10 (d n m imm kind : Int) : decide (GrI.right ⟨10, d, n, m, imm, kind⟩) = (GrI.inB d 0 31 && (GrI.inB n 0 31 && (GrI.inB m 0 31 && ((imm == 0) && ((kind == 0)))))) := by
  rw [Bool.eq_iff_iff]
  simp [GrI.right, GrI.parts, GrI.nums, GrI.inB]
  try omega
set_option maxRecDepth 100000 in
set_option maxHeartbeats 6400000 in
theorem rright_10 (d n m imm kind : Int) (w : World) :
    Calls Tryz.prog 57 #[.agg #[.int .i64 10, .int .i64 d, .int .i64 n, .int .i64 m, .int .i64 imm, .int .i64 kind]] w fun e w' => e = .returned (.bool (decide (GrI.right ⟨10, d, n, m, imm, kind⟩))) ∧ w.alloc (.cells #[.int .i64 10, .int .i64 d, .int .i64 n, .int .i64 m, .int .i64 imm, .int .i64 kind] 84) = w' := by
  have E := Lib.hid (right_eq_10 d n m imm kind)
  have ep : GrI.parts 10 = 7 := rfl
  have h1 : GrI.hasB 7 1 = true := rfl
  have h2 : GrI.hasB 7 2 = true := rfl
  have h4 : GrI.hasB 7 4 = true := rfl
  have h8 : GrI.hasB 7 8 = false := rfl
  have h16 : GrI.hasB 7 16 = false := rfl
  cases c0 : GrI.inB d 0 31 with
  | false =>
    go_enter Tryz.func57, Tryz.ntmps57
    go_wp2_with (first | (go_at_call 88; refine (parts_in 10 _ (by decide) (by decide)).mono ?_; rintro e w1 ⟨rfl, rfl⟩) | (go_at_call 89; refine (in_any _ _ _ _).mono ?_; rintro e w1 ⟨rfl, rfl⟩) | (go_at_call 90; refine (has_any _ _ _ (by decide) (by decide) (by decide)).mono ?_; rintro e w1 ⟨rfl, rfl⟩))
    go_ret
    exact ⟨ret_b (by rw [E.out]; simp [c0]), rfl⟩
  | true =>
    cases c1 : GrI.inB n 0 31 with
    | false =>
      go_enter Tryz.func57, Tryz.ntmps57
      go_wp2_with (first | (go_at_call 88; refine (parts_in 10 _ (by decide) (by decide)).mono ?_; rintro e w1 ⟨rfl, rfl⟩) | (go_at_call 89; refine (in_any _ _ _ _).mono ?_; rintro e w1 ⟨rfl, rfl⟩) | (go_at_call 90; refine (has_any _ _ _ (by decide) (by decide) (by decide)).mono ?_; rintro e w1 ⟨rfl, rfl⟩))
      go_ret
      exact ⟨ret_b (by rw [E.out]; simp [c0, c1]), rfl⟩
    | true =>
      cases c2 : GrI.inB m 0 31 with
      | false =>
        go_enter Tryz.func57, Tryz.ntmps57
        go_wp2_with (first | (go_at_call 88; refine (parts_in 10 _ (by decide) (by decide)).mono ?_; rintro e w1 ⟨rfl, rfl⟩) | (go_at_call 89; refine (in_any _ _ _ _).mono ?_; rintro e w1 ⟨rfl, rfl⟩) | (go_at_call 90; refine (has_any _ _ _ (by decide) (by decide) (by decide)).mono ?_; rintro e w1 ⟨rfl, rfl⟩))
        go_ret
        exact ⟨ret_b (by rw [E.out]; simp [c0, c1, c2]), rfl⟩
      | true =>
        by_cases z3 : imm = 0
        · subst z3
          by_cases z4 : kind = 0
          · subst z4
            go_enter Tryz.func57, Tryz.ntmps57
            go_wp2_with (first | (go_at_call 88; refine (parts_in 10 _ (by decide) (by decide)).mono ?_; rintro e w1 ⟨rfl, rfl⟩) | (go_at_call 89; refine (in_any _ _ _ _).mono ?_; rintro e w1 ⟨rfl, rfl⟩) | (go_at_call 90; refine (has_any _ _ _ (by decide) (by decide) (by decide)).mono ?_; rintro e w1 ⟨rfl, rfl⟩))
            go_ret
            exact ⟨ret_b (by rw [E.out]; simp [c0, c1, c2]), rfl⟩
          · have c4 : (kind != 0) = true := by simpa using z4
            have c4b : (kind == 0) = false := by simpa using z4
            clear z4
            go_enter Tryz.func57, Tryz.ntmps57
            go_wp2_with (first | (go_at_call 88; refine (parts_in 10 _ (by decide) (by decide)).mono ?_; rintro e w1 ⟨rfl, rfl⟩) | (go_at_call 89; refine (in_any _ _ _ _).mono ?_; rintro e w1 ⟨rfl, rfl⟩) | (go_at_call 90; refine (has_any _ _ _ (by decide) (by decide) (by decide)).mono ?_; rintro e w1 ⟨rfl, rfl⟩))
            go_ret
            exact ⟨ret_b (by rw [E.out]; simp [c0, c1, c2, c4b]), rfl⟩
        · have c3 : (imm != 0) = true := by simpa using z3
          have c3b : (imm == 0) = false := by simpa using z3
          clear z3
          go_enter Tryz.func57, Tryz.ntmps57
          go_wp2_with (first | (go_at_call 88; refine (parts_in 10 _ (by decide) (by decide)).mono ?_; rintro e w1 ⟨rfl, rfl⟩) | (go_at_call 89; refine (in_any _ _ _ _).mono ?_; rintro e w1 ⟨rfl, rfl⟩) | (go_at_call 90; refine (has_any _ _ _ (by decide) (by decide) (by decide)).mono ?_; rintro e w1 ⟨rfl, rfl⟩))
          go_ret
          exact ⟨ret_b (by rw [E.out]; simp [c0, c1, c2, c3b]), rfl⟩
theorem right_eq_11 (d n m imm kind : Int) : decide (GrI.right ⟨11, d, n, m, imm, kind⟩) = (GrI.inB d 0 31 && (GrI.inB n 0 31 && (GrI.inB m 0 31 && ((imm == 0) && ((kind == 0)))))) := by
  rw [Bool.eq_iff_iff]
  simp [GrI.right, GrI.parts, GrI.nums, GrI.inB]
  try omega
set_option maxRecDepth 100000 in
set_option maxHeartbeats 6400000 in
theorem rright_11 (d n m imm kind : Int) (w : World) :
    Calls Tryz.prog 57 #[.agg #[.int .i64 11, .int .i64 d, .int .i64 n, .int .i64 m, .int .i64 imm, .int .i64 kind]] w fun e w' => e = .returned (.bool (decide (GrI.right ⟨11, d, n, m, imm, kind⟩))) ∧ w.alloc (.cells #[.int .i64 11, .int .i64 d, .int .i64 n, .int .i64 m, .int .i64 imm, .int .i64 kind] 84) = w' := by
  have E := Lib.hid (right_eq_11 d n m imm kind)
  have ep : GrI.parts 11 = 7 := rfl
  have h1 : GrI.hasB 7 1 = true := rfl
  have h2 : GrI.hasB 7 2 = true := rfl
  have h4 : GrI.hasB 7 4 = true := rfl
  have h8 : GrI.hasB 7 8 = false := rfl
  have h16 : GrI.hasB 7 16 = false := rfl
  cases c0 : GrI.inB d 0 31 with
  | false =>
    go_enter Tryz.func57, Tryz.ntmps57
    go_wp2_with (first | (go_at_call 88; refine (parts_in 11 _ (by decide) (by decide)).mono ?_; rintro e w1 ⟨rfl, rfl⟩) | (go_at_call 89; refine (in_any _ _ _ _).mono ?_; rintro e w1 ⟨rfl, rfl⟩) | (go_at_call 90; refine (has_any _ _ _ (by decide) (by decide) (by decide)).mono ?_; rintro e w1 ⟨rfl, rfl⟩))
    go_ret
    exact ⟨ret_b (by rw [E.out]; simp [c0]), rfl⟩
  | true =>
    cases c1 : GrI.inB n 0 31 with
    | false =>
      go_enter Tryz.func57, Tryz.ntmps57
      go_wp2_with (first | (go_at_call 88; refine (parts_in 11 _ (by decide) (by decide)).mono ?_; rintro e w1 ⟨rfl, rfl⟩) | (go_at_call 89; refine (in_any _ _ _ _).mono ?_; rintro e w1 ⟨rfl, rfl⟩) | (go_at_call 90; refine (has_any _ _ _ (by decide) (by decide) (by decide)).mono ?_; rintro e w1 ⟨rfl, rfl⟩))
      go_ret
      exact ⟨ret_b (by rw [E.out]; simp [c0, c1]), rfl⟩
    | true =>
      cases c2 : GrI.inB m 0 31 with
      | false =>
        go_enter Tryz.func57, Tryz.ntmps57
        go_wp2_with (first | (go_at_call 88; refine (parts_in 11 _ (by decide) (by decide)).mono ?_; rintro e w1 ⟨rfl, rfl⟩) | (go_at_call 89; refine (in_any _ _ _ _).mono ?_; rintro e w1 ⟨rfl, rfl⟩) | (go_at_call 90; refine (has_any _ _ _ (by decide) (by decide) (by decide)).mono ?_; rintro e w1 ⟨rfl, rfl⟩))
        go_ret
        exact ⟨ret_b (by rw [E.out]; simp [c0, c1, c2]), rfl⟩
      | true =>
        by_cases z3 : imm = 0
        · subst z3
          by_cases z4 : kind = 0
          · subst z4
            go_enter Tryz.func57, Tryz.ntmps57
            go_wp2_with (first | (go_at_call 88; refine (parts_in 11 _ (by decide) (by decide)).mono ?_; rintro e w1 ⟨rfl, rfl⟩) | (go_at_call 89; refine (in_any _ _ _ _).mono ?_; rintro e w1 ⟨rfl, rfl⟩) | (go_at_call 90; refine (has_any _ _ _ (by decide) (by decide) (by decide)).mono ?_; rintro e w1 ⟨rfl, rfl⟩))
            go_ret
            exact ⟨ret_b (by rw [E.out]; simp [c0, c1, c2]), rfl⟩
          · have c4 : (kind != 0) = true := by simpa using z4
            have c4b : (kind == 0) = false := by simpa using z4
            clear z4
            go_enter Tryz.func57, Tryz.ntmps57
            go_wp2_with (first | (go_at_call 88; refine (parts_in 11 _ (by decide) (by decide)).mono ?_; rintro e w1 ⟨rfl, rfl⟩) | (go_at_call 89; refine (in_any _ _ _ _).mono ?_; rintro e w1 ⟨rfl, rfl⟩) | (go_at_call 90; refine (has_any _ _ _ (by decide) (by decide) (by decide)).mono ?_; rintro e w1 ⟨rfl, rfl⟩))
            go_ret
            exact ⟨ret_b (by rw [E.out]; simp [c0, c1, c2, c4b]), rfl⟩
        · have c3 : (imm != 0) = true := by simpa using z3
          have c3b : (imm == 0) = false := by simpa using z3
          clear z3
          go_enter Tryz.func57, Tryz.ntmps57
          go_wp2_with (first | (go_at_call 88; refine (parts_in 11 _ (by decide) (by decide)).mono ?_; rintro e w1 ⟨rfl, rfl⟩) | (go_at_call 89; refine (in_any _ _ _ _).mono ?_; rintro e w1 ⟨rfl, rfl⟩) | (go_at_call 90; refine (has_any _ _ _ (by decide) (by decide) (by decide)).mono ?_; rintro e w1 ⟨rfl, rfl⟩))
          go_ret
          exact ⟨ret_b (by rw [E.out]; simp [c0, c1, c2, c3b]), rfl⟩
theorem right_eq_12 (d n m imm kind : Int) : decide (GrI.right ⟨12, d, n, m, imm, kind⟩) = (GrI.inB d 0 31 && (GrI.inB n 0 31 && (GrI.inB m 0 31 && ((imm == 0) && ((kind == 0)))))) := by
  rw [Bool.eq_iff_iff]
  simp [GrI.right, GrI.parts, GrI.nums, GrI.inB]
  try omega
set_option maxRecDepth 100000 in
set_option maxHeartbeats 6400000 in
theorem rright_12 (d n m imm kind : Int) (w : World) :
    Calls Tryz.prog 57 #[.agg #[.int .i64 12, .int .i64 d, .int .i64 n, .int .i64 m, .int .i64 imm, .int .i64 kind]] w fun e w' => e = .returned (.bool (decide (GrI.right ⟨12, d, n, m, imm, kind⟩))) ∧ w.alloc (.cells #[.int .i64 12, .int .i64 d, .int .i64 n, .int .i64 m, .int .i64 imm, .int .i64 kind] 84) = w' := by
  have E := Lib.hid (right_eq_12 d n m imm kind)
  have ep : GrI.parts 12 = 7 := rfl
  have h1 : GrI.hasB 7 1 = true := rfl
  have h2 : GrI.hasB 7 2 = true := rfl
  have h4 : GrI.hasB 7 4 = true := rfl
  have h8 : GrI.hasB 7 8 = false := rfl
  have h16 : GrI.hasB 7 16 = false := rfl
  cases c0 : GrI.inB d 0 31 with
  | false =>
    go_enter Tryz.func57, Tryz.ntmps57
    go_wp2_with (first | (go_at_call 88; refine (parts_in 12 _ (by decide) (by decide)).mono ?_; rintro e w1 ⟨rfl, rfl⟩) | (go_at_call 89; refine (in_any _ _ _ _).mono ?_; rintro e w1 ⟨rfl, rfl⟩) | (go_at_call 90; refine (has_any _ _ _ (by decide) (by decide) (by decide)).mono ?_; rintro e w1 ⟨rfl, rfl⟩))
    go_ret
    exact ⟨ret_b (by rw [E.out]; simp [c0]), rfl⟩
  | true =>
    cases c1 : GrI.inB n 0 31 with
    | false =>
      go_enter Tryz.func57, Tryz.ntmps57
      go_wp2_with (first | (go_at_call 88; refine (parts_in 12 _ (by decide) (by decide)).mono ?_; rintro e w1 ⟨rfl, rfl⟩) | (go_at_call 89; refine (in_any _ _ _ _).mono ?_; rintro e w1 ⟨rfl, rfl⟩) | (go_at_call 90; refine (has_any _ _ _ (by decide) (by decide) (by decide)).mono ?_; rintro e w1 ⟨rfl, rfl⟩))
      go_ret
      exact ⟨ret_b (by rw [E.out]; simp [c0, c1]), rfl⟩
    | true =>
      cases c2 : GrI.inB m 0 31 with
      | false =>
        go_enter Tryz.func57, Tryz.ntmps57
        go_wp2_with (first | (go_at_call 88; refine (parts_in 12 _ (by decide) (by decide)).mono ?_; rintro e w1 ⟨rfl, rfl⟩) | (go_at_call 89; refine (in_any _ _ _ _).mono ?_; rintro e w1 ⟨rfl, rfl⟩) | (go_at_call 90; refine (has_any _ _ _ (by decide) (by decide) (by decide)).mono ?_; rintro e w1 ⟨rfl, rfl⟩))
        go_ret
        exact ⟨ret_b (by rw [E.out]; simp [c0, c1, c2]), rfl⟩
      | true =>
        by_cases z3 : imm = 0
        · subst z3
          by_cases z4 : kind = 0
          · subst z4
            go_enter Tryz.func57, Tryz.ntmps57
            go_wp2_with (first | (go_at_call 88; refine (parts_in 12 _ (by decide) (by decide)).mono ?_; rintro e w1 ⟨rfl, rfl⟩) | (go_at_call 89; refine (in_any _ _ _ _).mono ?_; rintro e w1 ⟨rfl, rfl⟩) | (go_at_call 90; refine (has_any _ _ _ (by decide) (by decide) (by decide)).mono ?_; rintro e w1 ⟨rfl, rfl⟩))
            go_ret
            exact ⟨ret_b (by rw [E.out]; simp [c0, c1, c2]), rfl⟩
          · have c4 : (kind != 0) = true := by simpa using z4
            have c4b : (kind == 0) = false := by simpa using z4
            clear z4
            go_enter Tryz.func57, Tryz.ntmps57
            go_wp2_with (first | (go_at_call 88; refine (parts_in 12 _ (by decide) (by decide)).mono ?_; rintro e w1 ⟨rfl, rfl⟩) | (go_at_call 89; refine (in_any _ _ _ _).mono ?_; rintro e w1 ⟨rfl, rfl⟩) | (go_at_call 90; refine (has_any _ _ _ (by decide) (by decide) (by decide)).mono ?_; rintro e w1 ⟨rfl, rfl⟩))
            go_ret
            exact ⟨ret_b (by rw [E.out]; simp [c0, c1, c2, c4b]), rfl⟩
        · have c3 : (imm != 0) = true := by simpa using z3
          have c3b : (imm == 0) = false := by simpa using z3
          clear z3
          go_enter Tryz.func57, Tryz.ntmps57
          go_wp2_with (first | (go_at_call 88; refine (parts_in 12 _ (by decide) (by decide)).mono ?_; rintro e w1 ⟨rfl, rfl⟩) | (go_at_call 89; refine (in_any _ _ _ _).mono ?_; rintro e w1 ⟨rfl, rfl⟩) | (go_at_call 90; refine (has_any _ _ _ (by decide) (by decide) (by decide)).mono ?_; rintro e w1 ⟨rfl, rfl⟩))
          go_ret
          exact ⟨ret_b (by rw [E.out]; simp [c0, c1, c2, c3b]), rfl⟩
end Go.Proofs.YtlflknfkenfpiaaGreatDoor
