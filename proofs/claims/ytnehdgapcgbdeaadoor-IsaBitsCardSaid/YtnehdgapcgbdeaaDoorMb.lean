/-
  Layer 3, the walks: the page's own Guess: sign, Guess.
-/
import Derived.Test.YtnehdgapcgbdeaaDoorRz
import Derived.Test.YtnehdgapcgbdeaaDoorJc
import Derived.Test.YtnehdgapcgbdeaaDoorFw
set_option linter.unusedSimpArgs false
set_option linter.unusedVariables false
namespace Go.Proofs.YtnehdgapcgbdeaaDoor
open Go.RowKit

set_option maxHeartbeats 800000 in
theorem sign_any (n size : Int) (w : World) (h0 : 0 ≤ n) (h1 : n < size) (h2 : size ≤ 67108864) :
    Calls Tryd.prog 34 #[.int .i64 n, .int .i64 size] w fun e w' => e = .returned (.int .i64 (GrI.sign n size)) ∧ w = w' := by
  have E := Lib.hid (show GrI.sign n size = if size / 2 ≤ n then n - size else n from rfl)
  by_cases c : size / 2 ≤ n
  · go_enter Tryd.func34, Tryd.ntmps34
    go_wp2
    go_ret
    exact ⟨ret_code (by rw [E.out, if_pos c]), rfl⟩
  · have c1 : decide (size / 2 ≤ n) = false := by simpa using c
    go_enter Tryd.func34, Tryd.ntmps34
    go_wp2
    go_ret
    exact ⟨ret_code (by rw [E.out, if_neg (by omega)]), rfl⟩
theorem ret_v {a b : Value} (h : a = b) : Ending.returned a = .returned b := by rw [h]

set_option maxRecDepth 100000 in
set_option maxHeartbeats 6400000 in
theorem pguess_1 (x : Int) (w : World) (x0 : 0 ≤ x) (x1 : x < 4294967296) :
    Calls Tryd.prog 28 #[.int .i64 1, .int .i64 x] w fun e w' => e = .returned (iv (GrI.guess 1 x 0)) ∧ Below w.heap.size w w' := by
  have E := Lib.hid (show iv (GrI.guess 1 x 0) = .agg #[.int .i64 1, .int .i64 (0), .int .i64 (0), .int .i64 (0), .int .i64 (0), .int .i64 (0)] by simp [iv, GrI.guess, GrI.parts])
  have ep : GrI.parts 1 = 0 := rfl
  have h1 : GrI.hasB 0 1 = false := rfl
  have h2 : GrI.hasB 0 2 = false := rfl
  have h4 : GrI.hasB 0 4 = false := rfl
  go_enter Tryd.func28, Tryd.ntmps28
  go_wp2_with (first | (go_at_call 19; refine (parts_in 1 _ (by decide) (by decide)).mono ?_; rintro e w1 ⟨rfl, rfl⟩) | (go_at_call 21; refine (has_any _ _ _ (by decide) (by decide) (by decide)).mono ?_; rintro e w1 ⟨rfl, rfl⟩) | (go_at_call 34; refine (sign_any _ _ _ (by omega) (by omega) (by decide)).mono ?_; rintro e w1 ⟨rfl, rfl⟩))
  refine bodyPost_ret (v := .agg #[.int .i64 1, .int .i64 (0), .int .i64 (0), .int .i64 (0), .int .i64 (0), .int .i64 (0)]) (by simp [results, Tryd.results28, go_sem, *]) rfl ⟨ret_v (by rw [E.out]), ?_⟩
  repeat' (first | exact ((Below.refl _ _).alloc (Nat.le_refl _) _).alloc (by simp) _ | (with_reducible refine Below.setCell ?_ ?_ _) | (simp; done) | (simp; omega))

set_option maxRecDepth 100000 in
set_option maxHeartbeats 6400000 in
theorem pguess_2 (x : Int) (w : World) (x0 : 0 ≤ x) (x1 : x < 4294967296) :
    Calls Tryd.prog 28 #[.int .i64 2, .int .i64 x] w fun e w' => e = .returned (iv (GrI.guess 2 x 0)) ∧ Below w.heap.size w w' := by
  have E := Lib.hid (show iv (GrI.guess 2 x 0) = .agg #[.int .i64 2, .int .i64 (x % 32), .int .i64 (x / 32 % 32), .int .i64 (0), .int .i64 (x / 1024 % 4096 * 8), .int .i64 (0)] by simp [iv, GrI.guess, GrI.parts])
  have ep : GrI.parts 2 = 11 := rfl
  have h1 : GrI.hasB 11 1 = true := rfl
  have h2 : GrI.hasB 11 2 = true := rfl
  have h4 : GrI.hasB 11 4 = false := rfl
  go_enter Tryd.func28, Tryd.ntmps28
  go_wp2_with (first | (go_at_call 19; refine (parts_in 2 _ (by decide) (by decide)).mono ?_; rintro e w1 ⟨rfl, rfl⟩) | (go_at_call 21; refine (has_any _ _ _ (by decide) (by decide) (by decide)).mono ?_; rintro e w1 ⟨rfl, rfl⟩) | (go_at_call 34; refine (sign_any _ _ _ (by omega) (by omega) (by decide)).mono ?_; rintro e w1 ⟨rfl, rfl⟩))
  refine bodyPost_ret (v := .agg #[.int .i64 2, .int .i64 (x % 32), .int .i64 (x / 32 % 32), .int .i64 (0), .int .i64 (x / 1024 % 4096 * 8), .int .i64 (0)]) (by simp [results, Tryd.results28, go_sem, *]) rfl ⟨ret_v (by rw [E.out]), ?_⟩
  repeat' (first | exact ((Below.refl _ _).alloc (Nat.le_refl _) _).alloc (by simp) _ | (with_reducible refine Below.setCell ?_ ?_ _) | (simp; done) | (simp; omega))

set_option maxRecDepth 100000 in
set_option maxHeartbeats 6400000 in
theorem pguess_3 (x : Int) (w : World) (x0 : 0 ≤ x) (x1 : x < 4294967296) :
    Calls Tryd.prog 28 #[.int .i64 3, .int .i64 x] w fun e w' => e = .returned (iv (GrI.guess 3 x 0)) ∧ Below w.heap.size w w' := by
  have E := Lib.hid (show iv (GrI.guess 3 x 0) = .agg #[.int .i64 3, .int .i64 (x % 32), .int .i64 (x / 32 % 32), .int .i64 (0), .int .i64 (x / 1024 % 4096 * 8), .int .i64 (0)] by simp [iv, GrI.guess, GrI.parts])
  have ep : GrI.parts 3 = 11 := rfl
  have h1 : GrI.hasB 11 1 = true := rfl
  have h2 : GrI.hasB 11 2 = true := rfl
  have h4 : GrI.hasB 11 4 = false := rfl
  go_enter Tryd.func28, Tryd.ntmps28
  go_wp2_with (first | (go_at_call 19; refine (parts_in 3 _ (by decide) (by decide)).mono ?_; rintro e w1 ⟨rfl, rfl⟩) | (go_at_call 21; refine (has_any _ _ _ (by decide) (by decide) (by decide)).mono ?_; rintro e w1 ⟨rfl, rfl⟩) | (go_at_call 34; refine (sign_any _ _ _ (by omega) (by omega) (by decide)).mono ?_; rintro e w1 ⟨rfl, rfl⟩))
  refine bodyPost_ret (v := .agg #[.int .i64 3, .int .i64 (x % 32), .int .i64 (x / 32 % 32), .int .i64 (0), .int .i64 (x / 1024 % 4096 * 8), .int .i64 (0)]) (by simp [results, Tryd.results28, go_sem, *]) rfl ⟨ret_v (by rw [E.out]), ?_⟩
  repeat' (first | exact ((Below.refl _ _).alloc (Nat.le_refl _) _).alloc (by simp) _ | (with_reducible refine Below.setCell ?_ ?_ _) | (simp; done) | (simp; omega))

set_option maxRecDepth 100000 in
set_option maxHeartbeats 6400000 in
theorem pguess_4 (x : Int) (w : World) (x0 : 0 ≤ x) (x1 : x < 4294967296) :
    Calls Tryd.prog 28 #[.int .i64 4, .int .i64 x] w fun e w' => e = .returned (iv (GrI.guess 4 x 0)) ∧ Below w.heap.size w w' := by
  have E := Lib.hid (show iv (GrI.guess 4 x 0) = .agg #[.int .i64 4, .int .i64 (x % 32), .int .i64 (x / 32 % 32), .int .i64 (0), .int .i64 (0), .int .i64 (0)] by simp [iv, GrI.guess, GrI.parts])
  have ep : GrI.parts 4 = 3 := rfl
  have h1 : GrI.hasB 3 1 = true := rfl
  have h2 : GrI.hasB 3 2 = true := rfl
  have h4 : GrI.hasB 3 4 = false := rfl
  go_enter Tryd.func28, Tryd.ntmps28
  go_wp2_with (first | (go_at_call 19; refine (parts_in 4 _ (by decide) (by decide)).mono ?_; rintro e w1 ⟨rfl, rfl⟩) | (go_at_call 21; refine (has_any _ _ _ (by decide) (by decide) (by decide)).mono ?_; rintro e w1 ⟨rfl, rfl⟩) | (go_at_call 34; refine (sign_any _ _ _ (by omega) (by omega) (by decide)).mono ?_; rintro e w1 ⟨rfl, rfl⟩))
  refine bodyPost_ret (v := .agg #[.int .i64 4, .int .i64 (x % 32), .int .i64 (x / 32 % 32), .int .i64 (0), .int .i64 (0), .int .i64 (0)]) (by simp [results, Tryd.results28, go_sem, *]) rfl ⟨ret_v (by rw [E.out]), ?_⟩
  repeat' (first | exact ((Below.refl _ _).alloc (Nat.le_refl _) _).alloc (by simp) _ | (with_reducible refine Below.setCell ?_ ?_ _) | (simp; done) | (simp; omega))

set_option maxRecDepth 100000 in
set_option maxHeartbeats 6400000 in
theorem pguess_5 (x : Int) (w : World) (x0 : 0 ≤ x) (x1 : x < 4294967296) :
    Calls Tryd.prog 28 #[.int .i64 5, .int .i64 x] w fun e w' => e = .returned (iv (GrI.guess 5 x 0)) ∧ Below w.heap.size w w' := by
  have E := Lib.hid (show iv (GrI.guess 5 x 0) = .agg #[.int .i64 5, .int .i64 (x % 32), .int .i64 (x / 32 % 32), .int .i64 (0), .int .i64 (0), .int .i64 (0)] by simp [iv, GrI.guess, GrI.parts])
  have ep : GrI.parts 5 = 3 := rfl
  have h1 : GrI.hasB 3 1 = true := rfl
  have h2 : GrI.hasB 3 2 = true := rfl
  have h4 : GrI.hasB 3 4 = false := rfl
  go_enter Tryd.func28, Tryd.ntmps28
  go_wp2_with (first | (go_at_call 19; refine (parts_in 5 _ (by decide) (by decide)).mono ?_; rintro e w1 ⟨rfl, rfl⟩) | (go_at_call 21; refine (has_any _ _ _ (by decide) (by decide) (by decide)).mono ?_; rintro e w1 ⟨rfl, rfl⟩) | (go_at_call 34; refine (sign_any _ _ _ (by omega) (by omega) (by decide)).mono ?_; rintro e w1 ⟨rfl, rfl⟩))
  refine bodyPost_ret (v := .agg #[.int .i64 5, .int .i64 (x % 32), .int .i64 (x / 32 % 32), .int .i64 (0), .int .i64 (0), .int .i64 (0)]) (by simp [results, Tryd.results28, go_sem, *]) rfl ⟨ret_v (by rw [E.out]), ?_⟩
  repeat' (first | exact ((Below.refl _ _).alloc (Nat.le_refl _) _).alloc (by simp) _ | (with_reducible refine Below.setCell ?_ ?_ _) | (simp; done) | (simp; omega))

set_option maxRecDepth 100000 in
set_option maxHeartbeats 6400000 in
theorem pguess_6 (x : Int) (w : World) (x0 : 0 ≤ x) (x1 : x < 4294967296) :
    Calls Tryd.prog 28 #[.int .i64 6, .int .i64 x] w fun e w' => e = .returned (iv (GrI.guess 6 x 0)) ∧ Below w.heap.size w w' := by
  have E := Lib.hid (show iv (GrI.guess 6 x 0) = .agg #[.int .i64 6, .int .i64 (x % 32), .int .i64 (0), .int .i64 (0), .int .i64 (x / 32 % 65536), .int .i64 (x / 2097152 % 4)] by simp [iv, GrI.guess, GrI.parts])
  have ep : GrI.parts 6 = 25 := rfl
  have h1 : GrI.hasB 25 1 = true := rfl
  have h2 : GrI.hasB 25 2 = false := rfl
  have h4 : GrI.hasB 25 4 = false := rfl
  go_enter Tryd.func28, Tryd.ntmps28
  go_wp2_with (first | (go_at_call 19; refine (parts_in 6 _ (by decide) (by decide)).mono ?_; rintro e w1 ⟨rfl, rfl⟩) | (go_at_call 21; refine (has_any _ _ _ (by decide) (by decide) (by decide)).mono ?_; rintro e w1 ⟨rfl, rfl⟩) | (go_at_call 34; refine (sign_any _ _ _ (by omega) (by omega) (by decide)).mono ?_; rintro e w1 ⟨rfl, rfl⟩))
  refine bodyPost_ret (v := .agg #[.int .i64 6, .int .i64 (x % 32), .int .i64 (0), .int .i64 (0), .int .i64 (x / 32 % 65536), .int .i64 (x / 2097152 % 4)]) (by simp [results, Tryd.results28, go_sem, *]) rfl ⟨ret_v (by rw [E.out]), ?_⟩
  repeat' (first | exact ((Below.refl _ _).alloc (Nat.le_refl _) _).alloc (by simp) _ | (with_reducible refine Below.setCell ?_ ?_ _) | (simp; done) | (simp; omega))

set_option maxRecDepth 100000 in
set_option maxHeartbeats 6400000 in
theorem pguess_7 (x : Int) (w : World) (x0 : 0 ≤ x) (x1 : x < 4294967296) :
    Calls Tryd.prog 28 #[.int .i64 7, .int .i64 x] w fun e w' => e = .returned (iv (GrI.guess 7 x 0)) ∧ Below w.heap.size w w' := by
  have E := Lib.hid (show iv (GrI.guess 7 x 0) = .agg #[.int .i64 7, .int .i64 (x % 32), .int .i64 (x / 32 % 32), .int .i64 (0), .int .i64 (x / 1024 % 4096), .int .i64 (0)] by simp [iv, GrI.guess, GrI.parts])
  have ep : GrI.parts 7 = 11 := rfl
  have h1 : GrI.hasB 11 1 = true := rfl
  have h2 : GrI.hasB 11 2 = true := rfl
  have h4 : GrI.hasB 11 4 = false := rfl
  go_enter Tryd.func28, Tryd.ntmps28
  go_wp2_with (first | (go_at_call 19; refine (parts_in 7 _ (by decide) (by decide)).mono ?_; rintro e w1 ⟨rfl, rfl⟩) | (go_at_call 21; refine (has_any _ _ _ (by decide) (by decide) (by decide)).mono ?_; rintro e w1 ⟨rfl, rfl⟩) | (go_at_call 34; refine (sign_any _ _ _ (by omega) (by omega) (by decide)).mono ?_; rintro e w1 ⟨rfl, rfl⟩))
  refine bodyPost_ret (v := .agg #[.int .i64 7, .int .i64 (x % 32), .int .i64 (x / 32 % 32), .int .i64 (0), .int .i64 (x / 1024 % 4096), .int .i64 (0)]) (by simp [results, Tryd.results28, go_sem, *]) rfl ⟨ret_v (by rw [E.out]), ?_⟩
  repeat' (first | exact ((Below.refl _ _).alloc (Nat.le_refl _) _).alloc (by simp) _ | (with_reducible refine Below.setCell ?_ ?_ _) | (simp; done) | (simp; omega))

set_option maxRecDepth 100000 in
set_option maxHeartbeats 6400000 in
theorem pguess_8 (x : Int) (w : World) (x0 : 0 ≤ x) (x1 : x < 4294967296) :
    Calls Tryd.prog 28 #[.int .i64 8, .int .i64 x] w fun e w' => e = .returned (iv (GrI.guess 8 x 0)) ∧ Below w.heap.size w w' := by
  have E := Lib.hid (show iv (GrI.guess 8 x 0) = .agg #[.int .i64 8, .int .i64 (x % 32), .int .i64 (x / 32 % 32), .int .i64 (x / 65536 % 32), .int .i64 (0), .int .i64 (0)] by simp [iv, GrI.guess, GrI.parts])
  have ep : GrI.parts 8 = 7 := rfl
  have h1 : GrI.hasB 7 1 = true := rfl
  have h2 : GrI.hasB 7 2 = true := rfl
  have h4 : GrI.hasB 7 4 = true := rfl
  go_enter Tryd.func28, Tryd.ntmps28
  go_wp2_with (first | (go_at_call 19; refine (parts_in 8 _ (by decide) (by decide)).mono ?_; rintro e w1 ⟨rfl, rfl⟩) | (go_at_call 21; refine (has_any _ _ _ (by decide) (by decide) (by decide)).mono ?_; rintro e w1 ⟨rfl, rfl⟩) | (go_at_call 34; refine (sign_any _ _ _ (by omega) (by omega) (by decide)).mono ?_; rintro e w1 ⟨rfl, rfl⟩))
  refine bodyPost_ret (v := .agg #[.int .i64 8, .int .i64 (x % 32), .int .i64 (x / 32 % 32), .int .i64 (x / 65536 % 32), .int .i64 (0), .int .i64 (0)]) (by simp [results, Tryd.results28, go_sem, *]) rfl ⟨ret_v (by rw [E.out]), ?_⟩
  repeat' (first | exact ((Below.refl _ _).alloc (Nat.le_refl _) _).alloc (by simp) _ | (with_reducible refine Below.setCell ?_ ?_ _) | (simp; done) | (simp; omega))

set_option maxRecDepth 100000 in
set_option maxHeartbeats 6400000 in
theorem pguess_9 (x : Int) (w : World) (x0 : 0 ≤ x) (x1 : x < 4294967296) :
    Calls Tryd.prog 28 #[.int .i64 9, .int .i64 x] w fun e w' => e = .returned (iv (GrI.guess 9 x 0)) ∧ Below w.heap.size w w' := by
  have E := Lib.hid (show iv (GrI.guess 9 x 0) = .agg #[.int .i64 9, .int .i64 (x % 32), .int .i64 (x / 32 % 32), .int .i64 (x / 65536 % 32), .int .i64 (0), .int .i64 (0)] by simp [iv, GrI.guess, GrI.parts])
  have ep : GrI.parts 9 = 7 := rfl
  have h1 : GrI.hasB 7 1 = true := rfl
  have h2 : GrI.hasB 7 2 = true := rfl
  have h4 : GrI.hasB 7 4 = true := rfl
  go_enter Tryd.func28, Tryd.ntmps28
  go_wp2_with (first | (go_at_call 19; refine (parts_in 9 _ (by decide) (by decide)).mono ?_; rintro e w1 ⟨rfl, rfl⟩) | (go_at_call 21; refine (has_any _ _ _ (by decide) (by decide) (by decide)).mono ?_; rintro e w1 ⟨rfl, rfl⟩) | (go_at_call 34; refine (sign_any _ _ _ (by omega) (by omega) (by decide)).mono ?_; rintro e w1 ⟨rfl, rfl⟩))
  refine bodyPost_ret (v := .agg #[.int .i64 9, .int .i64 (x % 32), .int .i64 (x / 32 % 32), .int .i64 (x / 65536 % 32), .int .i64 (0), .int .i64 (0)]) (by simp [results, Tryd.results28, go_sem, *]) rfl ⟨ret_v (by rw [E.out]), ?_⟩
  repeat' (first | exact ((Below.refl _ _).alloc (Nat.le_refl _) _).alloc (by simp) _ | (with_reducible refine Below.setCell ?_ ?_ _) | (simp; done) | (simp; omega))

set_option maxRecDepth 100000 in
set_option maxHeartbeats 6400000 in
theorem pguess_10 (x : Int) (w : World) (x0 : 0 ≤ x) (x1 : x < 4294967296) :
    Calls Tryd.prog 28 #[.int .i64 10, .int .i64 x] w fun e w' => e = .returned (iv (GrI.guess 10 x 0)) ∧ Below w.heap.size w w' := by
  have E := Lib.hid (show iv (GrI.guess 10 x 0) = .agg #[.int .i64 10, .int .i64 (x % 32), .int .i64 (x / 32 % 32), .int .i64 (x / 65536 % 32), .int .i64 (0), .int .i64 (0)] by simp [iv, GrI.guess, GrI.parts])
  have ep : GrI.parts 10 = 7 := rfl
  have h1 : GrI.hasB 7 1 = true := rfl
  have h2 : GrI.hasB 7 2 = true := rfl
  have h4 : GrI.hasB 7 4 = true := rfl
  go_enter Tryd.func28, Tryd.ntmps28
  go_wp2_with (first | (go_at_call 19; refine (parts_in 10 _ (by decide) (by decide)).mono ?_; rintro e w1 ⟨rfl, rfl⟩) | (go_at_call 21; refine (has_any _ _ _ (by decide) (by decide) (by decide)).mono ?_; rintro e w1 ⟨rfl, rfl⟩) | (go_at_call 34; refine (sign_any _ _ _ (by omega) (by omega) (by decide)).mono ?_; rintro e w1 ⟨rfl, rfl⟩))
  refine bodyPost_ret (v := .agg #[.int .i64 10, .int .i64 (x % 32), .int .i64 (x / 32 % 32), .int .i64 (x / 65536 % 32), .int .i64 (0), .int .i64 (0)]) (by simp [results, Tryd.results28, go_sem, *]) rfl ⟨ret_v (by rw [E.out]), ?_⟩
  repeat' (first | exact ((Below.refl _ _).alloc (Nat.le_refl _) _).alloc (by simp) _ | (with_reducible refine Below.setCell ?_ ?_ _) | (simp; done) | (simp; omega))

set_option maxRecDepth 100000 in
set_option maxHeartbeats 6400000 in
theorem pguess_11 (x : Int) (w : World) (x0 : 0 ≤ x) (x1 : x < 4294967296) :
    Calls Tryd.prog 28 #[.int .i64 11, .int .i64 x] w fun e w' => e = .returned (iv (GrI.guess 11 x 0)) ∧ Below w.heap.size w w' := by
  have E := Lib.hid (show iv (GrI.guess 11 x 0) = .agg #[.int .i64 11, .int .i64 (x % 32), .int .i64 (x / 32 % 32), .int .i64 (x / 65536 % 32), .int .i64 (0), .int .i64 (0)] by simp [iv, GrI.guess, GrI.parts])
  have ep : GrI.parts 11 = 7 := rfl
  have h1 : GrI.hasB 7 1 = true := rfl
  have h2 : GrI.hasB 7 2 = true := rfl
  have h4 : GrI.hasB 7 4 = true := rfl
  go_enter Tryd.func28, Tryd.ntmps28
  go_wp2_with (first | (go_at_call 19; refine (parts_in 11 _ (by decide) (by decide)).mono ?_; rintro e w1 ⟨rfl, rfl⟩) | (go_at_call 21; refine (has_any _ _ _ (by decide) (by decide) (by decide)).mono ?_; rintro e w1 ⟨rfl, rfl⟩) | (go_at_call 34; refine (sign_any _ _ _ (by omega) (by omega) (by decide)).mono ?_; rintro e w1 ⟨rfl, rfl⟩))
  refine bodyPost_ret (v := .agg #[.int .i64 11, .int .i64 (x % 32), .int .i64 (x / 32 % 32), .int .i64 (x / 65536 % 32), .int .i64 (0), .int .i64 (0)]) (by simp [results, Tryd.results28, go_sem, *]) rfl ⟨ret_v (by rw [E.out]), ?_⟩
  repeat' (first | exact ((Below.refl _ _).alloc (Nat.le_refl _) _).alloc (by simp) _ | (with_reducible refine Below.setCell ?_ ?_ _) | (simp; done) | (simp; omega))

set_option maxRecDepth 100000 in
set_option maxHeartbeats 6400000 in
theorem pguess_12 (x : Int) (w : World) (x0 : 0 ≤ x) (x1 : x < 4294967296) :
    Calls Tryd.prog 28 #[.int .i64 12, .int .i64 x] w fun e w' => e = .returned (iv (GrI.guess 12 x 0)) ∧ Below w.heap.size w w' := by
  have E := Lib.hid (show iv (GrI.guess 12 x 0) = .agg #[.int .i64 12, .int .i64 (x % 32), .int .i64 (x / 32 % 32), .int .i64 (x / 65536 % 32), .int .i64 (0), .int .i64 (0)] by simp [iv, GrI.guess, GrI.parts])
  have ep : GrI.parts 12 = 7 := rfl
  have h1 : GrI.hasB 7 1 = true := rfl
  have h2 : GrI.hasB 7 2 = true := rfl
  have h4 : GrI.hasB 7 4 = true := rfl
  go_enter Tryd.func28, Tryd.ntmps28
  go_wp2_with (first | (go_at_call 19; refine (parts_in 12 _ (by decide) (by decide)).mono ?_; rintro e w1 ⟨rfl, rfl⟩) | (go_at_call 21; refine (has_any _ _ _ (by decide) (by decide) (by decide)).mono ?_; rintro e w1 ⟨rfl, rfl⟩) | (go_at_call 34; refine (sign_any _ _ _ (by omega) (by omega) (by decide)).mono ?_; rintro e w1 ⟨rfl, rfl⟩))
  refine bodyPost_ret (v := .agg #[.int .i64 12, .int .i64 (x % 32), .int .i64 (x / 32 % 32), .int .i64 (x / 65536 % 32), .int .i64 (0), .int .i64 (0)]) (by simp [results, Tryd.results28, go_sem, *]) rfl ⟨ret_v (by rw [E.out]), ?_⟩
  repeat' (first | exact ((Below.refl _ _).alloc (Nat.le_refl _) _).alloc (by simp) _ | (with_reducible refine Below.setCell ?_ ?_ _) | (simp; done) | (simp; omega))

set_option maxRecDepth 100000 in
set_option maxHeartbeats 6400000 in
theorem pguess_13 (x : Int) (w : World) (x0 : 0 ≤ x) (x1 : x < 4294967296) :
    Calls Tryd.prog 28 #[.int .i64 13, .int .i64 x] w fun e w' => e = .returned (iv (GrI.guess 13 x 0)) ∧ Below w.heap.size w w' := by
  have E := Lib.hid (show iv (GrI.guess 13 x 0) = .agg #[.int .i64 13, .int .i64 (x % 32), .int .i64 (x / 32 % 32), .int .i64 (x / 65536 % 32), .int .i64 (0), .int .i64 (0)] by simp [iv, GrI.guess, GrI.parts])
  have ep : GrI.parts 13 = 7 := rfl
  have h1 : GrI.hasB 7 1 = true := rfl
  have h2 : GrI.hasB 7 2 = true := rfl
  have h4 : GrI.hasB 7 4 = true := rfl
  go_enter Tryd.func28, Tryd.ntmps28
  go_wp2_with (first | (go_at_call 19; refine (parts_in 13 _ (by decide) (by decide)).mono ?_; rintro e w1 ⟨rfl, rfl⟩) | (go_at_call 21; refine (has_any _ _ _ (by decide) (by decide) (by decide)).mono ?_; rintro e w1 ⟨rfl, rfl⟩) | (go_at_call 34; refine (sign_any _ _ _ (by omega) (by omega) (by decide)).mono ?_; rintro e w1 ⟨rfl, rfl⟩))
  refine bodyPost_ret (v := .agg #[.int .i64 13, .int .i64 (x % 32), .int .i64 (x / 32 % 32), .int .i64 (x / 65536 % 32), .int .i64 (0), .int .i64 (0)]) (by simp [results, Tryd.results28, go_sem, *]) rfl ⟨ret_v (by rw [E.out]), ?_⟩
  repeat' (first | exact ((Below.refl _ _).alloc (Nat.le_refl _) _).alloc (by simp) _ | (with_reducible refine Below.setCell ?_ ?_ _) | (simp; done) | (simp; omega))

set_option maxRecDepth 100000 in
set_option maxHeartbeats 6400000 in
theorem pguess_14 (x : Int) (w : World) (x0 : 0 ≤ x) (x1 : x < 4294967296) :
    Calls Tryd.prog 28 #[.int .i64 14, .int .i64 x] w fun e w' => e = .returned (iv (GrI.guess 14 x 0)) ∧ Below w.heap.size w w' := by
  have E := Lib.hid (show iv (GrI.guess 14 x 0) = .agg #[.int .i64 14, .int .i64 (0), .int .i64 (0), .int .i64 (0), .int .i64 (GrI.sign (x % 67108864) 67108864), .int .i64 (0)] by simp [iv, GrI.guess, GrI.parts])
  have ep : GrI.parts 14 = 8 := rfl
  have h1 : GrI.hasB 8 1 = false := rfl
  have h2 : GrI.hasB 8 2 = false := rfl
  have h4 : GrI.hasB 8 4 = false := rfl
  go_enter Tryd.func28, Tryd.ntmps28
  go_wp2_with (first | (go_at_call 19; refine (parts_in 14 _ (by decide) (by decide)).mono ?_; rintro e w1 ⟨rfl, rfl⟩) | (go_at_call 21; refine (has_any _ _ _ (by decide) (by decide) (by decide)).mono ?_; rintro e w1 ⟨rfl, rfl⟩) | (go_at_call 34; refine (sign_any _ _ _ (by omega) (by omega) (by decide)).mono ?_; rintro e w1 ⟨rfl, rfl⟩))
  refine bodyPost_ret (v := .agg #[.int .i64 14, .int .i64 (0), .int .i64 (0), .int .i64 (0), .int .i64 (GrI.sign (x % 67108864) 67108864), .int .i64 (0)]) (by simp [results, Tryd.results28, go_sem, *]) rfl ⟨ret_v (by rw [E.out]), ?_⟩
  repeat' (first | exact ((Below.refl _ _).alloc (Nat.le_refl _) _).alloc (by simp) _ | (with_reducible refine Below.setCell ?_ ?_ _) | (simp; done) | (simp; omega))

set_option maxRecDepth 100000 in
set_option maxHeartbeats 6400000 in
theorem pguess_15 (x : Int) (w : World) (x0 : 0 ≤ x) (x1 : x < 4294967296) :
    Calls Tryd.prog 28 #[.int .i64 15, .int .i64 x] w fun e w' => e = .returned (iv (GrI.guess 15 x 0)) ∧ Below w.heap.size w w' := by
  have E := Lib.hid (show iv (GrI.guess 15 x 0) = .agg #[.int .i64 15, .int .i64 (x % 32), .int .i64 (0), .int .i64 (0), .int .i64 (GrI.sign (x / 32 % 524288) 524288), .int .i64 (0)] by simp [iv, GrI.guess, GrI.parts])
  have ep : GrI.parts 15 = 9 := rfl
  have h1 : GrI.hasB 9 1 = true := rfl
  have h2 : GrI.hasB 9 2 = false := rfl
  have h4 : GrI.hasB 9 4 = false := rfl
  go_enter Tryd.func28, Tryd.ntmps28
  go_wp2_with (first | (go_at_call 19; refine (parts_in 15 _ (by decide) (by decide)).mono ?_; rintro e w1 ⟨rfl, rfl⟩) | (go_at_call 21; refine (has_any _ _ _ (by decide) (by decide) (by decide)).mono ?_; rintro e w1 ⟨rfl, rfl⟩) | (go_at_call 34; refine (sign_any _ _ _ (by omega) (by omega) (by decide)).mono ?_; rintro e w1 ⟨rfl, rfl⟩))
  refine bodyPost_ret (v := .agg #[.int .i64 15, .int .i64 (x % 32), .int .i64 (0), .int .i64 (0), .int .i64 (GrI.sign (x / 32 % 524288) 524288), .int .i64 (0)]) (by simp [results, Tryd.results28, go_sem, *]) rfl ⟨ret_v (by rw [E.out]), ?_⟩
  repeat' (first | exact ((Below.refl _ _).alloc (Nat.le_refl _) _).alloc (by simp) _ | (with_reducible refine Below.setCell ?_ ?_ _) | (simp; done) | (simp; omega))

set_option maxRecDepth 100000 in
set_option maxHeartbeats 6400000 in
theorem pguess_16 (x : Int) (w : World) (x0 : 0 ≤ x) (x1 : x < 4294967296) :
    Calls Tryd.prog 28 #[.int .i64 16, .int .i64 x] w fun e w' => e = .returned (iv (GrI.guess 16 x 0)) ∧ Below w.heap.size w w' := by
  have E := Lib.hid (show iv (GrI.guess 16 x 0) = .agg #[.int .i64 16, .int .i64 (x % 32), .int .i64 (0), .int .i64 (0), .int .i64 (GrI.sign (x / 32 % 524288) 524288), .int .i64 (0)] by simp [iv, GrI.guess, GrI.parts])
  have ep : GrI.parts 16 = 9 := rfl
  have h1 : GrI.hasB 9 1 = true := rfl
  have h2 : GrI.hasB 9 2 = false := rfl
  have h4 : GrI.hasB 9 4 = false := rfl
  go_enter Tryd.func28, Tryd.ntmps28
  go_wp2_with (first | (go_at_call 19; refine (parts_in 16 _ (by decide) (by decide)).mono ?_; rintro e w1 ⟨rfl, rfl⟩) | (go_at_call 21; refine (has_any _ _ _ (by decide) (by decide) (by decide)).mono ?_; rintro e w1 ⟨rfl, rfl⟩) | (go_at_call 34; refine (sign_any _ _ _ (by omega) (by omega) (by decide)).mono ?_; rintro e w1 ⟨rfl, rfl⟩))
  refine bodyPost_ret (v := .agg #[.int .i64 16, .int .i64 (x % 32), .int .i64 (0), .int .i64 (0), .int .i64 (GrI.sign (x / 32 % 524288) 524288), .int .i64 (0)]) (by simp [results, Tryd.results28, go_sem, *]) rfl ⟨ret_v (by rw [E.out]), ?_⟩
  repeat' (first | exact ((Below.refl _ _).alloc (Nat.le_refl _) _).alloc (by simp) _ | (with_reducible refine Below.setCell ?_ ?_ _) | (simp; done) | (simp; omega))

set_option maxRecDepth 100000 in
set_option maxHeartbeats 6400000 in
theorem pguess_17 (x : Int) (w : World) (x0 : 0 ≤ x) (x1 : x < 4294967296) :
    Calls Tryd.prog 28 #[.int .i64 17, .int .i64 x] w fun e w' => e = .returned (iv (GrI.guess 17 x 0)) ∧ Below w.heap.size w w' := by
  have E := Lib.hid (show iv (GrI.guess 17 x 0) = .agg #[.int .i64 17, .int .i64 (0), .int .i64 (0), .int .i64 (0), .int .i64 (GrI.sign (x / 32 % 524288) 524288), .int .i64 (x % 32)] by simp [iv, GrI.guess, GrI.parts])
  have ep : GrI.parts 17 = 24 := rfl
  have h1 : GrI.hasB 24 1 = false := rfl
  have h2 : GrI.hasB 24 2 = false := rfl
  have h4 : GrI.hasB 24 4 = false := rfl
  go_enter Tryd.func28, Tryd.ntmps28
  go_wp2_with (first | (go_at_call 19; refine (parts_in 17 _ (by decide) (by decide)).mono ?_; rintro e w1 ⟨rfl, rfl⟩) | (go_at_call 21; refine (has_any _ _ _ (by decide) (by decide) (by decide)).mono ?_; rintro e w1 ⟨rfl, rfl⟩) | (go_at_call 34; refine (sign_any _ _ _ (by omega) (by omega) (by decide)).mono ?_; rintro e w1 ⟨rfl, rfl⟩))
  refine bodyPost_ret (v := .agg #[.int .i64 17, .int .i64 (0), .int .i64 (0), .int .i64 (0), .int .i64 (GrI.sign (x / 32 % 524288) 524288), .int .i64 (x % 32)]) (by simp [results, Tryd.results28, go_sem, *]) rfl ⟨ret_v (by rw [E.out]), ?_⟩
  repeat' (first | exact ((Below.refl _ _).alloc (Nat.le_refl _) _).alloc (by simp) _ | (with_reducible refine Below.setCell ?_ ?_ _) | (simp; done) | (simp; omega))

set_option maxRecDepth 100000 in
set_option maxHeartbeats 6400000 in
theorem pguess_18 (x : Int) (w : World) (x0 : 0 ≤ x) (x1 : x < 4294967296) :
    Calls Tryd.prog 28 #[.int .i64 18, .int .i64 x] w fun e w' => e = .returned (iv (GrI.guess 18 x 0)) ∧ Below w.heap.size w w' := by
  have E := Lib.hid (show iv (GrI.guess 18 x 0) = .agg #[.int .i64 18, .int .i64 (0), .int .i64 (0), .int .i64 (0), .int .i64 (0), .int .i64 (x / 256 % 16)] by simp [iv, GrI.guess, GrI.parts])
  have ep : GrI.parts 18 = 16 := rfl
  have h1 : GrI.hasB 16 1 = false := rfl
  have h2 : GrI.hasB 16 2 = false := rfl
  have h4 : GrI.hasB 16 4 = false := rfl
  go_enter Tryd.func28, Tryd.ntmps28
  go_wp2_with (first | (go_at_call 19; refine (parts_in 18 _ (by decide) (by decide)).mono ?_; rintro e w1 ⟨rfl, rfl⟩) | (go_at_call 21; refine (has_any _ _ _ (by decide) (by decide) (by decide)).mono ?_; rintro e w1 ⟨rfl, rfl⟩) | (go_at_call 34; refine (sign_any _ _ _ (by omega) (by omega) (by decide)).mono ?_; rintro e w1 ⟨rfl, rfl⟩))
  refine bodyPost_ret (v := .agg #[.int .i64 18, .int .i64 (0), .int .i64 (0), .int .i64 (0), .int .i64 (0), .int .i64 (x / 256 % 16)]) (by simp [results, Tryd.results28, go_sem, *]) rfl ⟨ret_v (by rw [E.out]), ?_⟩
  repeat' (first | exact ((Below.refl _ _).alloc (Nat.le_refl _) _).alloc (by simp) _ | (with_reducible refine Below.setCell ?_ ?_ _) | (simp; done) | (simp; omega))

set_option maxRecDepth 100000 in
set_option maxHeartbeats 6400000 in
theorem pguess_19 (x : Int) (w : World) (x0 : 0 ≤ x) (x1 : x < 4294967296) :
    Calls Tryd.prog 28 #[.int .i64 19, .int .i64 x] w fun e w' => e = .returned (iv (GrI.guess 19 x 0)) ∧ Below w.heap.size w w' := by
  have E := Lib.hid (show iv (GrI.guess 19 x 0) = .agg #[.int .i64 19, .int .i64 (0), .int .i64 (0), .int .i64 (0), .int .i64 (0), .int .i64 (x / 256 % 16)] by simp [iv, GrI.guess, GrI.parts])
  have ep : GrI.parts 19 = 16 := rfl
  have h1 : GrI.hasB 16 1 = false := rfl
  have h2 : GrI.hasB 16 2 = false := rfl
  have h4 : GrI.hasB 16 4 = false := rfl
  go_enter Tryd.func28, Tryd.ntmps28
  go_wp2_with (first | (go_at_call 19; refine (parts_in 19 _ (by decide) (by decide)).mono ?_; rintro e w1 ⟨rfl, rfl⟩) | (go_at_call 21; refine (has_any _ _ _ (by decide) (by decide) (by decide)).mono ?_; rintro e w1 ⟨rfl, rfl⟩) | (go_at_call 34; refine (sign_any _ _ _ (by omega) (by omega) (by decide)).mono ?_; rintro e w1 ⟨rfl, rfl⟩))
  refine bodyPost_ret (v := .agg #[.int .i64 19, .int .i64 (0), .int .i64 (0), .int .i64 (0), .int .i64 (0), .int .i64 (x / 256 % 16)]) (by simp [results, Tryd.results28, go_sem, *]) rfl ⟨ret_v (by rw [E.out]), ?_⟩
  repeat' (first | exact ((Below.refl _ _).alloc (Nat.le_refl _) _).alloc (by simp) _ | (with_reducible refine Below.setCell ?_ ?_ _) | (simp; done) | (simp; omega))

set_option maxRecDepth 100000 in
set_option maxHeartbeats 6400000 in
theorem pguess_20 (x : Int) (w : World) (x0 : 0 ≤ x) (x1 : x < 4294967296) :
    Calls Tryd.prog 28 #[.int .i64 20, .int .i64 x] w fun e w' => e = .returned (iv (GrI.guess 20 x 0)) ∧ Below w.heap.size w w' := by
  have E := Lib.hid (show iv (GrI.guess 20 x 0) = .agg #[.int .i64 20, .int .i64 (0), .int .i64 (0), .int .i64 (0), .int .i64 (0), .int .i64 (0)] by simp [iv, GrI.guess, GrI.parts])
  have ep : GrI.parts 20 = 0 := rfl
  have h1 : GrI.hasB 0 1 = false := rfl
  have h2 : GrI.hasB 0 2 = false := rfl
  have h4 : GrI.hasB 0 4 = false := rfl
  go_enter Tryd.func28, Tryd.ntmps28
  go_wp2_with (first | (go_at_call 19; refine (parts_in 20 _ (by decide) (by decide)).mono ?_; rintro e w1 ⟨rfl, rfl⟩) | (go_at_call 21; refine (has_any _ _ _ (by decide) (by decide) (by decide)).mono ?_; rintro e w1 ⟨rfl, rfl⟩) | (go_at_call 34; refine (sign_any _ _ _ (by omega) (by omega) (by decide)).mono ?_; rintro e w1 ⟨rfl, rfl⟩))
  refine bodyPost_ret (v := .agg #[.int .i64 20, .int .i64 (0), .int .i64 (0), .int .i64 (0), .int .i64 (0), .int .i64 (0)]) (by simp [results, Tryd.results28, go_sem, *]) rfl ⟨ret_v (by rw [E.out]), ?_⟩
  repeat' (first | exact ((Below.refl _ _).alloc (Nat.le_refl _) _).alloc (by simp) _ | (with_reducible refine Below.setCell ?_ ?_ _) | (simp; done) | (simp; omega))

set_option maxRecDepth 100000 in
set_option maxHeartbeats 6400000 in
theorem pguess_21 (x : Int) (w : World) (x0 : 0 ≤ x) (x1 : x < 4294967296) :
    Calls Tryd.prog 28 #[.int .i64 21, .int .i64 x] w fun e w' => e = .returned (iv (GrI.guess 21 x 0)) ∧ Below w.heap.size w w' := by
  have E := Lib.hid (show iv (GrI.guess 21 x 0) = .agg #[.int .i64 21, .int .i64 (x % 32), .int .i64 (0), .int .i64 (0), .int .i64 (0), .int .i64 (0)] by simp [iv, GrI.guess, GrI.parts])
  have ep : GrI.parts 21 = 17 := rfl
  have h1 : GrI.hasB 17 1 = true := rfl
  have h2 : GrI.hasB 17 2 = false := rfl
  have h4 : GrI.hasB 17 4 = false := rfl
  go_enter Tryd.func28, Tryd.ntmps28
  go_wp2_with (first | (go_at_call 19; refine (parts_in 21 _ (by decide) (by decide)).mono ?_; rintro e w1 ⟨rfl, rfl⟩) | (go_at_call 21; refine (has_any _ _ _ (by decide) (by decide) (by decide)).mono ?_; rintro e w1 ⟨rfl, rfl⟩) | (go_at_call 34; refine (sign_any _ _ _ (by omega) (by omega) (by decide)).mono ?_; rintro e w1 ⟨rfl, rfl⟩))
  refine bodyPost_ret (v := .agg #[.int .i64 21, .int .i64 (x % 32), .int .i64 (0), .int .i64 (0), .int .i64 (0), .int .i64 (0)]) (by simp [results, Tryd.results28, go_sem, *]) rfl ⟨ret_v (by rw [E.out]), ?_⟩
  repeat' (first | exact ((Below.refl _ _).alloc (Nat.le_refl _) _).alloc (by simp) _ | (with_reducible refine Below.setCell ?_ ?_ _) | (simp; done) | (simp; omega))

set_option maxRecDepth 100000 in
set_option maxHeartbeats 6400000 in
theorem pguess_22 (x : Int) (w : World) (x0 : 0 ≤ x) (x1 : x < 4294967296) :
    Calls Tryd.prog 28 #[.int .i64 22, .int .i64 x] w fun e w' => e = .returned (iv (GrI.guess 22 x 0)) ∧ Below w.heap.size w w' := by
  have E := Lib.hid (show iv (GrI.guess 22 x 0) = .agg #[.int .i64 22, .int .i64 (0), .int .i64 (0), .int .i64 (0), .int .i64 (0), .int .i64 (0)] by simp [iv, GrI.guess, GrI.parts])
  have ep : GrI.parts 22 = 0 := rfl
  have h1 : GrI.hasB 0 1 = false := rfl
  have h2 : GrI.hasB 0 2 = false := rfl
  have h4 : GrI.hasB 0 4 = false := rfl
  go_enter Tryd.func28, Tryd.ntmps28
  go_wp2_with (first | (go_at_call 19; refine (parts_in 22 _ (by decide) (by decide)).mono ?_; rintro e w1 ⟨rfl, rfl⟩) | (go_at_call 21; refine (has_any _ _ _ (by decide) (by decide) (by decide)).mono ?_; rintro e w1 ⟨rfl, rfl⟩) | (go_at_call 34; refine (sign_any _ _ _ (by omega) (by omega) (by decide)).mono ?_; rintro e w1 ⟨rfl, rfl⟩))
  refine bodyPost_ret (v := .agg #[.int .i64 22, .int .i64 (0), .int .i64 (0), .int .i64 (0), .int .i64 (0), .int .i64 (0)]) (by simp [results, Tryd.results28, go_sem, *]) rfl ⟨ret_v (by rw [E.out]), ?_⟩
  repeat' (first | exact ((Below.refl _ _).alloc (Nat.le_refl _) _).alloc (by simp) _ | (with_reducible refine Below.setCell ?_ ?_ _) | (simp; done) | (simp; omega))

set_option maxRecDepth 100000 in
set_option maxHeartbeats 6400000 in
theorem pguess_23 (x : Int) (w : World) (x0 : 0 ≤ x) (x1 : x < 4294967296) :
    Calls Tryd.prog 28 #[.int .i64 23, .int .i64 x] w fun e w' => e = .returned (iv (GrI.guess 23 x 0)) ∧ Below w.heap.size w w' := by
  have E := Lib.hid (show iv (GrI.guess 23 x 0) = .agg #[.int .i64 23, .int .i64 (x % 32), .int .i64 (0), .int .i64 (0), .int .i64 (0), .int .i64 (0)] by simp [iv, GrI.guess, GrI.parts])
  have ep : GrI.parts 23 = 17 := rfl
  have h1 : GrI.hasB 17 1 = true := rfl
  have h2 : GrI.hasB 17 2 = false := rfl
  have h4 : GrI.hasB 17 4 = false := rfl
  go_enter Tryd.func28, Tryd.ntmps28
  go_wp2_with (first | (go_at_call 19; refine (parts_in 23 _ (by decide) (by decide)).mono ?_; rintro e w1 ⟨rfl, rfl⟩) | (go_at_call 21; refine (has_any _ _ _ (by decide) (by decide) (by decide)).mono ?_; rintro e w1 ⟨rfl, rfl⟩) | (go_at_call 34; refine (sign_any _ _ _ (by omega) (by omega) (by decide)).mono ?_; rintro e w1 ⟨rfl, rfl⟩))
  refine bodyPost_ret (v := .agg #[.int .i64 23, .int .i64 (x % 32), .int .i64 (0), .int .i64 (0), .int .i64 (0), .int .i64 (0)]) (by simp [results, Tryd.results28, go_sem, *]) rfl ⟨ret_v (by rw [E.out]), ?_⟩
  repeat' (first | exact ((Below.refl _ _).alloc (Nat.le_refl _) _).alloc (by simp) _ | (with_reducible refine Below.setCell ?_ ?_ _) | (simp; done) | (simp; omega))

theorem pguess_any (op x : Int) (w : World) (x0 : 0 ≤ x) (x1 : x < 4294967296) (o0 : 1 ≤ op) (o1 : op ≤ 23) :
    Calls Tryd.prog 28 #[.int .i64 op, .int .i64 x] w fun e w' => e = .returned (iv (GrI.guess op x 0)) ∧ Below w.heap.size w w' := by
  have ho : op = 1 ∨ op = 2 ∨ op = 3 ∨ op = 4 ∨ op = 5 ∨ op = 6 ∨ op = 7 ∨ op = 8 ∨ op = 9 ∨ op = 10 ∨ op = 11 ∨ op = 12 ∨ op = 13 ∨ op = 14 ∨ op = 15 ∨ op = 16 ∨ op = 17 ∨ op = 18 ∨ op = 19 ∨ op = 20 ∨ op = 21 ∨ op = 22 ∨ op = 23 := by omega
  rcases ho with rfl | rfl | rfl | rfl | rfl | rfl | rfl | rfl | rfl | rfl | rfl | rfl | rfl | rfl | rfl | rfl | rfl | rfl | rfl | rfl | rfl | rfl | rfl
  · exact pguess_1 x w x0 x1
  · exact pguess_2 x w x0 x1
  · exact pguess_3 x w x0 x1
  · exact pguess_4 x w x0 x1
  · exact pguess_5 x w x0 x1
  · exact pguess_6 x w x0 x1
  · exact pguess_7 x w x0 x1
  · exact pguess_8 x w x0 x1
  · exact pguess_9 x w x0 x1
  · exact pguess_10 x w x0 x1
  · exact pguess_11 x w x0 x1
  · exact pguess_12 x w x0 x1
  · exact pguess_13 x w x0 x1
  · exact pguess_14 x w x0 x1
  · exact pguess_15 x w x0 x1
  · exact pguess_16 x w x0 x1
  · exact pguess_17 x w x0 x1
  · exact pguess_18 x w x0 x1
  · exact pguess_19 x w x0 x1
  · exact pguess_20 x w x0 x1
  · exact pguess_21 x w x0 x1
  · exact pguess_22 x w x0 x1
  · exact pguess_23 x w x0 x1
end Go.Proofs.YtnehdgapcgbdeaaDoor
