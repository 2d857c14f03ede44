/-
  Layer 3, the walks: the page's own Right: Parts, in, has.
-/
import Derived.Test.YtnehdgapcgbdeaaProg
import Derived.Test.YtnehdgapcgbdeaaIm
import Derived.Test.YtnehdgapcgbdeaaBq
set_option linter.unusedSimpArgs false
set_option linter.unusedVariables false
namespace GrI
/-- is a number from one up to another one? -/
def inB (n lo hi : Int) : Bool := decide (lo ≤ n) && decide (n ≤ hi)
theorem inB_of {n lo hi : Int} (h : inB n lo hi = true) : lo ≤ n ∧ n ≤ hi := by simpa [inB] using h
def hasB (p one : Int) : Bool := (p / one % 2 == 1)
end GrI
namespace Go.Proofs.Ytnehdgapcgbdeaa
open Go.RowKit

theorem ret_b {a b : Bool} (h : a = b) : Ending.returned (.bool a) = .returned (.bool b) := by rw [h]

set_option maxHeartbeats 400000 in
theorem in_any (n lo hi : Int) (w : World) :
    Calls Try.prog 35 #[.int .i64 n, .int .i64 lo, .int .i64 hi] w fun e w' => e = .returned (.bool (GrI.inB n lo hi)) ∧ w = w' := by
  have E := Lib.hid (show GrI.inB n lo hi = (decide (lo ≤ n) && decide (n ≤ hi)) from rfl)
  by_cases h : lo ≤ n
  · have h1 : decide (lo ≤ n) = true := by simpa using h
    have E1 := Lib.hid (show GrI.inB n lo hi = decide (n ≤ hi) by rw [E.out, h1]; rfl)
    clear h E
    go_enter Try.func35, Try.ntmps35
    go_wp2
    go_ret
    exact ⟨ret_b E1.out.symm, rfl⟩
  · have h1 : decide (lo ≤ n) = false := by simpa using h
    have E1 := Lib.hid (show GrI.inB n lo hi = false by rw [E.out, h1]; rfl)
    clear h E
    go_enter Try.func35, Try.ntmps35
    go_wp2
    go_ret
    exact ⟨ret_b E1.out.symm, rfl⟩

set_option maxHeartbeats 400000 in
theorem has_any (p one : Int) (w : World) (h0 : 0 ≤ p) (h1 : p ≤ 25) (h2 : one = 1 ∨ one = 2 ∨ one = 4 ∨ one = 8 ∨ one = 16) :
    Calls Try.prog 36 #[.int .i64 p, .int .i64 one] w fun e w' => e = .returned (.bool (GrI.hasB p one)) ∧ w = w' := by
  have E := Lib.hid (show GrI.hasB p one = (p / one % 2 == 1) from rfl)
  rcases h2 with rfl | rfl | rfl | rfl | rfl
  all_goals
    go_enter Try.func36, Try.ntmps36
    go_wp2
    go_ret
    exact ⟨ret_b (by rw [E.out]; try simp), rfl⟩

set_option maxHeartbeats 3200000 in
theorem parts_in (op : Int) (w : World) (h : 1 ≤ op) (h2 : op ≤ 23) :
    Calls Try.prog 34 #[.int .i64 op] w fun e w' => e = .returned (.int .i64 (GrI.parts op)) ∧ w = w' := by
  have ho : op = 1 ∨ op = 2 ∨ op = 3 ∨ op = 4 ∨ op = 5 ∨ op = 6 ∨ op = 7 ∨ op = 8 ∨ op = 9 ∨ op = 10 ∨ op = 11 ∨ op = 12 ∨ op = 13 ∨ op = 14 ∨ op = 15 ∨ op = 16 ∨ op = 17 ∨ op = 18 ∨ op = 19 ∨ op = 20 ∨ op = 21 ∨ op = 22 ∨ op = 23 := by omega
  clear h h2
  rcases ho with rfl | rfl | rfl | rfl | rfl | rfl | rfl | rfl | rfl | rfl | rfl | rfl | rfl | rfl | rfl | rfl | rfl | rfl | rfl | rfl | rfl | rfl | rfl
  all_goals
    go_enter Try.func34, Try.ntmps34
    go_wp2
    go_ret
    exact ⟨rfl, rfl⟩

set_option maxHeartbeats 1600000 in
theorem parts_out (op : Int) (w : World) (h : op < 1 ∨ 23 < op) :
    Calls Try.prog 34 #[.int .i64 op] w fun e w' => e = .returned (.int .i64 (-1)) ∧ w = w' := by
  have n1 : (op == 1) = false := by simp; omega
  have n2 : (op == 2) = false := by simp; omega
  have n3 : (op == 3) = false := by simp; omega
  have n4 : (op == 4) = false := by simp; omega
  have n5 : (op == 5) = false := by simp; omega
  have n6 : (op == 6) = false := by simp; omega
  have n7 : (op == 7) = false := by simp; omega
  have n8 : (op == 8) = false := by simp; omega
  have n9 : (op == 9) = false := by simp; omega
  have n10 : (op == 10) = false := by simp; omega
  have n11 : (op == 11) = false := by simp; omega
  have n12 : (op == 12) = false := by simp; omega
  have n13 : (op == 13) = false := by simp; omega
  have n14 : (op == 14) = false := by simp; omega
  have n15 : (op == 15) = false := by simp; omega
  have n16 : (op == 16) = false := by simp; omega
  have n17 : (op == 17) = false := by simp; omega
  have n18 : (op == 18) = false := by simp; omega
  have n19 : (op == 19) = false := by simp; omega
  have n20 : (op == 20) = false := by simp; omega
  have n21 : (op == 21) = false := by simp; omega
  have n22 : (op == 22) = false := by simp; omega
  have n23 : (op == 23) = false := by simp; omega
  clear h
  go_enter Try.func34, Try.ntmps34
  go_wp2
  go_ret
  exact ⟨rfl, rfl⟩
end Go.Proofs.Ytnehdgapcgbdeaa
