/-
  Layer 4, the laws: the page's Print: its tables.
-/
import Derived.Test.YtebpmngllljkaaaDoorV6
import Derived.Test.YtebpmngllljkaaaDoorMl
set_option linter.unusedSimpArgs false
set_option linter.unusedVariables false
namespace Go.Proofs.YtebpmngllljkaaaDoor
open Go.RowKit GrP GrA

theorem letter (a b : ByteArray) (x y m : Nat) (ha : a.size = x) (hb : b.size = y) (hm : x + y ≤ m) (h : m ≤ 1000000) : ∃ c : ByteArray, ∃ z : Nat, a ++ b = c ∧ c = a ++ b ∧ c.size = z ∧ z ≤ m ∧ ¬ 9223372036854775807 < x + y :=
  ⟨_, _, rfl, rfl, rfl, by rw [ByteArray.size_append]; omega, by omega⟩
theorem rnum_any (n : Int) (w : World) (h0 : -9223372036854775808 ≤ n) (h1 : n ≤ 9223372036854775807) : Calls Tryd.prog 26 #[.int .i64 n] w fun e w' => e = .returned (.string (strL (num n))) ∧ Below w.heap.size w w' := rint_any n w h0 h1

set_option maxRecDepth 100000 in
set_option maxHeartbeats 6400000 in
theorem rnames_any (op : Int) (h0 : 1 ≤ op ∧ op ≠ 6 ∧ op ≠ 17) (h1 : op ≤ 23) (w : World) : Calls Tryd.prog 27 #[.int .i64 op] w fun e w' => e = .returned (.string (strL (at! names op))) ∧ Below w.heap.size w w' := by
  have ho : op = 1 ∨ op = 2 ∨ op = 3 ∨ op = 4 ∨ op = 5 ∨ op = 7 ∨ op = 8 ∨ op = 9 ∨ op = 10 ∨ op = 11 ∨ op = 12 ∨ op = 13 ∨ op = 14 ∨ op = 15 ∨ op = 16 ∨ op = 18 ∨ op = 19 ∨ op = 20 ∨ op = 21 ∨ op = 22 ∨ op = 23 := by omega
  rcases ho with rfl | rfl | rfl | rfl | rfl | rfl | rfl | rfl | rfl | rfl | rfl | rfl | rfl | rfl | rfl | rfl | rfl | rfl | rfl | rfl | rfl
  all_goals
    go_enter Tryd.func27, Tryd.ntmps27
    go_wp2
    go_ret
    exact ⟨rfl, (Below.refl _ _).alloc (Nat.le_refl _) _⟩

set_option maxRecDepth 100000 in
set_option maxHeartbeats 6400000 in
theorem rnames_none (op : Int) (h : op = 6 ∨ op = 17) (w : World) : Calls Tryd.prog 27 #[.int .i64 op] w fun e w' => e = .returned (.string (strL [])) ∧ Below w.heap.size w w' := by
  rcases h with rfl | rfl
  all_goals
    go_enter Tryd.func27, Tryd.ntmps27
    go_wp2
    go_ret
    exact ⟨rfl, (Below.refl _ _).alloc (Nat.le_refl _) _⟩

set_option maxRecDepth 100000 in
set_option maxHeartbeats 6400000 in
theorem rbarrier_any (k : Int) (h : k = 9 ∨ k = 10 ∨ k = 11 ∨ k = 13 ∨ k = 14 ∨ k = 15) (w : World) : Calls Tryd.prog 28 #[.int .i64 k] w fun e w' => e = .returned (.string (strL (at! bars k))) ∧ Below w.heap.size w w' := by
  rcases h with rfl | rfl | rfl | rfl | rfl | rfl
  all_goals
    go_enter Tryd.func28, Tryd.ntmps28
    go_wp2
    go_ret
    exact ⟨rfl, (Below.refl _ _).alloc (Nat.le_refl _) _⟩

set_option maxRecDepth 100000 in
set_option maxHeartbeats 6400000 in
theorem rflush_any (k : Int) (h : k = 0 ∨ k = 1 ∨ k = 2 ∨ k = 3 ∨ k = 4 ∨ k = 5 ∨ k = 6 ∨ k = 7) (w : World) : Calls Tryd.prog 29 #[.int .i64 k] w fun e w' => e = .returned (.string (strL (at! flushes k))) ∧ Below w.heap.size w w' := by
  rcases h with rfl | rfl | rfl | rfl | rfl | rfl | rfl | rfl
  all_goals
    go_enter Tryd.func29, Tryd.ntmps29
    go_wp2
    go_ret
    exact ⟨rfl, (Below.refl _ _).alloc (Nat.le_refl _) _⟩
end Go.Proofs.YtebpmngllljkaaaDoor
