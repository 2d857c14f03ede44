/-
  Layer 3, the code's walks: width, named.
-/
import Derived.Test.YtebpmngllljkaaaDoorJc
import Derived.Test.YtebpmngllljkaaaDoorIr
set_option linter.unusedSimpArgs false
set_option linter.unusedVariables false
namespace Go.Proofs.YtebpmngllljkaaaDoor
open Go.RowKit

theorem ret_t {a b : Int} (h : a = b) : Ending.returned (.tuple #[.int .u32 a, .int .i64 0]) = .returned (.tuple #[.int .u32 b, .int .i64 0]) := by rw [h]

set_option maxHeartbeats 800000 in
theorem width_any (wd : Int) (d n m : Bool) (i a b k ka W : Int) (w : World) (h : (i = 12 ∧ W = 12) ∨ (i = 16 ∧ W = 16) ∨ (i = -26 ∧ W = 26) ∨ (i = -19 ∧ W = 19)) :
    Calls Tryd.prog 43 #[.agg #[.int .u32 wd, .bool d, .bool n, .bool m, .int .i64 i, .int .i64 a, .int .i64 b, .int .i64 k, .int .i64 ka]] w fun e w' => e = .returned (.int .i64 W) ∧ Below w.heap.size w w' := by
  rcases h with ⟨rfl, rfl⟩ | ⟨rfl, rfl⟩ | ⟨rfl, rfl⟩ | ⟨rfl, rfl⟩
  all_goals
    go_enter Tryd.func43, Tryd.ntmps43
    go_wp2
    go_ret
    exact ⟨rfl, ((Below.refl _ _).alloc (Nat.le_refl _) _)⟩

set_option maxHeartbeats 1600000 in
theorem named_no (op d n m imm kind : Int) (w : World) (h1 : (op == 21) = false) (h2 : (op == 23) = false) :
    Calls Tryd.prog 44 #[.agg #[.int .i64 op, .int .i64 d, .int .i64 n, .int .i64 m, .int .i64 imm, .int .i64 kind]] w fun e w' => e = .returned (.tuple #[.int .u32 0, .bool false]) ∧ Below w.heap.size w w' := by
  go_enter Tryd.func44, Tryd.ntmps44
  go_wp2
  go_ret2
  exact ⟨rfl, ((Below.refl _ _).alloc (Nat.le_refl _) _)⟩

set_option maxHeartbeats 3200000 in
theorem named_tlbi (d n m imm kind v : Int) (w : World) (h : (kind = 0 ∧ v = 0) ∨ (kind = 1 ∧ v = 32) ∨ (kind = 2 ∧ v = 96) ∨ (kind = 3 ∧ v = 64) ∨ (kind = 4 ∧ v = 1024) ∨ (kind = 5 ∧ v = 1056) ∨ (kind = 6 ∧ v = 1120) ∨ (kind = 7 ∧ v = 1088)) :
    Calls Tryd.prog 44 #[.agg #[.int .i64 21, .int .i64 d, .int .i64 n, .int .i64 m, .int .i64 imm, .int .i64 kind]] w fun e w' => e = .returned (.tuple #[.int .u32 v, .bool true]) ∧ Below w.heap.size w w' := by
  have i0 : ∀ w, (Instr.index 81 (.agg #[.int .u32 0, .int .u32 32, .int .u32 96, .int .u32 64]) (.int .i64 0)).run Tryd.prog w = .ok (.int .u32 0) w := fun _ => by kernel_rfl
  have i1 : ∀ w, (Instr.index 81 (.agg #[.int .u32 0, .int .u32 32, .int .u32 96, .int .u32 64]) (.int .i64 1)).run Tryd.prog w = .ok (.int .u32 32) w := fun _ => by kernel_rfl
  have i2 : ∀ w, (Instr.index 81 (.agg #[.int .u32 0, .int .u32 32, .int .u32 96, .int .u32 64]) (.int .i64 2)).run Tryd.prog w = .ok (.int .u32 96) w := fun _ => by kernel_rfl
  have i3 : ∀ w, (Instr.index 81 (.agg #[.int .u32 0, .int .u32 32, .int .u32 96, .int .u32 64]) (.int .i64 3)).run Tryd.prog w = .ok (.int .u32 64) w := fun _ => by kernel_rfl
  rcases h with ⟨rfl, rfl⟩ | ⟨rfl, rfl⟩ | ⟨rfl, rfl⟩ | ⟨rfl, rfl⟩ | ⟨rfl, rfl⟩ | ⟨rfl, rfl⟩ | ⟨rfl, rfl⟩ | ⟨rfl, rfl⟩
  all_goals
    go_enter Tryd.func44, Tryd.ntmps44
    go_wp2
    go_ret2
    exact ⟨rfl, ((Below.refl _ _).alloc (Nat.le_refl _) _)⟩

set_option maxHeartbeats 3200000 in
theorem named_mrs (d n m imm kind v : Int) (w : World) (h : (kind = 0 ∧ v = 20992) ∨ (kind = 1 ∧ v = 24576) ∨ (kind = 2 ∧ v = 16416)) :
    Calls Tryd.prog 44 #[.agg #[.int .i64 23, .int .i64 d, .int .i64 n, .int .i64 m, .int .i64 imm, .int .i64 kind]] w fun e w' => e = .returned (.tuple #[.int .u32 v, .bool true]) ∧ Below w.heap.size w w' := by
  have i0 : ∀ w, (Instr.index 82 (.agg #[.int .u32 20992, .int .u32 24576, .int .u32 16416]) (.int .i64 0)).run Tryd.prog w = .ok (.int .u32 20992) w := fun _ => by kernel_rfl
  have i1 : ∀ w, (Instr.index 82 (.agg #[.int .u32 20992, .int .u32 24576, .int .u32 16416]) (.int .i64 1)).run Tryd.prog w = .ok (.int .u32 24576) w := fun _ => by kernel_rfl
  have i2 : ∀ w, (Instr.index 82 (.agg #[.int .u32 20992, .int .u32 24576, .int .u32 16416]) (.int .i64 2)).run Tryd.prog w = .ok (.int .u32 16416) w := fun _ => by kernel_rfl
  rcases h with ⟨rfl, rfl⟩ | ⟨rfl, rfl⟩ | ⟨rfl, rfl⟩
  all_goals
    go_enter Tryd.func44, Tryd.ntmps44
    go_wp2
    go_ret2
    exact ⟨rfl, ((Below.refl _ _).alloc (Nat.le_refl _) _)⟩
end Go.Proofs.YtebpmngllljkaaaDoor
