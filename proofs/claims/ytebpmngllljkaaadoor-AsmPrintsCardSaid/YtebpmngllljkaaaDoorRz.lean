/-
  Layer 3, the walks: the page's own Right, whole.
-/
import Derived.Test.YtebpmngllljkaaaDoorRb
import Derived.Test.YtebpmngllljkaaaDoorRd
set_option linter.unusedSimpArgs false
set_option linter.unusedVariables false
namespace Go.Proofs.YtebpmngllljkaaaDoor
open Go.RowKit

set_option maxHeartbeats 1600000 in
theorem rright_out (op d n m imm kind : Int) (w : World) (h : op < 1 ∨ 23 < op) :
    Calls Tryd.prog 12 #[.agg #[.int .i64 op, .int .i64 d, .int .i64 n, .int .i64 m, .int .i64 imm, .int .i64 kind]] w fun e w' => e = .returned (.bool (decide (GrI.right ⟨op, d, n, m, imm, kind⟩))) ∧ w.alloc (.cells #[.int .i64 op, .int .i64 d, .int .i64 n, .int .i64 m, .int .i64 imm, .int .i64 kind] 23) = w' := by
  have hn : ¬ GrI.right ⟨op, d, n, m, imm, kind⟩ := by
    intro hr
    have h1 := hr.1
    have h2 := hr.2.1
    simp only at h1 h2
    omega
  have E := Lib.hid (show decide (GrI.right ⟨op, d, n, m, imm, kind⟩) = false by simpa using hn)
  clear hn
  have PO := Lib.hid (fun w => parts_out op w h)
  clear h
  go_enter Tryd.func12, Tryd.ntmps12
  go_wp2_with fail
  refine (PO.out _).mono ?_
  rintro e w1 ⟨rfl, rfl⟩
  go_wp2
  go_ret
  exact ⟨ret_b (by rw [E.out]), rfl⟩


theorem irright_any (x : GrI.I) (w : World) :
    Calls Tryd.prog 12 #[iv x] w fun e w' => e = .returned (.bool (decide (GrI.right x))) ∧ w.alloc (ibox x) = w' := by
  obtain ⟨op, d, n, m, imm, kind⟩ := x
  by_cases h : op < 1 ∨ 23 < op
  · exact rright_out op d n m imm kind w h
  · have ho : op = 1 ∨ op = 2 ∨ op = 3 ∨ op = 4 ∨ op = 5 ∨ op = 6 ∨ op = 7 ∨ op = 8 ∨ op = 9 ∨ op = 10 ∨ op = 11 ∨ op = 12 ∨ op = 13 ∨ op = 14 ∨ op = 15 ∨ op = 16 ∨ op = 17 ∨ op = 18 ∨ op = 19 ∨ op = 20 ∨ op = 21 ∨ op = 22 ∨ op = 23 := by omega
    rcases ho with rfl | rfl | rfl | rfl | rfl | rfl | rfl | rfl | rfl | rfl | rfl | rfl | rfl | rfl | rfl | rfl | rfl | rfl | rfl | rfl | rfl | rfl | rfl
    · exact rright_1 d n m imm kind w
    · exact rright_2 d n m imm kind w
    · exact rright_3 d n m imm kind w
    · exact rright_4 d n m imm kind w
    · exact rright_5 d n m imm kind w
    · exact rright_6 d n m imm kind w
    · exact rright_7 d n m imm kind w
    · exact rright_8 d n m imm kind w
    · exact rright_9 d n m imm kind w
    · exact rright_10 d n m imm kind w
    · exact rright_11 d n m imm kind w
    · exact rright_12 d n m imm kind w
    · exact rright_13 d n m imm kind w
    · exact rright_14 d n m imm kind w
    · exact rright_15 d n m imm kind w
    · exact rright_16 d n m imm kind w
    · exact rright_17 d n m imm kind w
    · exact rright_18 d n m imm kind w
    · exact rright_19 d n m imm kind w
    · exact rright_20 d n m imm kind w
    · exact rright_21 d n m imm kind w
    · exact rright_22 d n m imm kind w
    · exact rright_23 d n m imm kind w
end Go.Proofs.YtebpmngllljkaaaDoor
