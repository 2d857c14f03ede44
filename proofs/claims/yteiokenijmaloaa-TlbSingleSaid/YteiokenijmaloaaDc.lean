/-
  Layer 7, the walks: low, Check.
-/
import Derived.Test.YteiokenijmaloaaDw
set_option linter.unusedSimpArgs false
set_option linter.unusedVariables false
namespace Go.Proofs.Yteiokenijmaloaa
open Go.RowKit

theorem ret_i64' {a b : Int} (h : a = b) : Ending.returned (.int .i64 a) = .returned (.int .i64 b) := by rw [h]

set_option maxHeartbeats 800000 in
theorem low_any (v t : Bool) (o : Int) (u r s q : Bool) (l : Int) (w : World) :
    Calls Try.prog 59 #[.agg #[.bool v, .bool t, .int .u64 o, .bool u, .bool r, .bool s, .bool q], .int .i64 l] w fun e w' => e = .returned (.int .i64 (GrD.low t l)) ∧ w.alloc (.cells #[.bool v, .bool t, .int .u64 o, .bool u, .bool r, .bool s, .bool q] 66) = w' := by
  by_cases h1 : l = 1
  · subst h1
    cases t with
    | false =>
      go_enter Try.func59, Try.ntmps59
      go_wp2
      go_ret
      exact ⟨rfl, rfl⟩
    | true =>
      go_enter Try.func59, Try.ntmps59
      go_wp2
      go_ret
      exact ⟨rfl, rfl⟩
  · have n1 : (l == 1) = false := by simpa using h1
    have E := Lib.hid (show (12 : Int) = GrD.low t l by rw [GrD.low, if_neg (by simp [h1])])
    clear h1
    go_enter Try.func59, Try.ntmps59
    go_wp2
    go_ret
    exact ⟨ret_i64' E.out, rfl⟩

end Go.Proofs.Yteiokenijmaloaa