/-
  Layer 7, the walks: Allowed, Kept.
-/
import Derived.Test.YteiokenijmaloaaDw
set_option linter.unusedSimpArgs false
set_option linter.unusedVariables false
namespace Go.Proofs.Yteiokenijmaloaa
open Go.RowKit

set_option maxHeartbeats 800000 in
theorem kept_any (d : GrD.D) (w : World) :
    Calls Try.prog 37 #[dv d] w fun e w' => e = .returned (.bool (d.valid && d.used && !d.table)) ∧ (w.alloc (.cells #[.bool d.valid, .bool d.table, .int .u64 d.out, .bool d.used, .bool d.ro, .bool d.user, .bool d.own] 66)) = w' := by
  obtain ⟨v, t, o, u, r, s, q⟩ := d
  unfold dv
  cases v with
  | false =>
    go_enter Try.func37, Try.ntmps37
    go_wp2
    go_ret
    exact ⟨rfl, rfl⟩
  | true =>
    cases u with
    | false =>
      go_enter Try.func37, Try.ntmps37
      go_wp2
      go_ret
      exact ⟨rfl, rfl⟩
    | true =>
      go_enter Try.func37, Try.ntmps37
      go_wp2
      go_ret
      exact ⟨ret_bool (by simp), rfl⟩
end Go.Proofs.Yteiokenijmaloaa
