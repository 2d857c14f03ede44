/-
  Layer 7, the walks: Allowed, Kept.
-/
import Derived.Test.YtnpgpbcpgniloaaDw
set_option linter.unusedSimpArgs false
set_option linter.unusedVariables false
namespace Go.Proofs.Ytnpgpbcpgniloaa
open Go.RowKit

set_option maxHeartbeats 800000 in
theorem allowed_any (d : GrD.D) (b : Bool) (w : World) :
    Calls Try.prog 64 #[dv d, .bool b] w fun e w' => e = .returned (.int .i64 (GrD.allowed d b)) ∧ (w.alloc (.cells #[.bool d.valid, .bool d.table, .int .u64 d.out, .bool d.used, .bool d.ro, .bool d.user, .bool d.own] 118)) = w' := by
  obtain ⟨v, t, o, u, r, s, q⟩ := d
  unfold dv
  cases v with
  | false =>
    go_enter Try.func64, Try.ntmps64
    go_wp2
    go_ret
    exact ⟨rfl, rfl⟩
  | true =>
    cases u with
    | false =>
      go_enter Try.func64, Try.ntmps64
      go_wp2
      go_ret
      exact ⟨rfl, rfl⟩
    | true =>
      cases b with
      | false =>
        go_enter Try.func64, Try.ntmps64
        go_wp2
        go_ret
        exact ⟨rfl, rfl⟩
      | true =>
        cases r with
        | false =>
          go_enter Try.func64, Try.ntmps64
          go_wp2
          go_ret
          exact ⟨rfl, rfl⟩
        | true =>
          go_enter Try.func64, Try.ntmps64
          go_wp2
          go_ret
          exact ⟨rfl, rfl⟩

end Go.Proofs.Ytnpgpbcpgniloaa