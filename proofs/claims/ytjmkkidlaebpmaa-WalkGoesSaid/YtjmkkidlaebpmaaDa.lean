/-
  Layer 7, the walks: Allowed, Kept.
-/
import Derived.Test.YtjmkkidlaebpmaaDw
set_option linter.unusedSimpArgs false
set_option linter.unusedVariables false
namespace Go.Proofs.Ytjmkkidlaebpmaa
open Go.RowKit

set_option maxHeartbeats 800000 in
theorem allowed_any (d : GrD.D) (b : Bool) (w : World) :
    Calls Try.prog 56 #[dv d, .bool b] w fun e w' => e = .returned (.int .i64 (GrD.allowed d b)) ∧ (w.alloc (.cells #[.bool d.valid, .bool d.table, .int .u64 d.out, .bool d.used, .bool d.ro, .bool d.user, .bool d.own] 46)) = w' := by
  obtain ⟨v, t, o, u, r, s, q⟩ := d
  unfold dv
  cases v with
  | false =>
    go_enter Try.func56, Try.ntmps56
    go_wp2
    go_ret
    exact ⟨rfl, rfl⟩
  | true =>
    cases u with
    | false =>
      go_enter Try.func56, Try.ntmps56
      go_wp2
      go_ret
      exact ⟨rfl, rfl⟩
    | true =>
      cases b with
      | false =>
        go_enter Try.func56, Try.ntmps56
        go_wp2
        go_ret
        exact ⟨rfl, rfl⟩
      | true =>
        cases r with
        | false =>
          go_enter Try.func56, Try.ntmps56
          go_wp2
          go_ret
          exact ⟨rfl, rfl⟩
        | true =>
          go_enter Try.func56, Try.ntmps56
          go_wp2
          go_ret
          exact ⟨rfl, rfl⟩

set_option maxHeartbeats 800000 in
theorem rallowed_any (d : GrD.D) (b : Bool) (w : World) :
    Calls Try.prog 58 #[dv d, .bool b] w fun e w' => e = .returned (.int .i64 (GrD.allowed d b)) ∧ (w.alloc (.cells #[.bool d.valid, .bool d.table, .int .u64 d.out, .bool d.used, .bool d.ro, .bool d.user, .bool d.own] 46)) = w' := by
  obtain ⟨v, t, o, u, r, s, q⟩ := d
  unfold dv
  cases v with
  | false =>
    go_enter Try.func58, Try.ntmps58
    go_wp2
    go_ret
    exact ⟨rfl, rfl⟩
  | true =>
    cases u with
    | false =>
      go_enter Try.func58, Try.ntmps58
      go_wp2
      go_ret
      exact ⟨rfl, rfl⟩
    | true =>
      cases b with
      | false =>
        go_enter Try.func58, Try.ntmps58
        go_wp2
        go_ret
        exact ⟨rfl, rfl⟩
      | true =>
        cases r with
        | false =>
          go_enter Try.func58, Try.ntmps58
          go_wp2
          go_ret
          exact ⟨rfl, rfl⟩
        | true =>
          go_enter Try.func58, Try.ntmps58
          go_wp2
          go_ret
          exact ⟨rfl, rfl⟩

set_option maxHeartbeats 800000 in
theorem kept_any (d : GrD.D) (w : World) :
    Calls Try.prog 84 #[dv d] w fun e w' => e = .returned (.bool (d.valid && d.used && !d.table)) ∧ (w.alloc (.cells #[.bool d.valid, .bool d.table, .int .u64 d.out, .bool d.used, .bool d.ro, .bool d.user, .bool d.own] 46)) = w' := by
  obtain ⟨v, t, o, u, r, s, q⟩ := d
  unfold dv
  cases v with
  | false =>
    go_enter Try.func84, Try.ntmps84
    go_wp2
    go_ret
    exact ⟨rfl, rfl⟩
  | true =>
    cases u with
    | false =>
      go_enter Try.func84, Try.ntmps84
      go_wp2
      go_ret
      exact ⟨rfl, rfl⟩
    | true =>
      go_enter Try.func84, Try.ntmps84
      go_wp2
      go_ret
      exact ⟨ret_bool (by simp), rfl⟩
end Go.Proofs.Ytjmkkidlaebpmaa
