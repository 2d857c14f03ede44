/-
  Layer 7, the walks: the page's own Right, Word, Address.
-/
import Derived.Test.YtjmkkidlaebpmaaDg
import Derived.Deep.Light
set_option linter.unusedSimpArgs false
set_option linter.unusedVariables false
namespace Go.Proofs.Ytjmkkidlaebpmaa
open Go.RowKit

theorem ret_bool' {a b : Bool} (h : a = b) : Ending.returned (.bool a) = .returned (.bool b) := by rw [h]

/-! ### Address -/
set_option maxHeartbeats 1600000 in
theorem raddress_any (d : GrD.D) (l va : Int) (w : World) (h0 : 0 ≤ d.out) (h1 : d.out < 18446744073709551616) (a0 : 0 ≤ va) (a1 : va < 18446744073709551616) :
    Calls Try.prog 59 #[dv d, .int .i64 l, .int .u64 va] w fun e w' => e = .returned (.int .u64 (GrD.address d l va)) ∧ Below w.heap.size w w' := by
  obtain ⟨v, t, o, u, r, s, q⟩ := d
  simp only at h0 h1
  have E := Lib.hid (show GrD.address ⟨v, t, o, u, r, s, q⟩ l va = if l = 1 ∧ t = false then o - o % 2097152 + va % 2097152 else o - o % 4096 + va % 4096 from rfl)
  unfold dv
  by_cases c1 : l = 1
  · subst c1
    cases t
    all_goals
      go_enter Try.func59, Try.ntmps59
      go_wp2_with fail
      go_quiet (fail)
      go_wp2
      go_ret
      refine ⟨ret_u64 (by rw [E.out]; simp [IntKind.wrap_u64]; try omega), ?_⟩
      exact (((Below.refl _ _).alloc (Nat.le_refl _) _).trans ((Drew.refl _).drewN _ |>.below _))
  · have n1 : (l == 1) = false := by simpa using c1
    have E2 := Lib.hid (show GrD.address ⟨v, t, o, u, r, s, q⟩ l va = o - o % 4096 + va % 4096 by rw [E.out, if_neg (by simp [c1])])
    clear c1 E
    go_enter Try.func59, Try.ntmps59
    go_wp2_with fail
    go_quiet (fail)
    go_wp2
    go_ret
    refine ⟨ret_u64 (by rw [E2.out]; try simp [IntKind.wrap_u64]; try omega), ?_⟩
    exact (((Below.refl _ _).alloc (Nat.le_refl _) _).trans ((Drew.refl _).drewN _ |>.below _))
end Go.Proofs.Ytjmkkidlaebpmaa
