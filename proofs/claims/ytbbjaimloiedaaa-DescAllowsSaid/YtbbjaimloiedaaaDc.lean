/-
  Layer 7, the walks: low, Check.
-/
import Derived.Test.YtbbjaimloiedaaaDw
namespace Go.Proofs.Ytbbjaimloiedaaa
open Go.RowKit

theorem ret_i64' {a b : Int} (h : a = b) : Ending.returned (.int .i64 a) = .returned (.int .i64 b) := by rw [h]

set_option maxHeartbeats 800000 in
theorem low_any (v t : Bool) (o : Int) (u r s q : Bool) (l : Int) (w : World) :
    Calls Try.prog 47 #[.agg #[.bool v, .bool t, .int .u64 o, .bool u, .bool r, .bool s, .bool q], .int .i64 l] w fun e w' => e = .returned (.int .i64 (GrD.low t l)) ∧ w.alloc (.cells #[.bool v, .bool t, .int .u64 o, .bool u, .bool r, .bool s, .bool q] 25) = w' := by
  by_cases h1 : l = 1
  · subst h1
    cases t with
    | false =>
      go_enter Try.func47, Try.ntmps47
      go_wp2
      go_ret
      exact ⟨rfl, rfl⟩
    | true =>
      go_enter Try.func47, Try.ntmps47
      go_wp2
      go_ret
      exact ⟨rfl, rfl⟩
  · have n1 : (l == 1) = false := by simpa using h1
    have E := Lib.hid (show (12 : Int) = GrD.low t l by rw [GrD.low, if_neg (by simp [h1])])
    clear h1
    go_enter Try.func47, Try.ntmps47
    go_wp2
    go_ret
    exact ⟨ret_i64' E.out, rfl⟩

set_option maxHeartbeats 800000 in
theorem check_zero (l : Int) (w : World) :
    Calls Try.prog 17 #[dv GrD.zero, .int .i64 l] w fun e w' => e = .returned (.int .i64 0) ∧ Below w.heap.size w w' := by
  unfold dv GrD.zero
  go_enter Try.func17, Try.ntmps17
  go_wp2
  go_ret
  exact ⟨rfl, (Below.refl _ _).alloc (Nat.le_refl _) _⟩

set_option maxHeartbeats 800000 in
theorem check_v0 (t : Bool) (o : Int) (u r s q : Bool) (l : Int) (w : World) (hz : GrD.isZero ⟨false, t, o, u, r, s, q⟩ = false) :
    Calls Try.prog 17 #[dv ⟨false, t, o, u, r, s, q⟩, .int .i64 l] w fun e w' => e = .returned (.int .i64 70) ∧ Below w.heap.size w w' := by
  have HZ := Lib.hid hz
  clear hz
  unfold dv
  go_enter Try.func17, Try.ntmps17
  go_wp2
  all_goals first
    | (go_ret; exact ⟨rfl, (Below.refl _ _).alloc (Nat.le_refl _) _⟩)
    | (exfalso; have h := HZ.out; simp_all [GrD.isZero]; done)

set_option maxHeartbeats 800000 in
theorem check_level (t : Bool) (o : Int) (u r s q : Bool) (l : Int) (w : World) (n1 : (l != 1) = true) (n2 : (l != 2) = true) :
    Calls Try.prog 17 #[dv ⟨true, t, o, u, r, s, q⟩, .int .i64 l] w fun e w' => e = .returned (.int .i64 70) ∧ Below w.heap.size w w' := by
  unfold dv
  go_enter Try.func17, Try.ntmps17
  go_wp2
  go_ret
  exact ⟨rfl, (Below.refl _ _).alloc (Nat.le_refl _) _⟩

set_option maxHeartbeats 800000 in
theorem check_t2 (o : Int) (u r s q : Bool) (w : World) :
    Calls Try.prog 17 #[dv ⟨true, true, o, u, r, s, q⟩, .int .i64 2] w fun e w' => e = .returned (.int .i64 70) ∧ Below w.heap.size w w' := by
  unfold dv
  go_enter Try.func17, Try.ntmps17
  go_wp2
  go_ret
  exact ⟨rfl, (Below.refl _ _).alloc (Nat.le_refl _) _⟩

set_option maxHeartbeats 800000 in
theorem check_t1m (o : Int) (u r s q : Bool) (w : World) (hm : (u || r || s || q) = true) :
    Calls Try.prog 17 #[dv ⟨true, true, o, u, r, s, q⟩, .int .i64 1] w fun e w' => e = .returned (.int .i64 70) ∧ Below w.heap.size w w' := by
  unfold dv
  cases u with
  | true =>
    go_enter Try.func17, Try.ntmps17
    go_wp2
    go_ret
    exact ⟨rfl, (Below.refl _ _).alloc (Nat.le_refl _) _⟩
  | false =>
    cases r with
    | true =>
      go_enter Try.func17, Try.ntmps17
      go_wp2
      go_ret
      exact ⟨rfl, (Below.refl _ _).alloc (Nat.le_refl _) _⟩
    | false =>
      cases s with
      | true =>
        go_enter Try.func17, Try.ntmps17
        go_wp2
        go_ret
        exact ⟨rfl, (Below.refl _ _).alloc (Nat.le_refl _) _⟩
      | false =>
        cases q with
        | true =>
          go_enter Try.func17, Try.ntmps17
          go_wp2
          go_ret
          exact ⟨rfl, (Below.refl _ _).alloc (Nat.le_refl _) _⟩
        | false => cases hm

set_option maxHeartbeats 800000 in
theorem check_big (t : Bool) (o : Int) (u r s q : Bool) (l : Int) (w : World) (hl : l = 1 ∨ l = 2) (ht : t = true → l = 1 ∧ u = false ∧ r = false ∧ s = false ∧ q = false) (ho : (4294967296 : Int) ≤ o) :
    Calls Try.prog 17 #[dv ⟨true, t, o, u, r, s, q⟩, .int .i64 l] w fun e w' => e = .returned (.int .i64 70) ∧ Below w.heap.size w w' := by
  unfold dv
  cases t with
  | true =>
    obtain ⟨rfl, rfl, rfl, rfl, rfl⟩ := ht rfl
    clear hl ht
    go_enter Try.func17, Try.ntmps17
    go_wp2_with fail
    go_quiet (fail)
    go_wp2
    go_ret
    exact ⟨rfl, (((Below.refl _ _).alloc (Nat.le_refl _) _).trans ((Drew.refl _).drewN _ |>.below _))⟩
  | false =>
    clear ht
    rcases hl with rfl | rfl
    · go_enter Try.func17, Try.ntmps17
      go_wp2_with fail
      go_quiet (fail)
      go_wp2
      go_ret
      exact ⟨rfl, (((Below.refl _ _).alloc (Nat.le_refl _) _).trans ((Drew.refl _).drewN _ |>.below _))⟩
    · go_enter Try.func17, Try.ntmps17
      go_wp2_with fail
      go_quiet (fail)
      go_wp2
      go_ret
      exact ⟨rfl, (((Below.refl _ _).alloc (Nat.le_refl _) _).trans ((Drew.refl _).drewN _ |>.below _))⟩
end Go.Proofs.Ytbbjaimloiedaaa
