/-
  Layer 7: the laws' walks.
-/
import Derived.Test.YtbbjaimloiedaaaDj
import Derived.Test.YtbbjaimloiedaaaDh
import Derived.Test.YtbbjaimloiedaaaDa
namespace Go.Proofs.Ytbbjaimloiedaaa
open Go.RowKit

theorem wbstep {w : World} {W w1 : World} (x : Wb W) (h : Below w.heap.size w W) : Below w.heap.size w x.at := h.trans (x.bel.mono h.size)

theorem allowed_below (v t : Bool) (o : Int) (u r s q b : Bool) (w : World) :
    Calls Try.prog 21 #[.agg #[.bool v, .bool t, .int .u64 o, .bool u, .bool r, .bool s, .bool q], .bool b] w fun e w' => e = .returned (.int .i64 (GrD.allowed ⟨v, t, o, u, r, s, q⟩ b)) ∧ Below w.heap.size w w' :=
  Calls.same_below (allowed_any ⟨v, t, o, u, r, s, q⟩ b w) ((Below.refl _ _).alloc (Nat.le_refl _) _)
theorem rallowed_below (v t : Bool) (o : Int) (u r s q b : Bool) (w : World) :
    Calls Try.prog 22 #[.agg #[.bool v, .bool t, .int .u64 o, .bool u, .bool r, .bool s, .bool q], .bool b] w fun e w' => e = .returned (.int .i64 (GrD.allowed ⟨v, t, o, u, r, s, q⟩ b)) ∧ Below w.heap.size w w' :=
  Calls.same_below (rallowed_any ⟨v, t, o, u, r, s, q⟩ b w) ((Below.refl _ _).alloc (Nat.le_refl _) _)
theorem kept_below (v t : Bool) (o : Int) (u r s q : Bool) (w : World) :
    Calls Try.prog 23 #[.agg #[.bool v, .bool t, .int .u64 o, .bool u, .bool r, .bool s, .bool q]] w fun e w' => e = .returned (.bool (v && u && !t)) ∧ Below w.heap.size w w' :=
  Calls.same_below (kept_any ⟨v, t, o, u, r, s, q⟩ w) ((Below.refl _ _).alloc (Nat.le_refl _) _)

set_option maxHeartbeats 3200000 in
theorem allows_walk (v t : Bool) (o : Int) (u r s q : Bool) (b : Bool) (w : World) :
    Calls Try.prog 7 #[dv ⟨v, t, o, u, r, s, q⟩, .bool b] w fun e w' => e = .returned (.bool true) ∧ Below w.heap.size w w' := by
  have al := fun w => allowed_below v t o u r s q b w
  have rl := fun w => rallowed_below v t o u r s q b w
  obtain ⟨A, hA⟩ : ∃ A, A = GrD.allowed ⟨v, t, o, u, r, s, q⟩ b := ⟨_, rfl⟩
  rw [← hA] at al rl
  have AL := Lib.hid al
  have RL := Lib.hid rl
  clear al rl hA
  have KP := Lib.hid (fun w => kept_below v t o u r s q w)
  obtain ⟨k0, k1, k2, k3, k4, k5, k6, kb⟩ := box7 w v t o u r s q _ rfl
  have KB := Lib.hid kb
  clear kb
  unfold dv
  cases v <;> cases u
  all_goals
    go_enter Try.func7, Try.ntmps7
    go_wp2_with fail
    refine (dawake_any _).mono ?_
    rintro e w1 ⟨rfl, d1⟩
    obtain ⟨x, rfl⟩ := Wb.start d1
    clear d1
    go_wp2_with fail
    refine wp_region_wb (by kernel_rfl) (by kernel_rfl) ?_
    have j0 : ∀ y : Wb x.at, y.at.cell? ⟨w.heap.size, 0, none⟩ = some (.bool _) := fun y => (y.cell _ (by have := x.size; simp at this; simp; omega)).trans (k0 x)
    have j1 : ∀ y : Wb x.at, y.at.cell? ⟨w.heap.size, 1, none⟩ = some (.bool _) := fun y => (y.cell _ (by have := x.size; simp at this; simp; omega)).trans (k1 x)
    have j2 : ∀ y : Wb x.at, y.at.cell? ⟨w.heap.size, 2, none⟩ = some (.int .u64 _) := fun y => (y.cell _ (by have := x.size; simp at this; simp; omega)).trans (k2 x)
    have j3 : ∀ y : Wb x.at, y.at.cell? ⟨w.heap.size, 3, none⟩ = some (.bool _) := fun y => (y.cell _ (by have := x.size; simp at this; simp; omega)).trans (k3 x)
    have j4 : ∀ y : Wb x.at, y.at.cell? ⟨w.heap.size, 4, none⟩ = some (.bool _) := fun y => (y.cell _ (by have := x.size; simp at this; simp; omega)).trans (k4 x)
    have j5 : ∀ y : Wb x.at, y.at.cell? ⟨w.heap.size, 5, none⟩ = some (.bool _) := fun y => (y.cell _ (by have := x.size; simp at this; simp; omega)).trans (k5 x)
    have j6 : ∀ y : Wb x.at, y.at.cell? ⟨w.heap.size, 6, none⟩ = some (.bool _) := fun y => (y.cell _ (by have := x.size; simp at this; simp; omega)).trans (k6 x)
    repeat (go_big_quiet_step (first | (go_at_call 21; exact Calls.wb (AL.out _)) | (go_at_call 22; exact Calls.wb (RL.out _)) | (go_at_call 23; exact Calls.wb (KP.out _))))
    refine wpQuiet_nil ?_
    rintro _ ⟨y, rfl⟩
    go_wp2
    go_ret
    exact ⟨ret_bool' (by simp), (KB.out x).trans (y.bel.mono (by have := x.size; simp at this; omega))⟩
end Go.Proofs.Ytbbjaimloiedaaa
