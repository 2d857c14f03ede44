/-
  Layer 7, the walks: the page's own Right, Word, Address.
-/
import Derived.Test.YtbbjaimloiedaaaDg
import Derived.Deep.Light
namespace Go.Proofs.Ytbbjaimloiedaaa
open Go.RowKit

theorem ret_bool' {a b : Bool} (h : a = b) : Ending.returned (.bool a) = .returned (.bool b) := by rw [h]

set_option maxHeartbeats 800000 in
theorem rright_v0 (t : Bool) (o : Int) (u r s q : Bool) (l : Int) (w : World) :
    Calls Try.prog 16 #[dv ⟨false, t, o, u, r, s, q⟩, .int .i64 l] w fun e w' => e = .returned (.bool (GrD.isZero ⟨false, t, o, u, r, s, q⟩)) ∧ Below w.heap.size w w' := by
  have HZ := Lib.hid (show GrD.isZero ⟨false, t, o, u, r, s, q⟩ = (!t && (o == 0) && !u && !r && !s && !q) by simp [GrD.isZero])
  unfold dv
  go_enter Try.func16, Try.ntmps16
  go_wp2
  all_goals
    go_ret
    refine ⟨ret_bool' ?_, (Below.refl _ _).alloc (Nat.le_refl _) _⟩
    rw [HZ.out]
    go_light
    simp_all

set_option maxHeartbeats 1600000 in
theorem rright_no (t : Bool) (o : Int) (u r s q : Bool) (l : Int) (w : World) (h : l < 1 ∨ 2 < l ∨ (1 ≤ l ∧ l ≤ 2 ∧ (4294967296 : Int) ≤ o)) :
    Calls Try.prog 16 #[dv ⟨true, t, o, u, r, s, q⟩, .int .i64 l] w fun e w' => e = .returned (.bool false) ∧ Below w.heap.size w w' := by
  unfold dv
  rcases h with h | h | ⟨h, h2, h3⟩
  · have e1 : decide (l < 1) = true := by simpa using h
    go_enter Try.func16, Try.ntmps16
    go_wp2
    go_ret
    exact ⟨rfl, (Below.refl _ _).alloc (Nat.le_refl _) _⟩
  · have e1 : decide (l < 1) = false := by simp; omega
    have e2 : decide (2 < l) = true := by simpa using h
    go_enter Try.func16, Try.ntmps16
    go_wp2
    go_ret
    exact ⟨rfl, (Below.refl _ _).alloc (Nat.le_refl _) _⟩
  · have e1 : decide (l < 1) = false := by simp; omega
    have e2 : decide (2 < l) = false := by simp; omega
    have e3 : decide ((4294967296 : Int) ≤ o) = true := by simpa using h3
    clear h h2 h3
    go_enter Try.func16, Try.ntmps16
    go_wp2
    go_ret
    exact ⟨rfl, (Below.refl _ _).alloc (Nat.le_refl _) _⟩

set_option maxHeartbeats 1600000 in
theorem rright_f (o : Int) (u r s q : Bool) (l : Int) (w : World) (hl : l = 1 ∨ l = 2) (h0 : 0 ≤ o) (h1 : o < (4294967296 : Int)) :
    Calls Try.prog 16 #[dv ⟨true, false, o, u, r, s, q⟩, .int .i64 l] w fun e w' => e = .returned (.bool (if l = 1 then o % 2097152 == 0 else o % 4096 == 0)) ∧ Below w.heap.size w w' := by
  have e3 : decide ((4294967296 : Int) ≤ o) = false := by simp; omega
  clear h1
  unfold dv
  rcases hl with rfl | rfl
  all_goals
    go_enter Try.func16, Try.ntmps16
    go_wp2
    go_ret
    exact ⟨rfl, (Below.refl _ _).alloc (Nat.le_refl _) _⟩

set_option maxHeartbeats 3200000 in
theorem rright_t (o : Int) (u r s q : Bool) (l : Int) (w : World) (hl : l = 1 ∨ l = 2) (h0 : 0 ≤ o) (h1 : o < (4294967296 : Int)) :
    Calls Try.prog 16 #[dv ⟨true, true, o, u, r, s, q⟩, .int .i64 l] w fun e w' => e = .returned (.bool (decide (l = 1) && !(u || r || s || q) && (o % 4096 == 0))) ∧ Below w.heap.size w w' := by
  have e3 : decide ((4294967296 : Int) ≤ o) = false := by simp; omega
  clear h1
  unfold dv
  rcases hl with rfl | rfl
  · cases u <;> cases r <;> cases s <;> cases q
    all_goals
      go_enter Try.func16, Try.ntmps16
      go_wp2
      go_ret
      exact ⟨ret_bool' (by simp), (Below.refl _ _).alloc (Nat.le_refl _) _⟩
  · go_enter Try.func16, Try.ntmps16
    go_wp2
    go_ret
    exact ⟨ret_bool' (by simp), (Below.refl _ _).alloc (Nat.le_refl _) _⟩

theorem rright_any (d : GrD.D) (l : Int) (w : World) (h0 : 0 ≤ d.out) :
    Calls Try.prog 16 #[dv d, .int .i64 l] w fun e w' => e = .returned (.bool (GrD.rightB d l)) ∧ Below w.heap.size w w' := by
  obtain ⟨v, t, o, u, r, s, q⟩ := d
  cases v with
  | false => exact rright_v0 t o u r s q l w
  | true =>
    by_cases h : l < 1 ∨ 2 < l ∨ (1 ≤ l ∧ l ≤ 2 ∧ (4294967296 : Int) ≤ o)
    · have e : GrD.rightB ⟨true, t, o, u, r, s, q⟩ l = false := by
        rw [GrD.rightB, if_pos rfl]
        rcases h with h | h | ⟨_, _, h⟩
        · have : ¬ l = 1 := by omega
          have : ¬ l = 2 := by omega
          simp [*]
        · have : ¬ l = 1 := by omega
          have : ¬ l = 2 := by omega
          simp [*]
        · have : ¬ o < 4294967296 := by omega
          simp [this]
      rw [e]
      exact rright_no t o u r s q l w h
    · have hl : l = 1 ∨ l = 2 := by omega
      have h1 : o < (4294967296 : Int) := by omega
      have e : GrD.rightB ⟨true, t, o, u, r, s, q⟩ l = (if t = true then decide (l = 1) && !(u || r || s || q) && (o % 4096 == 0) else if l = 1 then o % 2097152 == 0 else o % 4096 == 0) := by
        rw [GrD.rightB, if_pos rfl]
        rcases hl with rfl | rfl <;> simp [h1, GrD.marks]
      rw [e]
      cases t with
      | true => exact rright_t o u r s q l w hl h0 h1
      | false => exact rright_f o u r s q l w hl h0 h1

/-! ### Word -/
set_option maxHeartbeats 3200000 in
theorem rword_any (d : GrD.D) (l : Int) (w : World) (h0 : 0 ≤ d.out) (h1 : d.out < 4294967296) :
    Calls Try.prog 18 #[dv d, .int .i64 l] w fun e w' => e = .returned (.int .u64 (GrD.word d l)) ∧ Below w.heap.size w w' := by
  obtain ⟨v, t, o, u, r, s, q⟩ := d
  have E := Lib.hid (show GrD.word ⟨v, t, o, u, r, s, q⟩ l = if v = true then o + 1 + 2 * GrD.b1 (t || decide (l = 2)) + 64 * GrD.b1 s + 128 * GrD.b1 r + 1024 * GrD.b1 u + 2048 * GrD.b1 q else 0 from rfl)
  simp only at h0 h1
  unfold dv
  cases v with
  | false =>
    go_enter Try.func18, Try.ntmps18
    go_wp2
    go_ret
    exact ⟨ret_u64 (by rw [E.out]; rfl), (Below.refl _ _).alloc (Nat.le_refl _) _⟩
  | true =>
    have hx : ∃ X : Bool, X = (t || decide (l = 2)) ∧ ((t = true ∧ X = true) ∨ (t = false ∧ l = 2 ∧ X = true) ∨ (t = false ∧ (l == 2) = false ∧ X = false)) := by
      cases t
      · by_cases c : l = 2
        · exact ⟨_, rfl, .inr (.inl ⟨rfl, c, by simp [c]⟩)⟩
        · exact ⟨_, rfl, .inr (.inr ⟨rfl, by simpa using c, by simp [c]⟩)⟩
      · exact ⟨_, rfl, .inl ⟨rfl, by simp⟩⟩
    obtain ⟨X, hX, hx⟩ := hx
    have E2 := Lib.hid (show GrD.word ⟨true, t, o, u, r, s, q⟩ l = o + 1 + 2 * GrD.b1 X + 64 * GrD.b1 s + 128 * GrD.b1 r + 1024 * GrD.b1 u + 2048 * GrD.b1 q by rw [E.out, if_pos rfl, hX])
    clear E hX
    rcases hx with ⟨rfl, rfl⟩ | ⟨rfl, rfl, rfl⟩ | ⟨rfl, hl, rfl⟩
    all_goals
      go_enter Try.func18, Try.ntmps18
      go_wp2
    all_goals
      go_ret
      refine ⟨ret_u64 ?_, (Below.refl _ _).alloc (Nat.le_refl _) _⟩
      rw [E2.out]
      go_light
      simp_all [GrD.b1]
      try omega

/-! ### Address -/
set_option maxHeartbeats 1600000 in
theorem raddress_any (d : GrD.D) (l va : Int) (w : World) (h0 : 0 ≤ d.out) (h1 : d.out < 18446744073709551616) (a0 : 0 ≤ va) (a1 : va < 18446744073709551616) :
    Calls Try.prog 20 #[dv d, .int .i64 l, .int .u64 va] w fun e w' => e = .returned (.int .u64 (GrD.address d l va)) ∧ Below w.heap.size w w' := by
  obtain ⟨v, t, o, u, r, s, q⟩ := d
  simp only at h0 h1
  have E := Lib.hid (show GrD.address ⟨v, t, o, u, r, s, q⟩ l va = if l = 1 ∧ t = false then o - o % 2097152 + va % 2097152 else o - o % 4096 + va % 4096 from rfl)
  unfold dv
  by_cases c1 : l = 1
  · subst c1
    cases t
    all_goals
      go_enter Try.func20, Try.ntmps20
      go_wp2_with fail
      go_quiet (fail)
      go_wp2
      go_ret
      refine ⟨ret_u64 (by rw [E.out]; simp [IntKind.wrap_u64]; try omega), ?_⟩
      exact (((Below.refl _ _).alloc (Nat.le_refl _) _).trans ((Drew.refl _).drewN _ |>.below _))
  · have n1 : (l == 1) = false := by simpa using c1
    have E2 := Lib.hid (show GrD.address ⟨v, t, o, u, r, s, q⟩ l va = o - o % 4096 + va % 4096 by rw [E.out, if_neg (by simp [c1])])
    clear c1 E
    go_enter Try.func20, Try.ntmps20
    go_wp2_with fail
    go_quiet (fail)
    go_wp2
    go_ret
    refine ⟨ret_u64 (by rw [E2.out]; try simp [IntKind.wrap_u64]; try omega), ?_⟩
    exact (((Below.refl _ _).alloc (Nat.le_refl _) _).trans ((Drew.refl _).drewN _ |>.below _))
end Go.Proofs.Ytbbjaimloiedaaa
