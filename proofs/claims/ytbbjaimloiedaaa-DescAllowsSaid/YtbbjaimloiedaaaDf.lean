/-
  Layer 7, the walks: Check whole; marked, Encode, Address.
-/
import Derived.Test.YtbbjaimloiedaaaDc
import Derived.Test.YtbbjaimloiedaaaDe
import Derived.Test.YtbbjaimloiedaaaDo
import Derived.Test.YtbbjaimloiedaaaBq
namespace Go.Proofs.Ytbbjaimloiedaaa
open Go.RowKit

/-- a descriptor's box, in whatever world comes behind it -/
theorem box7 (w : World) (v t : Bool) (o : Int) (u r s q : Bool) (W : World) (hW : W = w.alloc (.cells #[.bool v, .bool t, .int .u64 o, .bool u, .bool r, .bool s, .bool q] 25)) :
    (∀ x : Wb W, x.at.cell? ⟨w.heap.size, 0, none⟩ = some (.bool v)) ∧ (∀ x : Wb W, x.at.cell? ⟨w.heap.size, 1, none⟩ = some (.bool t)) ∧ (∀ x : Wb W, x.at.cell? ⟨w.heap.size, 2, none⟩ = some (.int .u64 o)) ∧ (∀ x : Wb W, x.at.cell? ⟨w.heap.size, 3, none⟩ = some (.bool u)) ∧
    (∀ x : Wb W, x.at.cell? ⟨w.heap.size, 4, none⟩ = some (.bool r)) ∧ (∀ x : Wb W, x.at.cell? ⟨w.heap.size, 5, none⟩ = some (.bool s)) ∧ (∀ x : Wb W, x.at.cell? ⟨w.heap.size, 6, none⟩ = some (.bool q)) ∧ (∀ x : Wb W, Below w.heap.size w x.at) := by
  subst hW
  refine ⟨fun x => ?_, fun x => ?_, fun x => ?_, fun x => ?_, fun x => ?_, fun x => ?_, fun x => ?_, fun x => ?_⟩
  case refine_8 => exact ((Below.refl _ _).alloc (Nat.le_refl _) _).trans (x.bel.mono (by simp))
  all_goals
    rw [x.cell _ (by simp)]
    simp [World.cell?_alloc_new]

theorem low_below (v t : Bool) (o : Int) (u r s q : Bool) (l : Int) (w : World) :
    Calls Try.prog 47 #[.agg #[.bool v, .bool t, .int .u64 o, .bool u, .bool r, .bool s, .bool q], .int .i64 l] w fun e w' => e = .returned (.int .i64 (GrD.low t l)) ∧ Below w.heap.size w w' :=
  Calls.same_below (low_any v t o u r s q l w) ((Below.refl _ _).alloc (Nat.le_refl _) _)
theorem aligned_below (x n : Int) (w : World) (h0 : 0 ≤ x) (h1 : x < 18446744073709551616) (h2 : -9223372036854775808 ≤ n) (h3 : n ≤ 9223372036854775807) :
    Calls Try.prog 51 #[.int .u64 x, .int .i64 n] w fun e w' => e = .returned (.bool (GrF.alignedB x n)) ∧ Below w.heap.size w w' :=
  Calls.same_below (aligned_any x n w h0 h1 h2 h3) (Below.refl _ _)

set_option maxHeartbeats 1600000 in
theorem check_tail (t : Bool) (o : Int) (u r s q : Bool) (l k : Int) (c : Bool) (w : World) (ht : (t = true ∧ l = 1 ∧ k = 12 ∧ u = false ∧ r = false ∧ s = false ∧ q = false) ∨ (t = false ∧ l = 2 ∧ k = 12) ∨ (t = false ∧ l = 1 ∧ k = 21)) (h0 : 0 ≤ o) (ho : o < (4294967296 : Int)) (hc : GrF.alignedB o k = c) :
    Calls Try.prog 17 #[dv ⟨true, t, o, u, r, s, q⟩, .int .i64 l] w fun e w' => e = .returned (.int .i64 (GrD.err c)) ∧ Below w.heap.size w w' := by
  have lo := fun w => low_below true t o u r s q l w
  have el : GrD.low t l = k := by rcases ht with ⟨rfl, rfl, rfl, _⟩ | ⟨rfl, rfl, rfl⟩ | ⟨rfl, rfl, rfl⟩ <;> rfl
  rw [el] at lo
  have al := fun w => aligned_below o k w h0 (by omega) (by omega) (by omega)
  rw [hc] at al
  have LO := Lib.hid lo
  have AL := Lib.hid al
  clear el hc lo al
  obtain ⟨k0, k1, k2, k3, k4, k5, k6, kb⟩ := box7 w true t o u r s q _ rfl
  have KB := Lib.hid kb
  have nd : decide ((4294967296 : Int) ≤ o) = false := by simpa using ho
  clear kb ho
  unfold dv
  rcases ht with ⟨rfl, rfl, rfl, rfl, rfl, rfl, rfl⟩ | ⟨rfl, rfl, rfl⟩ | ⟨rfl, rfl, rfl⟩
  all_goals
    cases c
  all_goals
    go_enter Try.func17, Try.ntmps17
    go_wp2_with fail
    refine wp_region_wb (by kernel_rfl) (by kernel_rfl) ?_
    repeat (go_big_quiet_step (first | (go_at_call 47; exact Calls.wb (LO.out _)) | (go_at_call 51; exact Calls.wb (AL.out _))))
    refine wpQuiet_nil ?_
    rintro _ ⟨x, rfl⟩
    go_wp2
    go_ret
    exact ⟨rfl, KB.out x⟩

theorem check_any (d : GrD.D) (l : Int) (w : World) (h0 : 0 ≤ d.out) (h1 : d.out < 18446744073709551616) :
    Calls Try.prog 17 #[dv d, .int .i64 l] w fun e w' => e = .returned (.int .i64 (GrD.err (GrD.rightB d l))) ∧ Below w.heap.size w w' := by
  rw [← GrD.check_eq d l h0 h1]
  obtain ⟨v, t, o, u, r, s, q⟩ := d
  unfold GrD.checkB
  by_cases hz : GrD.isZero ⟨v, t, o, u, r, s, q⟩ = true
  · rw [if_pos hz, GrD.err_t, GrD.eq_zero_of hz]
    exact check_zero l w
  · rw [if_neg hz]
    have hz' : GrD.isZero ⟨v, t, o, u, r, s, q⟩ = false := by simpa using hz
    cases v with
    | false =>
      rw [if_pos (.inl rfl), GrD.err_f]
      exact check_v0 t o u r s q l w hz'
    | true =>
      by_cases hl : l ≠ 1 ∧ l ≠ 2
      · rw [if_pos (.inr hl), GrD.err_f]
        exact check_level t o u r s q l w (by simpa using hl.1) (by simpa using hl.2)
      · rw [if_neg (by simp only [Bool.true_eq_false, false_or]; exact hl)]
        have hl' : l = 1 ∨ l = 2 := by omega
        by_cases ht : t = true ∧ (l ≠ 1 ∨ GrD.marks ⟨true, t, o, u, r, s, q⟩ = true)
        · rw [if_pos ht, GrD.err_f]
          obtain ⟨rfl, ht2⟩ := ht
          rcases hl' with rfl | rfl
          · exact check_t1m o u r s q w (by simpa [GrD.marks] using ht2)
          · exact check_t2 o u r s q w
        · rw [if_neg ht]
          have ht2 : t = true → l = 1 ∧ u = false ∧ r = false ∧ s = false ∧ q = false := by
            rintro rfl
            simp [GrD.marks] at ht
            exact ⟨ht.1, by simpa using ht.2.1.1.1, by simpa using ht.2.1.1.2, by simpa using ht.2.1.2, by simpa using ht.2.2⟩
          by_cases ho : (4294967296 : Int) ≤ o
          · rw [if_pos (.inl ho), GrD.err_f]
            exact check_big t o u r s q l w hl' ht2 ho
          · have hk : (if 4294967296 ≤ o ∨ GrF.alignedB o (GrD.low t l) = false then false else true) = GrF.alignedB o (GrD.low t l) := by
              cases h : GrF.alignedB o (GrD.low t l) <;> simp [ho]
            rw [show (if 4294967296 ≤ (GrD.D.mk true t o u r s q).out ∨ GrF.alignedB (GrD.D.mk true t o u r s q).out (GrD.low (GrD.D.mk true t o u r s q).table l) = false then false else true) = _ from hk]
            refine check_tail t o u r s q l (GrD.low t l) _ w ?_ h0 (by omega) rfl
            cases t with
            | true =>
              obtain ⟨a1, a2, a3, a4, a5⟩ := ht2 rfl
              subst a1
              exact .inl ⟨rfl, rfl, rfl, a2, a3, a4, a5⟩
            | false =>
              rcases hl' with rfl | rfl
              · exact .inr (.inr ⟨rfl, rfl, rfl⟩)
              · exact .inr (.inl ⟨rfl, rfl, rfl⟩)

/-- the code's 'marked' -/
def mk1 (x n : Int) (c : Bool) : Int := if c = true then GrF.put x n n 1 else x
theorem mk1_eq (x : Int) (n : Nat) (c : Bool) : mk1 x n c = GrD.marked x n c := rfl
theorem mk1_bd (x : Int) (n : Nat) (c : Bool) (h0 : 0 ≤ x) (h1 : x < 18446744073709551616) : 0 ≤ mk1 x n c ∧ mk1 x n c < 18446744073709551616 := GrD.marked_bd x n c h0 h1

set_option maxHeartbeats 800000 in
theorem marked_any (x n : Int) (c : Bool) (w : World) (h0 : 0 ≤ x) (h1 : x < 18446744073709551616) :
    Calls Try.prog 50 #[.int .u64 x, .int .i64 n, .bool c] w fun e w' => e = .returned (.int .u64 (mk1 x n c)) ∧ Below w.heap.size w w' := by
  have H1 := Lib.hid h1
  clear h1
  cases c with
  | true =>
    go_enter Try.func50, Try.ntmps50
    go_wp2_with fail
    refine (put_any x n n 1 _ h0 H1.out (by omega)).mono ?_
    rintro e w1 ⟨rfl, d1⟩
    go_wp2
    go_ret
    exact ⟨rfl, d1.below _⟩
  | false =>
    go_enter Try.func50, Try.ntmps50
    go_wp2
    go_ret
    exact ⟨rfl, Below.refl _ _⟩
end Go.Proofs.Ytbbjaimloiedaaa
