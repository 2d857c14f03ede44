/-
  Layer 7: Slot and the page's own Slot, walked; the law.
-/
import Derived.Test.YtjmkkidlaebpmaaDe
import Derived.Test.YtjmkkidlaebpmaaFs
set_option linter.unusedSimpArgs false
set_option linter.unusedVariables false
namespace Go.Proofs.Ytjmkkidlaebpmaa
open Go.RowKit

theorem slot_bd {x : Int} (h : 0 ≤ x) (l : Int) : 0 ≤ GrF.slot x l ∧ GrF.slot x l ≤ 511 := by
  have e1 := GrF.get_29 x h
  have e2 := GrF.get_20 x h
  unfold GrF.slot
  split
  · omega
  · split <;> omega

set_option maxHeartbeats 800000 in
theorem dslot_any (t x l : Int) (w : World) (h0 : 0 ≤ x) (h1 : x < 18446744073709551616) :
    Calls Try.prog 54 #[.int .u64 t, .int .u64 x, .int .i64 l] w fun e w' => e = .returned (.int .u64 (IntKind.u64.wrap (t + 8 * GrF.slot x l))) ∧ Drew w w' := by
  have H1 := Lib.hid h1
  clear h1
  obtain ⟨b1, b2⟩ := slot_bd h0 l
  go_enter Try.func54, Try.ntmps54
  go_wp2_with fail
  refine (slot_any x l _ h0 H1.out).mono ?_
  rintro e w1 ⟨rfl, d1⟩
  go_wp2
  go_ret
  exact ⟨rfl, d1⟩

set_option maxHeartbeats 800000 in
theorem rdslot_any (t x l : Int) (w : World) (h0 : 0 ≤ x) (h1 : x < 18446744073709551616) (ht0 : 0 ≤ t) (ht1 : t < 18446744073709551616) :
    Calls Try.prog 31 #[.int .u64 t, .int .u64 x, .int .i64 l] w fun e w' => e = .returned (.int .u64 (IntKind.u64.wrap (t + 8 * GrF.slot x l))) ∧ Below w.heap.size w w' := by
  have H1 := Lib.hid h1
  have HT := Lib.hid ht1
  clear h1 ht1
  by_cases c1 : l = 1
  · subst c1
    have E : GrF.slot x 1 = GrF.get x 29 21 := rfl
    obtain ⟨b1, b2⟩ := slot_bd h0 1
    rw [E] at b1 b2
    rw [E]
    clear E
    go_enter Try.func31, Try.ntmps31
    go_wp2_with fail
    refine (rget_any x 29 21 _ h0 H1.out).mono ?_
    rintro e w1 ⟨rfl, d1⟩
    go_wp2
    go_ret
    exact ⟨rfl, d1⟩
  · by_cases c2 : l = 2
    · subst c2
      have E : GrF.slot x 2 = GrF.get x 20 12 := rfl
      obtain ⟨b1, b2⟩ := slot_bd h0 2
      rw [E] at b1 b2
      rw [E]
      clear E
      go_enter Try.func31, Try.ntmps31
      go_wp2_with fail
      refine (rget_any x 20 12 _ h0 H1.out).mono ?_
      rintro e w1 ⟨rfl, d1⟩
      go_wp2
      go_ret
      exact ⟨rfl, d1⟩
    · have n1 : (l == 1) = false := by simpa using c1
      have n2 : (l == 2) = false := by simpa using c2
      have E := Lib.hid (show t = IntKind.u64.wrap (t + 8 * GrF.slot x l) by
        rw [GrF.slot, if_neg c1, if_neg c2, IntKind.wrap_u64]
        have := HT.out
        omega)
      clear c1 c2
      go_enter Try.func31, Try.ntmps31
      go_wp2
      go_ret
      exact ⟨ret_u64 E.out, Below.refl _ _⟩

end Go.Proofs.Ytjmkkidlaebpmaa