/-
  Layer 7: Slot and the page's own Slot, walked; the law.
-/
import Derived.Test.YtnpgpbcpgniloaaDe
import Derived.Test.YtnpgpbcpgniloaaFs
set_option linter.unusedSimpArgs false
set_option linter.unusedVariables false
namespace Go.Proofs.Ytnpgpbcpgniloaa
open Go.RowKit

theorem slot_bd {x : Int} (h : 0 ≤ x) (l : Int) : 0 ≤ GrF.slot x l ∧ GrF.slot x l ≤ 511 := by
  have e1 := GrF.get_29 x h
  have e2 := GrF.get_20 x h
  unfold GrF.slot
  split
  · omega
  · split <;> omega

set_option maxHeartbeats 800000 in
theorem dslot_any (t x l : Int) (w : World) (h0 : 0 ≤ x) (h1 : x < 18446744073709551616) :
    Calls Try.prog 44 #[.int .u64 t, .int .u64 x, .int .i64 l] w fun e w' => e = .returned (.int .u64 (IntKind.u64.wrap (t + 8 * GrF.slot x l))) ∧ Drew w w' := by
  have H1 := Lib.hid h1
  clear h1
  obtain ⟨b1, b2⟩ := slot_bd h0 l
  go_enter Try.func44, Try.ntmps44
  go_wp2_with fail
  refine (slot_any x l _ h0 H1.out).mono ?_
  rintro e w1 ⟨rfl, d1⟩
  go_wp2
  go_ret
  exact ⟨rfl, d1⟩

end Go.Proofs.Ytnpgpbcpgniloaa