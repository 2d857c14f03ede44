/-
  Layer 7, the walks: Encode, Address; the page's own Right, Word, Address.
-/
import Derived.Test.YtnpgpbcpgniloaaDf
import Derived.Test.YtnpgpbcpgniloaaFs
set_option linter.unusedSimpArgs false
set_option linter.unusedVariables false
namespace Go.Proofs.Ytnpgpbcpgniloaa
open Go.RowKit

/-! ### Address -/
theorem low_put (x v : Int) (k : Int) (h0 : 0 ≤ x) (h1 : x < 18446744073709551616) (h2 : 0 ≤ v) (hk : k = 12 ∨ k = 21) : GrF.put x (k - 1) 0 v = if k = 21 then x - x % 2097152 + v % 2097152 else x - x % 4096 + v % 4096 := by
  rcases hk with rfl | rfl
  · exact GrD.put_low x v 11 (by omega) h0 h1 h2
  · exact GrD.put_low x v 20 (by omega) h0 h1 h2

set_option maxHeartbeats 1600000 in
theorem address_any (d : GrD.D) (l va : Int) (w : World) (h0 : 0 ≤ d.out) (h1 : d.out < 18446744073709551616) (a0 : 0 ≤ va) :
    Calls Try.prog 65 #[dv d, .int .i64 l, .int .u64 va] w fun e w' => e = .returned (.int .u64 (GrD.address d l va)) ∧ Below w.heap.size w w' := by
  obtain ⟨v, t, o, u, r, s, q⟩ := d
  have lo := fun w => low_below v t o u r s q l w
  obtain ⟨k, hk⟩ : ∃ k, k = GrD.low t l := ⟨_, rfl⟩
  have hk2 : k = 12 ∨ k = 21 := by rw [hk, GrD.low]; split <;> simp
  rw [← hk] at lo
  have E : GrF.put o (k - 1) 0 va = GrD.address ⟨v, t, o, u, r, s, q⟩ l va := by
    rw [low_put o va k h0 h1 a0 hk2, GrD.address, hk, GrD.low]
    by_cases c : l = 1 ∧ t = false
    · rw [if_pos c, if_pos c, if_pos rfl]
    · rw [if_neg c, if_neg c, if_neg (by decide)]
  have pt := fun w => (put_any o (k - 1) 0 va w h0 h1 a0).mono fun e w' (h : _ ∧ Drew w w') => (⟨h.1, h.2.below w.heap.size⟩ : _ ∧ Below w.heap.size w w')
  rw [E] at pt
  have LO := Lib.hid lo
  have PT := Lib.hid pt
  obtain ⟨k0, k1, k2, k3, k4, k5, k6, kb⟩ := box7 w v t o u r s q _ rfl
  have KB := Lib.hid kb
  clear kb lo pt E hk h0 h1 a0
  unfold dv
  rcases hk2 with rfl | rfl
  all_goals
    go_enter Try.func65, Try.ntmps65
    go_wp2_with fail
    refine wp_region_wb (by kernel_rfl) (by kernel_rfl) ?_
    repeat (go_big_quiet_step (first | (go_at_call 73; exact Calls.wb (LO.out _)) | (go_at_call 47; exact Calls.wb (PT.out _))))
    refine wpQuiet_nil ?_
    rintro _ ⟨x, rfl⟩
    go_wp2
    go_ret
    exact ⟨rfl, KB.out x⟩
end Go.Proofs.Ytnpgpbcpgniloaa
