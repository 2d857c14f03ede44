/-
  Layer 10, the walks: the code's First.
-/
import Derived.Test.YtagbhhfflgikkaaDoorEe
set_option linter.unusedSimpArgs false
set_option linter.unusedVariables false
namespace Go.Proofs.YtagbhhfflgikkaaDoor
open Go.RowKit GrP GrL Go.Shelf

set_option maxRecDepth 100000 in
set_option maxHeartbeats 1600000 in
theorem lfirst_any (l : Tx) (a : Int) (w : World) (hl : l.length ≤ 9223372036854775800) : Calls Tryd.prog 12 #[.agg #[.string (strL l), .int .i64 a]] w fun e w' => e = .returned (.string (strL (l.take (run l)))) ∧ Below w.heap.size w w' := by
  have LE := Lib.hid (fun w => letters_any l w hl)
  have ST := fun w => s_to l (run l) (tw_le _ _) w
  clear hl
  obtain ⟨k, hk⟩ : ∃ k, k = run l := ⟨_, rfl⟩
  rw [← hk] at LE ST ⊢
  clear hk
  go_enter Tryd.func12, Tryd.ntmps12
  go_upto_region 1 with fail
  refine to_pt ?_
  intro U hU
  have r_b : ∀ z : Wb U, Row z.at w.heap.size [.string (strL l), .int .i64 a] 35 := Row.next (Row.new _ [.string (strL l), .int .i64 a] _) hU
  have KK := Lib.hid (KB.next (KB.alloc (Below.refl w.heap.size w) _) hU)
  clear hU
  have c_0 := fun z : Wb U => (r_b z).cell 0
  simp only [List.getElem?_cons_zero] at c_0
  clear r_b
  obtain ⟨pA, hpA⟩ : ∃ b, b = w.heap.size := ⟨_, rfl⟩
  have PA := Lib.hid (show w.heap.size ≤ pA by omega)
  rw [← hpA] at c_0
  simp only [← hpA]
  clear hpA
  refine wp_region_wb (by kernel_rfl) (by kernel_rfl) ?_
  repeat (go_big_quiet_step ((go_at_call 23; exact Calls.wb (Calls.same_below (LE.out _) (Below.refl _ _)))))
  refine wpQuiet_nil ?_
  rintro _ ⟨x, rfl⟩
  go_wp2
  go_ret
  exact ⟨rfl, KK.out x⟩
end Go.Proofs.YtagbhhfflgikkaaDoor
