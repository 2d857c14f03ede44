/-
  Layer 7, the walks: Decode of a block's and of a page's word.
-/
import Derived.Test.YteiokenijmaloaaDw
set_option linter.unusedSimpArgs false
set_option linter.unusedVariables false
namespace Go.Proofs.Yteiokenijmaloaa
open Go.RowKit

set_option maxHeartbeats 3200000 in
theorem decode_block (x : Int) (w : World) (h0 : 0 ≤ x) (h1 : x < 18446744073709551616) (b0 : GrF.bitB x 0 = true) (b47 : (GrF.get x 47 32 != 0) = false) (b1 : GrF.bitB x 1 = false) :
    Calls Try.prog 49 #[.int .u64 x, .int .i64 1] w fun e w' => e = .returned (dv ⟨true, false, GrF.get x 31 21 * 2097152, GrF.bitB x 10, GrF.bitB x 7, GrF.bitB x 6, GrF.bitB x 11⟩) ∧ Below w.heap.size w w' := by
  have H1 := Lib.hid h1
  clear h1
  obtain ⟨g1, g2, g3, g4⟩ := two_words h0
  go_enter Try.func49, Try.ntmps49
  go_wp2_with fail
  refine (bit_any x 1 _ h0 H1.out).mono ?_
  rintro e w1 ⟨rfl, ⟨m, rfl⟩⟩
  rw [b1]
  go_wp2_with fail
  refine (bit_any x 0 _ h0 H1.out).mono ?_
  rintro e w1 ⟨rfl, ⟨m2, rfl⟩⟩
  rw [b0]
  go_wp2_with fail
  refine (get_any x 47 32 _ h0 H1.out).mono ?_
  rintro e w1 ⟨rfl, ⟨m3, rfl⟩⟩
  go_wp2_with (first
    | (go_at_call 58; refine (get_any x 31 21 _ h0 H1.out).mono ?_; rintro e w1 ⟨rfl, ⟨m4, rfl⟩⟩)
    | (go_at_call 57; refine (bit_any x _ _ h0 H1.out).mono ?_; rintro e w1 ⟨rfl, ⟨m5, rfl⟩⟩)
    | go_in)
  refine bodyPost_ret (v := dv ⟨true, false, GrF.get x 31 21 * 2097152, GrF.bitB x 10, GrF.bitB x 7, GrF.bitB x 6, GrF.bitB x 11⟩) (by simp [results, Try.results49, go_sem, dv]) rfl ⟨rfl, ?_⟩
  repeat' (first | (with_reducible exact Below.refl _ _) | (with_reducible refine below_drewN ?_ _) | (with_reducible refine Below.setCell ?_ ?_ _) | (with_reducible refine Below.alloc ?_ ?_ _) | (with_reducible refine Below.drew ?_) | (simp [World.size_alloc]; done) | (simp [World.size_alloc]; omega))

end Go.Proofs.Yteiokenijmaloaa
