/-
  Layer 3, the code's walks: small words for Right.
-/
import Derived.Test.YtnehdgapcgbdeaaDoorJb
set_option linter.unusedSimpArgs false
set_option linter.unusedVariables false
namespace GrI
def code (b : Bool) : Int := if b = true then 0 else 30
end GrI
namespace Go.Proofs.YtnehdgapcgbdeaaDoor
open Go.RowKit
theorem ret_code {a b : Int} (h : a = b) : Ending.returned (.int .i64 a) = .returned (.int .i64 b) := by rw [h]
theorem pw_25 : GrF.pw 25 = 33554432 := rfl
theorem pw_18 : GrF.pw 18 = 262144 := rfl
theorem fits_26 (v : Int) : GrF.fitsB v 26 = (decide (-33554432 ≤ v) && decide (v ≤ 33554431)) := by
  rw [GrF.fitsB, show (26 : Int) - 1 = 25 from rfl, pw_25]; simp
theorem fits_19 (v : Int) : GrF.fitsB v 19 = (decide (-262144 ≤ v) && decide (v ≤ 262143)) := by
  rw [GrF.fitsB, show (19 : Int) - 1 = 18 from rfl, pw_18]; simp
end Go.Proofs.YtnehdgapcgbdeaaDoor
