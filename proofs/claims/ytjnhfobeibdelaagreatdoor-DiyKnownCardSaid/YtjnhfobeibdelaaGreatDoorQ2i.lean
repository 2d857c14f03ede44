/-
  granulelaw24, cut into calls that are known: known calls, reckoned by the kernel.
-/
import Derived.Test.YtjnhfobeibdelaaGreatDoorQ20
set_option linter.unusedSimpArgs false
set_option linter.unusedVariables false
namespace GrG
open Go Go.RowKit Go.Proofs
set_option maxRecDepth 1000000
theorem run25 : entRun env25 100000 1653 ent25 = true := by kernel_rfl
theorem run26 : entRun env26 100000 13309 ent26 = true := by kernel_rfl
theorem run27 : entRun env27 100000 13632 ent27 = true := by kernel_rfl
end GrG
