/-
  granulelaw24, cut into calls that are known: known calls, reckoned by the kernel.
-/
import Derived.Test.YtjnhfobeibdelaaGreatDoorQ20
set_option linter.unusedSimpArgs false
set_option linter.unusedVariables false
namespace GrG
open Go Go.RowKit Go.Proofs
set_option maxRecDepth 1000000
theorem run19 : entRun env19 100000 8515 ent19 = true := by kernel_rfl
theorem run20 : entRun env20 100000 11117 ent20 = true := by kernel_rfl
theorem run21 : entRun env21 100000 11642 ent21 = true := by kernel_rfl
end GrG
