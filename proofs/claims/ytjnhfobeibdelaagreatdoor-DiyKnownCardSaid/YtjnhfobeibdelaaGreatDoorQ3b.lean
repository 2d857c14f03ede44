/-
  granulelaw24.DiyKnown, cut into calls that are known: reckoned by the kernel.
-/
import Derived.Test.YtjnhfobeibdelaaGreatDoorQ30
set_option linter.unusedSimpArgs false
set_option linter.unusedVariables false
namespace GrG
open Go Go.RowKit Go.Proofs
set_option maxRecDepth 1000000
theorem runK4 : entRun envK 100000 28286 entK4 = true := by kernel_rfl
theorem runK5 : entRun envK 100000 29106 entK5 = true := by kernel_rfl
theorem runK6 : entRun envK 100000 29934 entK6 = true := by kernel_rfl
theorem runK7 : entRun envK 100000 30964 entK7 = true := by kernel_rfl
end GrG
