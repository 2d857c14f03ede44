/-
  granulelaw24.DiyKnown, cut into calls that are known: reckoned by the kernel.
-/
import Derived.Test.YtjnhfobeibdelaaGreatDoorQ30
set_option linter.unusedSimpArgs false
set_option linter.unusedVariables false
namespace GrG
open Go Go.RowKit Go.Proofs
set_option maxRecDepth 1000000
theorem runK0 : entRun envK 100000 25062 entK0 = true := by kernel_rfl
theorem runK1 : entRun envK 100000 25866 entK1 = true := by kernel_rfl
theorem runK2 : entRun envK 100000 26678 entK2 = true := by kernel_rfl
theorem runK3 : entRun envK 100000 27474 entK3 = true := by kernel_rfl
end GrG
