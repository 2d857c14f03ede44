/-
  granulelaw24, cut into calls that are known: known calls, reckoned by the kernel.
-/
import Derived.Test.YtjnhfobeibdelaaGreatDoorQ20
set_option linter.unusedSimpArgs false
set_option linter.unusedVariables false
namespace GrG
open Go Go.RowKit Go.Proofs
set_option maxRecDepth 1000000
theorem run40 : entRun env40 100000 18268 ent40 = true := by kernel_rfl
theorem run41 : entRun env41 100000 21158 ent41 = true := by kernel_rfl
theorem run42 : entRun env42 100000 21749 ent42 = true := by kernel_rfl
end GrG
