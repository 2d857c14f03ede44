/-
  granulelaw24, cut into calls that are known: known calls, reckoned by the kernel.
-/
import Derived.Test.YtjnhfobeibdelaaGreatDoorQ20
set_option linter.unusedSimpArgs false
set_option linter.unusedVariables false
namespace GrG
open Go Go.RowKit Go.Proofs
set_option maxRecDepth 1000000
theorem run0 : entRun env0 100000 1678 ent0 = true := by kernel_rfl
theorem run1 : entRun env1 100000 1976 ent1 = true := by kernel_rfl
theorem run2 : entRun env2 100000 2427 ent2 = true := by kernel_rfl
theorem run3 : entRun env3 100000 2743 ent3 = true := by kernel_rfl
end GrG
