/-
  granulelaw22: known calls, reckoned by the kernel.
-/
import Derived.Test.YtlpejfoeiaogcabGreatP0
set_option linter.unusedSimpArgs false
set_option linter.unusedVariables false
namespace GrG
open Go Go.RowKit Go.Proofs
set_option maxRecDepth 1000000
theorem run0 : entRun env0 100000 139 ent0 = true := by kernel_rfl
theorem run1 : entRun env1 100000 624 ent1 = true := by kernel_rfl
theorem run2 : entRun env2 100000 15 ent2 = true := by kernel_rfl
theorem run3 : entRun env3 100000 1411 ent3 = true := by kernel_rfl
end GrG
