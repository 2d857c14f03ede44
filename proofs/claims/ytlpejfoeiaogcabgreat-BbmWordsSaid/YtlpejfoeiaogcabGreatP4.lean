/-
  granulelaw22: known calls, reckoned by the kernel.
-/
import Derived.Test.YtlpejfoeiaogcabGreatP0
set_option linter.unusedSimpArgs false
set_option linter.unusedVariables false
namespace GrG
open Go Go.RowKit Go.Proofs
set_option maxRecDepth 1000000
theorem run11 : entRun env11 100000 3517 ent11 = true := by kernel_rfl
theorem run12 : entRun env12 100000 4913 ent12 = true := by kernel_rfl
theorem run13 : entRun env13 100000 5438 ent13 = true := by kernel_rfl
theorem run14 : entRun env14 100000 4905 ent14 = true := by kernel_rfl
end GrG
