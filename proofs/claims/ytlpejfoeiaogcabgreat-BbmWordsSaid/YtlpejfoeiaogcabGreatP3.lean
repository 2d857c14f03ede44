/-
  granulelaw22: known calls, reckoned by the kernel.
-/
import Derived.Test.YtlpejfoeiaogcabGreatP0
set_option linter.unusedSimpArgs false
set_option linter.unusedVariables false
namespace GrG
open Go Go.RowKit Go.Proofs
set_option maxRecDepth 1000000
theorem run7 : entRun env7 100000 2980 ent7 = true := by kernel_rfl
theorem run8 : entRun env8 100000 1180 ent8 = true := by kernel_rfl
theorem run9 : entRun env9 100000 3641 ent9 = true := by kernel_rfl
theorem run10 : entRun env10 100000 4126 ent10 = true := by kernel_rfl
end GrG
