/-
  granulelaw24, cut into calls that are known: known calls, reckoned by the kernel.
-/
import Derived.Test.YtjnhfobeibdelaaGreatDoorQ20
set_option linter.unusedSimpArgs false
set_option linter.unusedVariables false
namespace GrG
open Go Go.RowKit Go.Proofs
set_option maxRecDepth 1000000
theorem run7 : entRun env7 100000 5099 ent7 = true := by kernel_rfl
theorem run8 : entRun env8 100000 5580 ent8 = true := by kernel_rfl
theorem run9 : entRun env9 100000 3803 ent9 = true := by kernel_rfl
end GrG
