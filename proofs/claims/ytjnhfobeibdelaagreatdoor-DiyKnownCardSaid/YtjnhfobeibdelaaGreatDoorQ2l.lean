/-
  granulelaw24, cut into calls that are known: known calls, reckoned by the kernel.
-/
import Derived.Test.YtjnhfobeibdelaaGreatDoorQ20
set_option linter.unusedSimpArgs false
set_option linter.unusedVariables false
namespace GrG
open Go Go.RowKit Go.Proofs
set_option maxRecDepth 1000000
theorem run34 : entRun env34 100000 17633 ent34 = true := by kernel_rfl
theorem run35 : entRun env35 100000 15640 ent35 = true := by kernel_rfl
theorem run36 : entRun env36 100000 18516 ent36 = true := by kernel_rfl
end GrG
