/-
  granulelaw24, cut into calls that are known: known calls, reckoned by the kernel.
-/
import Derived.Test.YtjnhfobeibdelaaGreatDoorQ20
set_option linter.unusedSimpArgs false
set_option linter.unusedVariables false
namespace GrG
open Go Go.RowKit Go.Proofs
set_option maxRecDepth 1000000
theorem run4 : entRun env4 100000 3081 ent4 = true := by kernel_rfl
theorem run5 : entRun env5 100000 4038 ent5 = true := by kernel_rfl
theorem run6 : entRun env6 100000 4555 ent6 = true := by kernel_rfl
end GrG
