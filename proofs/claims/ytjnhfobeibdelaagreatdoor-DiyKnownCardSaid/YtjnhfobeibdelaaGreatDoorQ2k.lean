/-
  granulelaw24, cut into calls that are known: known calls, reckoned by the kernel.
-/
import Derived.Test.YtjnhfobeibdelaaGreatDoorQ20
set_option linter.unusedSimpArgs false
set_option linter.unusedVariables false
namespace GrG
open Go Go.RowKit Go.Proofs
set_option maxRecDepth 1000000
theorem run31 : entRun env31 100000 15891 ent31 = true := by kernel_rfl
theorem run32 : entRun env32 100000 16478 ent32 = true := by kernel_rfl
theorem run33 : entRun env33 100000 17090 ent33 = true := by kernel_rfl
end GrG
