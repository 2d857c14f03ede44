/-
  granulelaw24, cut into calls that are known: known calls, reckoned by the kernel.
-/
import Derived.Test.YtjnhfobeibdelaaGreatDoorQ20
set_option linter.unusedSimpArgs false
set_option linter.unusedVariables false
namespace GrG
open Go Go.RowKit Go.Proofs
set_option maxRecDepth 1000000
theorem run37 : entRun env37 100000 19107 ent37 = true := by kernel_rfl
theorem run38 : entRun env38 100000 19726 ent38 = true := by kernel_rfl
theorem run39 : entRun env39 100000 20270 ent39 = true := by kernel_rfl
end GrG
