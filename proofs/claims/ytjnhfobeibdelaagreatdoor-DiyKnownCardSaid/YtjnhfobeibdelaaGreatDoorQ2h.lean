/-
  granulelaw24, cut into calls that are known: known calls, reckoned by the kernel.
-/
import Derived.Test.YtjnhfobeibdelaaGreatDoorQ20
set_option linter.unusedSimpArgs false
set_option linter.unusedVariables false
namespace GrG
open Go Go.RowKit Go.Proofs
set_option maxRecDepth 1000000
theorem run22 : entRun env22 100000 12200 ent22 = true := by kernel_rfl
theorem run23 : entRun env23 100000 12683 ent23 = true := by kernel_rfl
theorem run24 : entRun env24 100000 10886 ent24 = true := by kernel_rfl
end GrG
