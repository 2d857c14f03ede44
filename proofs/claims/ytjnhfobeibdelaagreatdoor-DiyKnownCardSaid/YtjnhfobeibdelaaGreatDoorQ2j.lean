/-
  granulelaw24, cut into calls that are known: known calls, reckoned by the kernel.
-/
import Derived.Test.YtjnhfobeibdelaaGreatDoorQ20
set_option linter.unusedSimpArgs false
set_option linter.unusedVariables false
namespace GrG
open Go Go.RowKit Go.Proofs
set_option maxRecDepth 1000000
theorem run28 : entRun env28 100000 14124 ent28 = true := by kernel_rfl
theorem run29 : entRun env29 100000 14473 ent29 = true := by kernel_rfl
theorem run30 : entRun env30 100000 14852 ent30 = true := by kernel_rfl
end GrG
