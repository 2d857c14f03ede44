/-
  granulelaw24, cut into calls that are known: known calls, reckoned by the kernel.
-/
import Derived.Test.YtjnhfobeibdelaaGreatDoorQ20
set_option linter.unusedSimpArgs false
set_option linter.unusedVariables false
namespace GrG
open Go Go.RowKit Go.Proofs
set_option maxRecDepth 1000000
theorem run10 : entRun env10 100000 6385 ent10 = true := by kernel_rfl
theorem run11 : entRun env11 100000 6906 ent11 = true := by kernel_rfl
theorem run12 : entRun env12 100000 7457 ent12 = true := by kernel_rfl
end GrG
