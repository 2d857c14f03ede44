/-
  granulelaw24, cut into calls that are known: known calls, reckoned by the kernel.
-/
import Derived.Test.YtjnhfobeibdelaaGreatDoorQ20
set_option linter.unusedSimpArgs false
set_option linter.unusedVariables false
namespace GrG
open Go Go.RowKit Go.Proofs
set_option maxRecDepth 1000000
theorem run46 : entRun env46 100000 23844 ent46 = true := by kernel_rfl
theorem run47 : entRun env47 100000 24389 ent47 = true := by kernel_rfl
theorem run48 : entRun env48 100000 22377 ent48 = true := by kernel_rfl
end GrG
