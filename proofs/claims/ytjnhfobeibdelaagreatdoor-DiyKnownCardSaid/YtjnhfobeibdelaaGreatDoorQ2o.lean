/-
  granulelaw24, cut into calls that are known: known calls, reckoned by the kernel.
-/
import Derived.Test.YtjnhfobeibdelaaGreatDoorQ20
set_option linter.unusedSimpArgs false
set_option linter.unusedVariables false
namespace GrG
open Go Go.RowKit Go.Proofs
set_option maxRecDepth 1000000
theorem run43 : entRun env43 100000 20908 ent43 = true := by kernel_rfl
theorem run44 : entRun env44 100000 22624 ent44 = true := by kernel_rfl
theorem run45 : entRun env45 100000 23219 ent45 = true := by kernel_rfl
end GrG
