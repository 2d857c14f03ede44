/-
  granulelaw24, cut into calls that are known: known calls, reckoned by the kernel.
-/
import Derived.Test.YtjnhfobeibdelaaGreatDoorQ20
set_option linter.unusedSimpArgs false
set_option linter.unusedVariables false
namespace GrG
open Go Go.RowKit Go.Proofs
set_option maxRecDepth 1000000
theorem run16 : entRun env16 100000 9270 ent16 = true := by kernel_rfl
theorem run17 : entRun env17 100000 9821 ent17 = true := by kernel_rfl
theorem run18 : entRun env18 100000 10303 ent18 = true := by kernel_rfl
end GrG
