/-
  granulelaw24, cut into calls that are known: known calls, reckoned by the kernel.
-/
import Derived.Test.YtjnhfobeibdelaaGreatDoorQ20
set_option linter.unusedSimpArgs false
set_option linter.unusedVariables false
namespace GrG
open Go Go.RowKit Go.Proofs
set_option maxRecDepth 1000000
theorem run49 : entRun env49 100000 13287 ent49 = true := by kernel_rfl
theorem runTop : isTrue (answer envTop 100000 6 [] theM) = true := by kernel_rfl
end GrG
