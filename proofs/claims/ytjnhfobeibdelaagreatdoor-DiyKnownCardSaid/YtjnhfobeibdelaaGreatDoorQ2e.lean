/-
  granulelaw24, cut into calls that are known: known calls, reckoned by the kernel.
-/
import Derived.Test.YtjnhfobeibdelaaGreatDoorQ20
set_option linter.unusedSimpArgs false
set_option linter.unusedVariables false
namespace GrG
open Go Go.RowKit Go.Proofs
set_option maxRecDepth 1000000
theorem run13 : entRun env13 100000 7939 ent13 = true := by kernel_rfl
theorem run14 : entRun env14 100000 6153 ent14 = true := by kernel_rfl
theorem run15 : entRun env15 100000 8749 ent15 = true := by kernel_rfl
end GrG
