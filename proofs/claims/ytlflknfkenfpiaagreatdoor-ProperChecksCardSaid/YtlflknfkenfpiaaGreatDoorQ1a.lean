/-
  Texts of one claim, merged.
-/
import Derived.Test.YtlflknfkenfpiaaGreatDoorQ10
set_option linter.unusedSimpArgs false
set_option linter.unusedVariables false
namespace GrG
open Go Go.RowKit Go.Proofs
set_option maxRecDepth 1000000
theorem run0A : entRun env0 100000 14 (ent0 (.atl 2)) = true := by kernel_rfl
theorem run0B : entRun env0 100000 14 (ent0 (.les 2)) = true := by kernel_rfl
end GrG
