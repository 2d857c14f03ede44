/-
  Texts of one claim, merged.
-/
import Derived.Test.YtlflknfkenfpiaaGreatDoorQ10
set_option linter.unusedSimpArgs false
set_option linter.unusedVariables false
namespace GrG
open Go Go.RowKit Go.Proofs
set_option maxRecDepth 1000000
theorem run1 : entRun env1 100000 720 ent1 = true := by kernel_rfl
theorem runTopA : isTrue (answer (envTop (.atl 2)) 100000 4 [] (theM (.atl 2))) = true := by kernel_rfl
end GrG
