/-
  Texts of one claim, merged.
-/
import Derived.Test.YtlflknfkenfpiaaGreatDoorQ10
set_option linter.unusedSimpArgs false
set_option linter.unusedVariables false
namespace GrG
open Go Go.RowKit Go.Proofs
set_option maxRecDepth 1000000
theorem runTopB : isTrue (answer (envTop (.les 2)) 100000 4 [] (theM (.les 2))) = true := by kernel_rfl
end GrG
