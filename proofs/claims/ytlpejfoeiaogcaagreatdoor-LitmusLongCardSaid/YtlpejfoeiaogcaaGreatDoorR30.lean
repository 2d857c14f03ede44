/-
  granulelaw12.awake is true: the second class of bytealg.MaxLen.
-/
import Derived.Test.YtlpejfoeiaogcaaGreatDoorR29
set_option linter.unusedSimpArgs false
set_option linter.unusedVariables false
namespace GrG
open Go Go.RowKit Go.Proofs
set_option maxRecDepth 1000000
theorem awake_les : isTrue (answer theE 100000 4 [] (theM (.les 2))) = true := by kernel_rfl
end GrG
