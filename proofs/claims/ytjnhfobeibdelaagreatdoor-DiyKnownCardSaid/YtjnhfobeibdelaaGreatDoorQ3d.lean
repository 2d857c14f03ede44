/-
  granulelaw24.DiyKnown, cut into calls that are known: reckoned by the kernel.
-/
import Derived.Test.YtjnhfobeibdelaaGreatDoorQ30
set_option linter.unusedSimpArgs false
set_option linter.unusedVariables false
namespace GrG
open Go Go.RowKit Go.Proofs
set_option maxRecDepth 1000000
theorem topK5 : isTrue (answer envKTop 100000 5 [.str [50, 43, 50, 87]] theM) = true := by kernel_rfl
theorem topK6 : isTrue (answer envKTop 100000 5 [.str [87, 82, 67]] theM) = true := by kernel_rfl
theorem topK7 : isTrue (answer envKTop 100000 5 [.str [73, 82, 73, 87]] theM) = true := by kernel_rfl
theorem topK8 : isTrue (answer envKTop 100000 5 [.ns kNames] theM) = true := by kernel_rfl
end GrG
