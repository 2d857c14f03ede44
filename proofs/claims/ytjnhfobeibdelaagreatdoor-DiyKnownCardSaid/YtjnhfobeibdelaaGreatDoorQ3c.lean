/-
  granulelaw24.DiyKnown, cut into calls that are known: reckoned by the kernel.
-/
import Derived.Test.YtjnhfobeibdelaaGreatDoorQ30
set_option linter.unusedSimpArgs false
set_option linter.unusedVariables false
namespace GrG
open Go Go.RowKit Go.Proofs
set_option maxRecDepth 1000000
theorem topK0 : isTrue (answer envKTop 100000 5 [.str [77, 80]] theM) = true := by kernel_rfl
theorem topK1 : isTrue (answer envKTop 100000 5 [.str [83, 66]] theM) = true := by kernel_rfl
theorem topK2 : isTrue (answer envKTop 100000 5 [.str [76, 66]] theM) = true := by kernel_rfl
theorem topK3 : isTrue (answer envKTop 100000 5 [.str [83]] theM) = true := by kernel_rfl
theorem topK4 : isTrue (answer envKTop 100000 5 [.str [82]] theM) = true := by kernel_rfl
end GrG
