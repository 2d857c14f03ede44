/-
  granulelaw22: known calls, reckoned by the kernel.
-/
import Derived.Test.YtlpejfoeiaogcabGreatP0
set_option linter.unusedSimpArgs false
set_option linter.unusedVariables false
namespace GrG
open Go Go.RowKit Go.Proofs
set_option maxRecDepth 1000000
theorem run15 : entRun env15 100000 5982 ent15 = true := by kernel_rfl
theorem run16 : entRun env16 100000 6467 ent16 = true := by kernel_rfl
theorem run17 : entRun env17 100000 4682 ent17 = true := by kernel_rfl
theorem runTop : isTrue (answer envTop 100000 4 [] ⟨.leaf, 0, [], []⟩) = true := by kernel_rfl
end GrG
