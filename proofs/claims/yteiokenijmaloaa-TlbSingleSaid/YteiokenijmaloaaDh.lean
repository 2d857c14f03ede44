/-
  Layer 7, the walks: the page's own Right, Word, Address.
-/
import Derived.Test.YteiokenijmaloaaDg
import Derived.Deep.Light
set_option linter.unusedSimpArgs false
set_option linter.unusedVariables false
namespace Go.Proofs.Yteiokenijmaloaa
open Go.RowKit

theorem ret_bool' {a b : Bool} (h : a = b) : Ending.returned (.bool a) = .returned (.bool b) := by rw [h]

end Go.Proofs.Yteiokenijmaloaa