/-
  Layer 7, the walks: Encode, Address; the page's own Right, Word, Address.
-/
import Derived.Test.YteiokenijmaloaaDf
import Derived.Test.YteiokenijmaloaaFs
set_option linter.unusedSimpArgs false
set_option linter.unusedVariables false
namespace Go.Proofs.Yteiokenijmaloaa
open Go.RowKit

/-! ### Address -/
theorem low_put (x v : Int) (k : Int) (h0 : 0 ≤ x) (h1 : x < 18446744073709551616) (h2 : 0 ≤ v) (hk : k = 12 ∨ k = 21) : GrF.put x (k - 1) 0 v = if k = 21 then x - x % 2097152 + v % 2097152 else x - x % 4096 + v % 4096 := by
  rcases hk with rfl | rfl
  · exact GrD.put_low x v 11 (by omega) h0 h1 h2
  · exact GrD.put_low x v 20 (by omega) h0 h1 h2

end Go.Proofs.Yteiokenijmaloaa