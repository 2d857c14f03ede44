/-
  Layer 7, the walks: the page's own Decode, whole.
-/
import Derived.Test.YtnpgpbcpgniloaaDi
set_option linter.unusedSimpArgs false
set_option linter.unusedVariables false
namespace Go.Proofs.Ytnpgpbcpgniloaa
open Go.RowKit

end Go.Proofs.Ytnpgpbcpgniloaa
