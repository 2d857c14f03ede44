/-
  Layer 10, the walks: the code's First.
-/
import Derived.Test.YtgpngjgilcbigaaDoorEe
set_option linter.unusedSimpArgs false
set_option linter.unusedVariables false
namespace Go.Proofs.YtgpngjgilcbigaaDoor
open Go.RowKit GrP GrL Go.Shelf

end Go.Proofs.YtgpngjgilcbigaaDoor