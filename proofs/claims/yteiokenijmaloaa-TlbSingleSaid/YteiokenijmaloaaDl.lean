/-
  Layer 7: the laws' walks.
-/
import Derived.Test.YteiokenijmaloaaDj
import Derived.Test.YteiokenijmaloaaDh
import Derived.Test.YteiokenijmaloaaDa
set_option linter.unusedSimpArgs false
set_option linter.unusedVariables false
namespace Go.Proofs.Yteiokenijmaloaa
open Go.RowKit

theorem wbstep {w : World} {W w1 : World} (x : Wb W) (h : Below w.heap.size w W) : Below w.heap.size w x.at := h.trans (x.bel.mono h.size)

theorem kept_below (v t : Bool) (o : Int) (u r s q : Bool) (w : World) :
    Calls Try.prog 37 #[.agg #[.bool v, .bool t, .int .u64 o, .bool u, .bool r, .bool s, .bool q]] w fun e w' => e = .returned (.bool (v && u && !t)) ∧ Below w.heap.size w w' :=
  Calls.same_below (kept_any ⟨v, t, o, u, r, s, q⟩ w) ((Below.refl _ _).alloc (Nat.le_refl _) _)

end Go.Proofs.Yteiokenijmaloaa