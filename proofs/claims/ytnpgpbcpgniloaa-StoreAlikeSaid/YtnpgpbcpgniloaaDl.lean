/-
  Layer 7: the laws' walks.
-/
import Derived.Test.YtnpgpbcpgniloaaDj
import Derived.Test.YtnpgpbcpgniloaaDh
import Derived.Test.YtnpgpbcpgniloaaDa
set_option linter.unusedSimpArgs false
set_option linter.unusedVariables false
namespace Go.Proofs.Ytnpgpbcpgniloaa
open Go.RowKit

theorem wbstep {w : World} {W w1 : World} (x : Wb W) (h : Below w.heap.size w W) : Below w.heap.size w x.at := h.trans (x.bel.mono h.size)

theorem allowed_below (v t : Bool) (o : Int) (u r s q b : Bool) (w : World) :
    Calls Try.prog 64 #[.agg #[.bool v, .bool t, .int .u64 o, .bool u, .bool r, .bool s, .bool q], .bool b] w fun e w' => e = .returned (.int .i64 (GrD.allowed ⟨v, t, o, u, r, s, q⟩ b)) ∧ Below w.heap.size w w' :=
  Calls.same_below (allowed_any ⟨v, t, o, u, r, s, q⟩ b w) ((Below.refl _ _).alloc (Nat.le_refl _) _)

end Go.Proofs.Ytnpgpbcpgniloaa