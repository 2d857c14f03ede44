/-
  Layer 7: the laws' walks.
-/
import Derived.Test.YtjmkkidlaebpmaaDj
import Derived.Test.YtjmkkidlaebpmaaDh
import Derived.Test.YtjmkkidlaebpmaaDa
set_option linter.unusedSimpArgs false
set_option linter.unusedVariables false
namespace Go.Proofs.Ytjmkkidlaebpmaa
open Go.RowKit

theorem wbstep {w : World} {W w1 : World} (x : Wb W) (h : Below w.heap.size w W) : Below w.heap.size w x.at := h.trans (x.bel.mono h.size)

theorem allowed_below (v t : Bool) (o : Int) (u r s q b : Bool) (w : World) :
    Calls Try.prog 56 #[.agg #[.bool v, .bool t, .int .u64 o, .bool u, .bool r, .bool s, .bool q], .bool b] w fun e w' => e = .returned (.int .i64 (GrD.allowed ⟨v, t, o, u, r, s, q⟩ b)) ∧ Below w.heap.size w w' :=
  Calls.same_below (allowed_any ⟨v, t, o, u, r, s, q⟩ b w) ((Below.refl _ _).alloc (Nat.le_refl _) _)
theorem rallowed_below (v t : Bool) (o : Int) (u r s q b : Bool) (w : World) :
    Calls Try.prog 58 #[.agg #[.bool v, .bool t, .int .u64 o, .bool u, .bool r, .bool s, .bool q], .bool b] w fun e w' => e = .returned (.int .i64 (GrD.allowed ⟨v, t, o, u, r, s, q⟩ b)) ∧ Below w.heap.size w w' :=
  Calls.same_below (rallowed_any ⟨v, t, o, u, r, s, q⟩ b w) ((Below.refl _ _).alloc (Nat.le_refl _) _)
theorem kept_below (v t : Bool) (o : Int) (u r s q : Bool) (w : World) :
    Calls Try.prog 84 #[.agg #[.bool v, .bool t, .int .u64 o, .bool u, .bool r, .bool s, .bool q]] w fun e w' => e = .returned (.bool (v && u && !t)) ∧ Below w.heap.size w w' :=
  Calls.same_below (kept_any ⟨v, t, o, u, r, s, q⟩ w) ((Below.refl _ _).alloc (Nat.le_refl _) _)

end Go.Proofs.Ytjmkkidlaebpmaa