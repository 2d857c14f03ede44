/-
  Layer 2: the shelf's contracts of strconv and math/bits, laid at this seat; formatBits at base 16.
-/
import Derived.Test.YteiokenijmaloaaDoorHb
import Derived.Shelf.Lay
import Derived.Shelf.LaysM
import Derived.Shelf.Strconv.Itoa3
import Derived.Shelf.Spec.TrailingZeros
import Derived.Lib.AppendIntMem
import Derived.Ground.NamesProg
import Derived.Ground.Names7Prog
set_option linter.unusedSimpArgs false
set_option linter.unusedVariables false
namespace Go.Proofs
shelf_lay LaysM.n171 Nm 171 at Tryd as Tryd.laysA
shelf_lay Lays7.n27 Nm7 27 at Tryd as Tryd.laysT
end Go.Proofs

namespace Go.Proofs.YteiokenijmaloaaDoor
open Go.RowKit GrP Go.Lib Go.Shelf

/-- the library's tables, as their initialisers lay them -/
structure TB (w : World) : Prop where
  pow : Lib.TabIs Tryd.prog w "internal/strconv.uint64pow10" .u64 Lib.pow10Tab
  de : TabAt 2 Lib.deBruijn64tab w
theorem TB.below {w w' : World} (h : TB w) (k : Below w.heap.size w w') : TB w' := by
  constructor
  · have hp := h.pow
    unfold Lib.TabIs World.var? at *
    rw [show Tryd.prog.globalNamed "internal/strconv.uint64pow10" = some 0 by kernel_rfl] at *
    dsimp only [Option.bind_eq_bind, Option.bind_some] at hp ⊢
    have hlt : 0 < w.heap.size := by
      by_cases c : 0 < w.heap.size
      · exact c
      · rw [Array.getElem?_eq_none (by omega)] at hp
        cases hp
    rw [k.block _ hlt]
    exact hp
  · intro j hj
    have hc := h.de j hj
    rw [k.cell (World.block_lt_of_cell? w _ hc)]
    exact hc

theorem ipot_any (w : World) : Calls Tryd.prog 33 #[.int .i64 16] w fun e w' => e = .returned (.bool true) ∧ w = w' := by
  go_enter Tryd.func33, Tryd.ntmps33
  go_wp2
  go_ret
  exact ⟨rfl, rfl⟩

theorem tz_any (w : World) (h : TB w) : Calls Tryd.prog 34 #[.int .u64 16] w fun e w' => e = .returned (.int .i64 4) ∧ w = w' :=
  (Any7.bits_TrailingZeros Tryd.laysT 16 (by omega) w (fun _ => h.de)).mono fun _ _ h => ⟨h.1, h.2.symm⟩
end Go.Proofs.YteiokenijmaloaaDoor
