/-
  Layer 7, the walks: the page's own Decode.
-/
import Derived.Test.YtnpgpbcpgniloaaDg
import Derived.Test.YtnpgpbcpgniloaaFs
set_option linter.unusedSimpArgs false
set_option linter.unusedVariables false
namespace Go.Proofs.Ytnpgpbcpgniloaa
open Go.RowKit

theorem Wb.old {w1 : World} {o : Obj} (y : Wb (w1.alloc o)) (a : Addr) (h : a.block < w1.heap.size) : y.at.cell? a = w1.cell? a := by
  rw [y.cell a (by simp; omega)]
  exact ((Below.refl w1.heap.size w1).alloc (Nat.le_refl _) o).cell h
theorem Wb.frozen {W : World} (x : Wb W) (a : Addr) (h : a.block < W.heap.size) : x.at.frozen? a = W.frozen? a := x.bel.frozen (p := a) h
theorem Wb.oldf {w1 : World} {o : Obj} (y : Wb (w1.alloc o)) (a : Addr) (h : a.block < w1.heap.size) : y.at.frozen? a = w1.frozen? a := by
  rw [y.frozen a (by simp; omega)]
  exact ((Below.refl w1.heap.size w1).alloc (Nat.le_refl _) o).frozen h

theorem box7f (w : World) (v t : Bool) (o : Int) (u r s q : Bool) (W : World) (hW : W = w.alloc (.cells #[.bool v, .bool t, .int .u64 o, .bool u, .bool r, .bool s, .bool q] 118)) (i : Nat) : ∀ x : Wb W, x.at.frozen? ⟨w.heap.size, i, none⟩ = false := by
  subst hW
  intro x
  rw [x.frozen _ (by simp)]
  unfold World.frozen?
  rw [heap_alloc_new]
  simp

end Go.Proofs.Ytnpgpbcpgniloaa
