/-
  THE CLASS OF WORLDS of XBq, further: what a block more leaves.
-/
import Derived.Test.YteiokenijmaloaaDoorBq
set_option linter.unusedSimpArgs false
set_option linter.unusedVariables false
namespace Go.Proofs.YteiokenijmaloaaDoor
open Go.RowKit
theorem Wb.prev {w1 : World} {o : Obj} (y : Wb (w1.alloc o)) (a : Addr) (h : a.block < w1.heap.size) : y.at.cell? a = w1.cell? a := by
  rw [y.cell a (by simp; omega)]
  exact ((Below.refl w1.heap.size w1).alloc (Nat.le_refl _) o).cell h
theorem Wb.pfrozen {W : World} (x : Wb W) (a : Addr) (h : a.block < W.heap.size) : x.at.frozen? a = W.frozen? a := x.bel.frozen (p := a) h
theorem Wb.prevf {w1 : World} {o : Obj} (y : Wb (w1.alloc o)) (a : Addr) (h : a.block < w1.heap.size) : y.at.frozen? a = w1.frozen? a := by
  rw [y.pfrozen a (by simp; omega)]
  exact ((Below.refl w1.heap.size w1).alloc (Nat.le_refl _) o).frozen h
theorem frozen_new {w : World} {cs : Array Value} {T : TypeId} (i : Nat) (x : Wb (w.alloc (.cells cs T))) : x.at.frozen? ⟨w.heap.size, i, none⟩ = false := by
  rw [x.pfrozen _ (by simp)]
  unfold World.frozen?
  rw [heap_alloc_new]
  simp
theorem Wb.lift {W : World} (x : Wb W) {a : Addr} {v : Value} (h : ∀ z : Wb W, z.at.cell? a = some v) : ∀ z : Wb x.at, z.at.cell? a = some v := fun z => by
  obtain ⟨u, hu⟩ := Wb.next (x := x) z.bel
  rw [hu]
  exact h u
end Go.Proofs.YteiokenijmaloaaDoor
