/-
  REGIONS THAT DRAW THEIR ORDER, whose operations read what was there and whose callees make memory: one walk of the text's order serves every order. The class of worlds: all that hold what the world at the region's head holds, below its size.
  THE CLASS OF WORLDS of XBq, further: what a block more leaves.
-/
import Derived.Test.YtlpejfoeiaogcabGreatProg
import Derived.WalkKit
import Derived.WalkSpells
import Derived.WalkLawsBesides
import Derived.BigQuiet
import Derived.Handy
import Derived.Lib.Hide
import Derived.Below
import Derived.WalkSmall
import Derived.Deep.DeepCutAuto
set_option linter.unusedSimpArgs false
set_option linter.unusedVariables false
namespace Go.Proofs.YtlpejfoeiaogcabGreat
open Go.RowKit

/-- the worlds behind W that keep what W holds -/
def Wb (W : World) : Type := {w' : World // Below W.heap.size W w'}
def Wb.at {W : World} (x : Wb W) : World := x.1
theorem Wb.bel {W : World} (x : Wb W) : Below W.heap.size W x.at := x.2
instance wbNonempty (W : World) : Nonempty (Wb W) := ⟨⟨W, Below.refl _ _⟩⟩
theorem Wb.cell {W : World} (x : Wb W) (a : Addr) (h : a.block < W.heap.size) : x.at.cell? a = W.cell? a := x.bel.cell (p := a) h

theorem wp_region_wb {P : Program} {id : Nat} {Q : Exit → Act → World → Prop} {a : Act} {w : World} {l : List Oper} (hm : P.follows .mixedOrders = true) (hB : Region.lexB .any l.toArray = true)
    (h : wpQuiet P l.toArray (fun w' => ∃ n : Wb w, w' = n.at) (fun a' => ∀ w', (∃ n : Wb w, w' = n.at) → Q .normal a' w') l a) : (Code.region id l.toArray true).wp P Q a w :=
  wp_region_quiet (C := fun w' => ∃ n : Wb w, w' = n.at) hm hB ⟨⟨_, (Below.refl _ _).drew⟩, rfl⟩ (by simpa using h)

theorem Calls.wb {P : Program} {f : FuncId} {args : Array Value} {W : World} {x : Wb W} {v : Value}
    (h : Calls P f args x.at fun e w' => e = .returned v ∧ Below x.at.heap.size x.at w') : Calls P f args x.at fun e w'' => e = .returned v ∧ ∃ m : Wb W, w'' = m.at :=
  h.mono fun _ w' ⟨he, hb⟩ => ⟨he, ⟨w', x.bel.trans (hb.mono x.bel.size)⟩, rfl⟩

theorem Wb.start {W w1 : World} (h : Below W.heap.size W w1) : ∃ x : Wb W, w1 = x.at := ⟨⟨w1, h⟩, rfl⟩
theorem Wb.next {W w2 : World} {x : Wb W} (h : Below x.at.heap.size x.at w2) : ∃ x2 : Wb W, w2 = x2.at := ⟨⟨w2, x.bel.trans (h.mono x.bel.size)⟩, rfl⟩
theorem Wb.size {W : World} (x : Wb W) : W.heap.size ≤ x.at.heap.size := x.bel.size
theorem Calls.same_below {P : Program} {f : FuncId} {args : Array Value} {w w1 : World} {v : Value} (h : Calls P f args w fun e w' => e = .returned v ∧ w1 = w') (hb : Below w.heap.size w w1) : Calls P f args w fun e w' => e = .returned v ∧ Below w.heap.size w w' :=
  h.mono fun _ _ ⟨he, hw⟩ => ⟨he, hw ▸ hb⟩
end Go.Proofs.YtlpejfoeiaogcabGreat

namespace Go.Proofs.YtlpejfoeiaogcabGreat
open Go.RowKit
theorem Wb.prev {w1 : World} {o : Obj} (y : Wb (w1.alloc o)) (a : Addr) (h : a.block < w1.heap.size) : y.at.cell? a = w1.cell? a := by
  rw [y.cell a (by simp; omega)]
  exact ((Below.refl w1.heap.size w1).alloc (Nat.le_refl _) o).cell h
theorem Wb.pfrozen {W : World} (x : Wb W) (a : Addr) (h : a.block < W.heap.size) : x.at.frozen? a = W.frozen? a := x.bel.frozen (p := a) h
theorem Wb.prevf {w1 : World} {o : Obj} (y : Wb (w1.alloc o)) (a : Addr) (h : a.block < w1.heap.size) : y.at.frozen? a = w1.frozen? a := by
  rw [y.pfrozen a (by simp; omega)]
  exact ((Below.refl w1.heap.size w1).alloc (Nat.le_refl _) o).frozen h
theorem frozen_new {w : World} {cs : Array Value} {T : TypeId} (i : Nat) (x : Wb (w.alloc (.cells cs T))) : x.at.frozen? ⟨w.heap.size, i, none⟩ = false := by
  rw [x.pfrozen _ (by simp)]
  unfold World.frozen?
  rw [heap_alloc_new]
  simp
theorem Wb.lift {W : World} (x : Wb W) {a : Addr} {v : Value} (h : ∀ z : Wb W, z.at.cell? a = some v) : ∀ z : Wb x.at, z.at.cell? a = some v := fun z => by
  obtain ⟨u, hu⟩ := Wb.next (x := x) z.bel
  rw [hu]
  exact h u
end Go.Proofs.YtlpejfoeiaogcabGreat
