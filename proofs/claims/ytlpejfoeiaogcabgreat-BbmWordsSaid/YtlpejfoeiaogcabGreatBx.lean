/-
  ROWS: one fact for each block, over the class of worlds of XBq: a block's cells, carried through allocs, stores and calls without spelling the world.
-/
import Derived.Test.YtlpejfoeiaogcabGreatBv
import Derived.Laws.Rows
set_option linter.unusedSimpArgs false
set_option linter.unusedVariables false
namespace Go.Proofs.YtlpejfoeiaogcabGreat
open Go.RowKit

/-- block B holds the cells L of type T, none of them frozen -/
def Row (V : World) (B : Nat) (L : List Value) (T : TypeId) : Prop := V.heap[B]? = some (.cells L.toArray T (0, 0))
theorem Row.heap {V : World} {B : Nat} {L : List Value} {T : TypeId} (h : Row V B L T) : V.heap[B]? = some (.cells L.toArray T (0, 0)) := h
theorem Row.lt {V : World} {B : Nat} {L : List Value} {T : TypeId} (h : Row V B L T) : B < V.heap.size := by
  by_cases c : B < V.heap.size
  · exact c
  · have := h.heap
    rw [Array.getElem?_eq_none (by omega)] at this
    cases this
theorem Row.cell {V : World} {B : Nat} {L : List Value} {T : TypeId} (h : Row V B L T) (i : Nat) : V.cell? ⟨B, i, none⟩ = L[i]? := by
  rw [cell_of_row V B i L.toArray T (0, 0) h]
  simp
theorem Row.free {V : World} {B : Nat} {L : List Value} {T : TypeId} (h : Row V B L T) (i : Nat) : V.frozen? ⟨B, i, none⟩ = false := frozen_of_row V B i L.toArray T h
theorem Row.new (V : World) (L : List Value) (T : TypeId) : Row (V.alloc (.cells L.toArray T)) V.heap.size L T := heap_alloc_new V _
theorem Row.new' (V : World) (L : List Value) (T : TypeId) (n : Nat) (h : V.heap.size = n) : Row (V.alloc (.cells L.toArray T)) n L T := h ▸ Row.new V L T
theorem Row.old {V : World} {B : Nat} {L : List Value} {T : TypeId} (h : Row V B L T) (o : Obj) : Row (V.alloc o) B L T := (Below.heap_alloc V o B h.lt).trans h
theorem Row.drew {V : World} {B : Nat} {L : List Value} {T : TypeId} (h : Row V B L T) : Row V.drew B L T := h
theorem Row.drewN {V : World} {B : Nat} {L : List Value} {T : TypeId} (h : Row V B L T) (n : Nat) : Row (V.drewN n) B L T := h
theorem Row.below {V U : World} {B : Nat} {L : List Value} {T : TypeId} (h : Row V B L T) (k : Below V.heap.size V U) : Row U B L T := (k.block B h.lt).trans h
theorem Row.set {V : World} {B : Nat} {L : List Value} {T : TypeId} (h : Row V B L T) (i : Nat) (v : Value) : Row (V.setCell ⟨B, i, none⟩ v) B (L.set i v) T := by
  have := heap_setCell_same V B i L.toArray T v h
  unfold Row
  rw [this]
  simp
theorem Row.other {V : World} {B : Nat} {L : List Value} {T : TypeId} (h : Row V B L T) (a : Addr) (v : Value) (hn : B ≠ a.block) : Row (V.setCell a v) B L T := (heap_setCell_other V a B v hn).trans h
theorem Row.oth {V : World} {B : Nat} {L : List Value} {T : TypeId} (h : Row V B L T) {C : Nat} (hn : B ≠ C) (i : Nat) (v : Value) : Row (V.setCell ⟨C, i, none⟩ v) B L T := h.other _ v hn
theorem KB.put {w V : World} (h : Below w.heap.size w V) {C : Nat} (hp : w.heap.size ≤ C) (i : Nat) (v : Value) : Below w.heap.size w (V.setCell ⟨C, i, none⟩ v) := h.setCell hp v
theorem Row.next {V U : World} {B : Nat} {L : List Value} {T : TypeId} (h : Row V B L T) (k : Below V.heap.size V U) : ∀ z : Wb U, Row z.at B L T := fun z => (h.below k).below z.bel
theorem Row.at {V : World} {B : Nat} {L : List Value} {T : TypeId} (h : Row V B L T) : ∀ z : Wb V, Row z.at B L T := fun z => h.below z.bel
theorem Row.upto {V U : World} {B m : Nat} {L : List Value} {T : TypeId} (h : Row V B L T) (k : Below m V U) (hm : B < m) : Row U B L T := (k.block B hm).trans h

theorem KB.start (w : World) : ∀ z : Wb w, Below w.heap.size w z.at := fun z => z.bel
theorem KB.next {w V U : World} (h : Below w.heap.size w V) (k : Below V.heap.size V U) : ∀ z : Wb U, Below w.heap.size w z.at := fun z => (h.trans (k.mono h.size)).trans (z.bel.mono (Nat.le_trans h.size k.size))
theorem KB.at {w V : World} (h : Below w.heap.size w V) : ∀ z : Wb V, Below w.heap.size w z.at := fun z => h.trans (z.bel.mono h.size)
theorem KB.alloc {w V : World} (h : Below w.heap.size w V) (o : Obj) : Below w.heap.size w (V.alloc o) := h.alloc h.size o
theorem KB.set {w V : World} (h : Below w.heap.size w V) (a : Addr) (v : Value) (hp : w.heap.size ≤ a.block) : Below w.heap.size w (V.setCell a v) := h.setCell hp v

/-- what holds of every later world of the class holds here -/
theorem to_cls {P : Program} {c : Code} {Q : Exit → Act → World → Prop} {a : Act} {V : World} (h : ∀ U, Below V.heap.size V U → ∀ z : Wb U, c.wp P Q a z.at) : c.wp P Q a V := h V (Below.refl _ _) ⟨V, Below.refl _ _⟩
theorem to_pt {P : Program} {c : Code} {Q : Exit → Act → World → Prop} {a : Act} {V : World} (h : ∀ U, Below V.heap.size V U → c.wp P Q a U) : c.wp P Q a V := h V (Below.refl _ _)
theorem to_cls_list {P : Program} {ops : Array Oper} {Q : Exit → Act → World → Prop} {l : List Oper} {a : Act} {V : World} (h : ∀ U, Below V.heap.size V U → ∀ z : Wb U, wpList P ops Q l a z.at) : wpList P ops Q l a V := h V (Below.refl _ _) ⟨V, Below.refl _ _⟩
end Go.Proofs.YtlpejfoeiaogcabGreat
