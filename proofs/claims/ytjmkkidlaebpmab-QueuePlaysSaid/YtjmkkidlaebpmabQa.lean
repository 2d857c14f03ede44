/-
  Layer 19: a queue is a block whose one cell is a channel; what the calls leave of the other blocks.
-/
import Derived.Test.YtjmkkidlaebpmabBx
import Derived.Conc.LoneCalls
import Derived.Conc.LoneSelect
import Derived.Conc.LoneSelectN
set_option linter.unusedSimpArgs false
set_option linter.unusedVariables false
namespace Go.Proofs.Ytjmkkidlaebpmab
open Go.Conc Go.RowKit

/-- all blocks but B are as they were -/
structure Only (B : Nat) (w w' : World) : Prop where
  os : w'.os = w.os
  tape : w'.tape = w.tape
  output : w'.output = w.output
  size : w.heap.size ≤ w'.heap.size
  block : ∀ k, k < w.heap.size → k ≠ B → w'.heap[k]? = w.heap[k]?
theorem Only.refl (B : Nat) (w : World) : Only B w w := ⟨rfl, rfl, rfl, Nat.le_refl _, fun _ _ _ => rfl⟩
theorem Only.trans {B : Nat} {a b c : World} (h : Only B a b) (k : Only B b c) : Only B a c :=
  ⟨k.os.trans h.os, k.tape.trans h.tape, k.output.trans h.output, Nat.le_trans h.size k.size, fun i hi hn => (k.block i (Nat.lt_of_lt_of_le hi h.size) hn).trans (h.block i hi hn)⟩
theorem Only.of_below {B : Nat} {w w' : World} (h : Below w.heap.size w w') : Only B w w' := ⟨h.os, h.tape, h.output, h.size, fun k hk _ => h.block k hk⟩
theorem Only.below {B b : Nat} {w w' : World} (h : Only B w w') (h1 : b ≤ B) (h2 : b ≤ w.heap.size) : Below b w w' := ⟨h.os, h.tape, h.output, h.size, fun k hk => h.block k (by omega) (by omega)⟩
theorem Only.bel {B : Nat} {a b c : World} (h : Only B a b) (k : Below a.heap.size b c) : Only B a c :=
  ⟨k.os.trans h.os, k.tape.trans h.tape, k.output.trans h.output, Nat.le_trans h.size k.size, fun i hi hn => (k.block i hi).trans (h.block i hi hn)⟩
theorem Only.chan (w : World) (c cap : Nat) (buf : Array Value) (cl : Bool) (s r : Nat) (tm : Bool) : Only c w (w.setChan c cap buf cl s r tm) :=
  ⟨rfl, rfl, rfl, by simp [World.setChan], fun k _ hn => by simp only [World.setChan]; rw [Array.getElem?_setIfInBounds_ne (by omega)]⟩

/-- block c is an open channel with room cap that holds L -/
def Ch (V : World) (c cap : Nat) (L : List Value) : Prop := ∃ s r, V.heap[c]? = some (.chan cap L.toArray false s r false)
theorem Ch.lt {V : World} {c cap : Nat} {L : List Value} (h : Ch V c cap L) : c < V.heap.size := by
  obtain ⟨s, r, h⟩ := h
  by_cases k : c < V.heap.size
  · exact k
  · rw [Array.getElem?_eq_none (by omega)] at h
    cases h
theorem Ch.keep {V U : World} {c cap : Nat} {L : List Value} (h : Ch V c cap L) (e : U.heap[c]? = V.heap[c]?) : Ch U c cap L := by
  obtain ⟨s, r, h⟩ := h
  exact ⟨s, r, e.trans h⟩
theorem Ch.below {V U : World} {c cap : Nat} {L : List Value} (h : Ch V c cap L) (k : Below V.heap.size V U) : Ch U c cap L := h.keep (k.block c h.lt)
theorem Ch.old {V : World} {c cap : Nat} {L : List Value} (h : Ch V c cap L) (o : Obj) : Ch (V.alloc o) c cap L := h.keep (Below.heap_alloc V o c h.lt)
theorem Ch.oth {V : World} {c cap : Nat} {L : List Value} (h : Ch V c cap L) {C : Nat} (hn : c ≠ C) (i : Nat) (v : Value) : Ch (V.setCell ⟨C, i, none⟩ v) c cap L := h.keep (heap_setCell_other V _ c v hn)
theorem Ch.only {V U : World} {c cap B : Nat} {L : List Value} (h : Ch V c cap L) (k : Only B V U) (hn : c ≠ B) : Ch U c cap L := h.keep (k.block c h.lt hn)
theorem Ch.new (V : World) (cap n : Nat) (h : V.heap.size = n) : Ch (V.alloc (.chan cap #[] false 0 0 false)) n cap [] := ⟨0, 0, h ▸ heap_alloc_new V _⟩
theorem Row.only {V U : World} {B C : Nat} {L : List Value} {T : TypeId} (h : Row V B L T) (k : Only C V U) (hn : B ≠ C) : Row U B L T := (k.block B h.lt hn).trans h
end Go.Proofs.Ytjmkkidlaebpmab
