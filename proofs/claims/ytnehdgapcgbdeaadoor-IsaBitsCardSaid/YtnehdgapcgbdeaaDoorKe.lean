/-
  Layer 3, Decode: numbers; what the rounds keep.
-/
import Derived.Test.YtnehdgapcgbdeaaDoorJo
import Derived.Test.YtnehdgapcgbdeaaDoorBr
set_option linter.unusedSimpArgs false
set_option linter.unusedVariables false
namespace GrI
/-- what the code takes a word for, of an operation and a kind -/
def gC (op w kind : Int) : I := ⟨op, (guess op w kind).d, (guess op w kind).n, (guess op w kind).m, (guess op w kind).imm, kind⟩
theorem gC_word (x : I) (h : right x) : gC x.op (word x) x.kind = x := by
  rw [gC, guess_word x h]
/-- how many kinds are tried of an operation -/
def tries (op : Int) : Int := if op = 6 then 4 else if op = 17 then 2 else if op = 18 ∨ op = 19 then 16 else if op = 21 then 8 else if op = 23 then 3 else 0
def many (op : Int) : Int := if tries op < 1 then 1 else tries op
theorem many_pos (op : Int) : 1 ≤ many op := by unfold many; split <;> omega
theorem kind_tried (y : I) (h : right y) : 0 ≤ y.kind ∧ y.kind < many y.op := by
  obtain ⟨op, d, n, m, imm, kind⟩ := y
  have ho := ops h
  simp only at ho
  rcases ho with rfl | rfl | rfl | rfl | rfl | rfl | rfl | rfl | rfl | rfl | rfl | rfl | rfl | rfl | rfl | rfl | rfl | rfl | rfl | rfl | rfl | rfl | rfl
  all_goals
    simp [right, parts, nums] at h
    simp [many, tries]
    try omega
/-- no instruction of this word has been passed over -/
def None (x k j : Int) : Prop := ∀ y, right y → word y = x → ¬ (y.op < k ∨ (y.op = k ∧ y.kind < j))
theorem none_start (x : Int) : None x 1 0 := fun y hr _ h => by
  have ho := ops hr
  have hk := (kind_tried y hr).1
  omega
theorem none_next {x k j : Int} (h : None x k j) (hno : ¬ (right (gC k x j) ∧ word (gC k x j) = x)) : None x k (j + 1) := fun y hr hw hc => by
  by_cases e : y.op = k ∧ y.kind = j
  · have g := gC_word y hr
    rw [hw, e.1, e.2] at g
    rw [g] at hno
    exact hno ⟨hr, hw⟩
  · exact h y hr hw (by omega)
theorem none_row {x k : Int} (h : None x k (many k)) : None x (k + 1) 0 := fun y hr hw hc => by
  have hk := kind_tried y hr
  refine h y hr hw ?_
  by_cases e : y.op = k
  · rw [e] at hk; exact .inr ⟨e, hk.2⟩
  · exact .inl (by omega)
theorem none_end {x : Int} (h : None x 24 0) (y : I) (hr : right y) : word y ≠ x := fun hw => h y hr hw (.inl (by have := ops hr; omega))
theorem gC_imm (x op kind : Int) (h0 : 0 ≤ x) (h1 : x < 4294967296) : -9223372036854775808 ≤ (gC op x kind).imm ∧ (gC op x kind).imm ≤ 9223372036854775807 := by
  simp only [gC, guess, sign]
  repeat' split
  all_goals omega
end GrI
namespace Go.Proofs.YtnehdgapcgbdeaaDoor
open Go.RowKit
/-- what the rounds of Decode keep of the world: the table, the box of the result -/
structure DI (w wr : World) : Prop where
  sh : ShAt wr
  cell : ∀ j, j < 6 → wr.cell? ⟨w.heap.size, j, none⟩ = some (.int .i64 0)
  free : ∀ j, wr.frozen? ⟨w.heap.size, j, none⟩ = false
  bel : Below w.heap.size w wr
  lt : w.heap.size < wr.heap.size
theorem DI.below {w wr w' : World} (h : DI w wr) (b : Below wr.heap.size wr w') : DI w w' :=
  ⟨h.sh.below b, fun j hj => (b.cell (p := ⟨w.heap.size, j, none⟩) h.lt).trans (h.cell j hj), fun j => (b.frozen (p := ⟨w.heap.size, j, none⟩) h.lt).trans (h.free j), h.bel.trans (b.mono (by have := h.lt; omega)), by have := b.size; have := h.lt; omega⟩
theorem DI.alloc {w wr : World} (h : DI w wr) (o : Obj) : DI w (wr.alloc o) := h.below ((Below.refl _ _).alloc (Nat.le_refl _) o)
theorem DI.start {w : World} (hs : ShAt w) (b : Obj) (hb : b = .cells #[.int .i64 0, .int .i64 0, .int .i64 0, .int .i64 0, .int .i64 0, .int .i64 0] 23) : DI w (w.alloc b) := by
  subst hb
  refine ⟨hs.alloc _, fun j hj => ?_, fun j => frozen_new j ⟨_, Below.refl _ _⟩, (Below.refl _ _).alloc (Nat.le_refl _) _, by simp⟩
  have : j = 0 ∨ j = 1 ∨ j = 2 ∨ j = 3 ∨ j = 4 ∨ j = 5 := by omega
  rcases this with rfl | rfl | rfl | rfl | rfl | rfl <;> simp [World.cell?_alloc_new]
theorem kinds_cell (k : Nat) (h0 : 1 ≤ k) (h1 : k ≤ 23) : shapeCells.getD (k * 9 + 7) undef = .int .i64 (GrI.tries k) := by
  have h : k = 1 ∨ k = 2 ∨ k = 3 ∨ k = 4 ∨ k = 5 ∨ k = 6 ∨ k = 7 ∨ k = 8 ∨ k = 9 ∨ k = 10 ∨ k = 11 ∨ k = 12 ∨ k = 13 ∨ k = 14 ∨ k = 15 ∨ k = 16 ∨ k = 17 ∨ k = 18 ∨ k = 19 ∨ k = 20 ∨ k = 21 ∨ k = 22 ∨ k = 23 := by omega
  rcases h with rfl | rfl | rfl | rfl | rfl | rfl | rfl | rfl | rfl | rfl | rfl | rfl | rfl | rfl | rfl | rfl | rfl | rfl | rfl | rfl | rfl | rfl | rfl <;> rfl
end Go.Proofs.YtnehdgapcgbdeaaDoor
