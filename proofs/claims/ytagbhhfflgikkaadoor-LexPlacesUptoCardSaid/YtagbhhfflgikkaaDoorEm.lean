/-
  Layer 10, the walks: strings.SplitSeq at a line's end, as an iterator.
-/
import Derived.Test.YtagbhhfflgikkaaDoorEk
import Derived.Test.YtagbhhfflgikkaaDoorEl
set_option linter.unusedSimpArgs false
set_option linter.unusedVariables false
namespace GrL
open Go GrP
/-- the lines of s from f on, k at most -/
def lines (s : Tx) : Nat → Nat → List Tx
  | 0, _ => []
  | k + 1, f => if f ≤ s.length then (s.drop f).take (lineN s f) :: lines s k (f + lineN s f + 1) else []
theorem lines_at (s : Tx) (k f : Nat) : lines s (k + 1) f = if f ≤ s.length then (s.drop f).take (lineN s f) :: lines s k (f + lineN s f + 1) else [] := rfl
theorem lines_out {s : Tx} {f : Nat} (h : ¬ f ≤ s.length) : ∀ k, lines s k f = []
  | 0 => rfl
  | k + 1 => by rw [lines_at, if_neg h]
theorem lines_more (s : Tx) : ∀ k f, s.length < f + k → lines s (k + 1) f = lines s k f
  | 0, f, h => by rw [lines_out (by omega), lines_out (by omega)]
  | k + 1, f, h => by rw [lines_at s (k + 1) f, lines_at s k f, lines_more s k (f + lineN s f + 1) (by omega)]
theorem lines_enough (s : Tx) : ∀ j k f, s.length < f + k → lines s (k + j) f = lines s k f
  | 0, k, f, h => rfl
  | j + 1, k, f, h => by rw [show k + (j + 1) = k + j + 1 by omega, lines_more s (k + j) f (by omega), lines_enough s j k f h]
def linesL (s : Tx) : List Tx := lines s (s.length + 1) 0
/-- pre has come, and the line at f is the next -/
def Lns (s : Tx) (pre : List Tx) (f : Nat) : Prop := f ≤ s.length + 1 ∧ linesL s = pre ++ lines s (s.length + 1 - f) f ∧ pre.length ≤ f
theorem Lns.start (s : Tx) : Lns s [] 0 := ⟨by omega, rfl, by simp⟩
theorem Lns.split {s : Tx} {pre : List Tx} {f : Nat} (h : Lns s pre f) (hf : f ≤ s.length) : linesL s = pre ++ (s.drop f).take (lineN s f) :: lines s (s.length - f) (f + lineN s f + 1) := by
  rw [h.2.1, show s.length + 1 - f = s.length - f + 1 by omega, lines_at, if_pos hf]
theorem Lns.next {s : Tx} {pre : List Tx} {f : Nat} (h : Lns s pre f) (hf : f ≤ s.length) : Lns s (pre ++ [(s.drop f).take (lineN s f)]) (f + lineN s f + 1) := by
  have hl := lineN_le s f hf
  refine ⟨by omega, ?_, by have := h.2.2; simp; omega⟩
  rw [h.split hf, List.append_assoc, List.singleton_append]
  congr 2
  rw [show s.length - f = s.length + 1 - (f + lineN s f + 1) + lineN s f by omega]
  exact lines_enough s _ _ _ (by omega)
theorem Lns.done {s : Tx} {pre : List Tx} {f : Nat} (h : Lns s pre f) (hf : s.length < f) : linesL s = pre := by
  rw [h.2.1, show s.length + 1 - f = 0 by omega]
  simp [lines]
theorem indexByte_line (s : Tx) (f : Nat) : Lib.indexByte (s.drop f) 10 = if lineN s f < s.length - f then ((lineN s f : Nat) : Int) else -1 := by
  rw [Go.Proofs.YtagbhhfflgikkaaDoor.indexByte_tw, List.length_drop]
  rfl
end GrL
namespace Go.Proofs.YtagbhhfflgikkaaDoor
open Go.RowKit GrP GrL Go.Shelf

theorem splitseq_any (l : Tx) (w : World) : Calls Tryd.prog 19 #[.string (strL l), .string ⟨#[10]⟩] w fun e w' => e = .returned (.func (.func 42) #[] #[.pointer (some ⟨w.heap.size + 1, 0, none⟩), .pointer (some ⟨w.heap.size, 0, none⟩), .pointer (some ⟨w.heap.size + 2, 0, none⟩)]) ∧ w' = ((w.alloc (.cells #[.string (strL l)] 9)).alloc (.cells #[.string ⟨#[10]⟩] 9)).alloc (.cells #[.int .i64 0] 3) := by
  have H : ∀ w, Calls Tryd.prog 28 #[.string (strL l), .string ⟨#[10]⟩, .int .i64 0] w fun e w' => e = .returned (.func (.func 42) #[] #[.pointer (some ⟨w.heap.size + 1, 0, none⟩), .pointer (some ⟨w.heap.size, 0, none⟩), .pointer (some ⟨w.heap.size + 2, 0, none⟩)]) ∧ w' = ((w.alloc (.cells #[.string (strL l)] 9)).alloc (.cells #[.string ⟨#[10]⟩] 9)).alloc (.cells #[.int .i64 0] 3) := by
    intro w
    go_enter Tryd.func28, Tryd.ntmps28
    go_wp2
    go_ret
    exact ⟨rfl, rfl⟩
  go_enter Tryd.func19, Tryd.ntmps19
  go_wp2_with (go_at_call 28; refine (H _).mono ?_; rintro e w9 ⟨rfl, rfl⟩)
  go_ret
  exact ⟨rfl, rfl⟩
end Go.Proofs.YtagbhhfflgikkaaDoor
