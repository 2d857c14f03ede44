/-
  Layer 5, the liftings: what a file begins with, opened.
-/
import Derived.Test.YtnehdgapcgbdeaaKit
import Derived.Test.YtnehdgapcgbdeaaGb
import Derived.ChangeSlices
set_option linter.unusedSimpArgs false
set_option linter.unusedVariables false
namespace Go.Proofs.Ytnehdgapcgbdeaa
open Go.ChangeShapes Go.WideShapes Go.ChangeAt Go.RowKit
theorem list5 {α : Type} (l : List α) (h : l.length = 5) : ∃ x0 x1 x2 x3 x4, l = [x0, x1, x2, x3, x4] := by
  match l, h with
  | [x0, x1, x2, x3, x4], _ => exact ⟨x0, x1, x2, x3, x4, rfl⟩
theorem list3 {α : Type} (l : List α) (h : l.length = 3) : ∃ x0 x1 x2, l = [x0, x1, x2] := by
  match l, h with
  | [x0, x1, x2], _ => exact ⟨x0, x1, x2, rfl⟩
theorem open_start {H : Type} {enc : TypeId × Value → H} {W : World} {base b0 : Nat} {held : Bool} {r : Reach} {v : Value} {d : DataW H} {q : List MemPlace}
    (hv : Value.okWide Try.prog W r b0 33 v) (h : DataW.Trod enc Try.prog W base (fun _ => true) held 33 v d q) :
    ∃ (p : Option Addr) (len cap : Nat) (zs : List Int) (same : Bool) (y0 y1 y2 : Int), v = .agg #[.slice p len cap, .bool same, .int .u64 y0, .int .u64 y1, .int .u64 y2] ∧ USl W p len zs := by
  obtain ⟨cs, rfl, hsz⟩ := okWide_struct Try.underlying33 hv
  obtain ⟨l⟩ := cs
  have hl : l.length = 5 := hsz.trans (by kernel_rfl)
  obtain ⟨c0, c1, c2, c3, c4, rfl⟩ := list5 l hl
  obtain ⟨fuel, hf⟩ := h
  obtain ⟨xs, n, _, hx, _, hlen, hg⟩ := DataW.trod_struct Try.underlying33 hf
  obtain ⟨x0, x1, x2, rfl⟩ := list3 xs hlen
  have g0 : DataW.trod enc Try.prog W base (fun _ => true) held n 29 (([c0, c1, c2, c3, c4].drop 0).take (Try.prog.cellsOf 29)) = some x0 := hg 0 _ rfl
  have g1 : DataW.trod enc Try.prog W base (fun _ => true) held n 4 (([c0, c1, c2, c3, c4].drop 1).take (Try.prog.cellsOf 4)) = some x1 := hg 1 _ rfl
  have g2 : DataW.trod enc Try.prog W base (fun _ => true) held n 31 (([c0, c1, c2, c3, c4].drop 2).take (Try.prog.cellsOf 31)) = some x2 := hg 2 _ rfl
  rw [show Try.prog.cellsOf 29 = 1 by kernel_rfl] at g0
  rw [show Try.prog.cellsOf 4 = 1 by kernel_rfl] at g1
  rw [show Try.prog.cellsOf 31 = 3 by kernel_rfl] at g2
  simp only [List.drop_zero, List.drop_succ_cons, List.take_succ_cons, List.take_zero] at g0 g1 g2
  obtain ⟨b, e1, _⟩ := DataW.trod_bool Try.underlying4 g1
  obtain ⟨ys, hy, e2, _⟩ := cells_arr_int (n := 3) Try.underlying31 Try.underlying30 (by kernel_rfl) (by kernel_rfl) g2
  obtain ⟨y0, y1, y2, rfl⟩ := list3 ys hy
  simp only [List.map_cons, List.map_nil, List.cons.injEq, and_true] at e1 e2
  obtain ⟨rfl, rfl, rfl⟩ := e2
  subst e1
  rcases Go.ChangeShapes.open_ints Try.underlying29 Try.underlying30 (by kernel_rfl) g0 with ⟨e0, _⟩ | ⟨a, len, cap, zs, e0, _, hlc, _, hzl, _, hc, _⟩
  · simp only [List.cons.injEq, and_true] at e0
    subst e0
    exact ⟨none, 0, 0, [], b, y0, y1, y2, rfl, rfl, fun j hj => absurd hj (by omega)⟩
  · simp only [List.cons.injEq, and_true] at e0
    subst e0
    simp only [if_true] at hzl
    refine ⟨some a, len, cap, zs.take len, b, y0, y1, y2, rfl, by simp; omega, fun j hj => ⟨a, rfl, ?_⟩⟩
    rw [hc j (by omega), List.getD_eq_getElem?_getD, List.getD_eq_getElem?_getD, List.getElem?_take_of_lt hj]
end Go.Proofs.Ytnehdgapcgbdeaa
