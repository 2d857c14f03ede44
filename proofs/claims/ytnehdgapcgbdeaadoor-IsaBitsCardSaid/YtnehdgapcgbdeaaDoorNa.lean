/-
  Layer 3: the listed table: what 'laid' gives the walks; the door's own heap meets it.
-/
import Derived.Test.YtnehdgapcgbdeaaDoorJb
import Derived.Test.YtnehdgapcgbdeaaDoorTie
import Derived.Test.YtnehdgapcgbdeaaDoorKit
import Derived.LaidMore
import Derived.LaidLaws
import Derived.LaidHandle
import Derived.MakeChecks
import Derived.OpenShut
import Derived.Stop.Joined
set_option linter.unusedSimpArgs false
set_option linter.unusedVariables false
namespace Go.Proofs.YtnehdgapcgbdeaaDoor
open Go.ChangeShapes Go.WideShapes Go.ChangeAt Go.RowKit

def litV {H : Type} : DataW H → Value
  | .lit (.int k n) => .int k n
  | .lit (.bool b) => .bool b
  | _ => undef
def rowV {H : Type} : DataW H → List Value
  | .agg l => l.map litV
  | _ => []
def rowsOf {H : Type} : DataW H → List (DataW H)
  | .agg l => l
  | _ => []
theorem list9 {α : Type} (l : List α) (h : l.length = 9) : ∃ x0 x1 x2 x3 x4 x5 x6 x7 x8, l = [x0, x1, x2, x3, x4, x5, x6, x7, x8] := by
  match l, h with
  | [x0, x1, x2, x3, x4, x5, x6, x7, x8], _ => exact ⟨x0, x1, x2, x3, x4, x5, x6, x7, x8, rfl⟩

/-- a row of the table reads as its cells -/
theorem row_cells {H : Type} {enc : TypeId × Value → H} {w : World} {base : Nat} {sp : Nat → Bool} {held : Bool} {m : Nat} {l : List Value} {x : DataW H × List MemPlace}
    (h : DataW.trod enc Tryd.prog w base sp held m 40 l = some x) : l = rowV x.1 := by
  obtain ⟨xs, n, _, rfl, hl, hx, hg⟩ := DataW.trod_struct Tryd.underlying40 h
  have h9 : l.length = 9 := by rw [hl]; kernel_rfl
  obtain ⟨c0, c1, c2, c3, c4, c5, c6, c7, c8, rfl⟩ := list9 l h9
  obtain ⟨y0, y1, y2, y3, y4, y5, y6, y7, y8, rfl⟩ := list9 xs hx
  have k1 : Tryd.prog.cellsOf 25 = 1 := by kernel_rfl
  have k2 : Tryd.prog.cellsOf 4 = 1 := by kernel_rfl
  have k3 : Tryd.prog.cellsOf 3 = 1 := by kernel_rfl
  have g0 : DataW.trod enc Tryd.prog w base sp held n 25 (([c0, c1, c2, c3, c4, c5, c6, c7, c8].drop 0).take (Tryd.prog.cellsOf 25)) = some y0 := hg 0 _ rfl
  have g1 : DataW.trod enc Tryd.prog w base sp held n 4 (([c0, c1, c2, c3, c4, c5, c6, c7, c8].drop 1).take (Tryd.prog.cellsOf 4)) = some y1 := hg 1 _ rfl
  have g2 : DataW.trod enc Tryd.prog w base sp held n 4 (([c0, c1, c2, c3, c4, c5, c6, c7, c8].drop 2).take (Tryd.prog.cellsOf 4)) = some y2 := hg 2 _ rfl
  have g3 : DataW.trod enc Tryd.prog w base sp held n 4 (([c0, c1, c2, c3, c4, c5, c6, c7, c8].drop 3).take (Tryd.prog.cellsOf 4)) = some y3 := hg 3 _ rfl
  have g4 : DataW.trod enc Tryd.prog w base sp held n 3 (([c0, c1, c2, c3, c4, c5, c6, c7, c8].drop 4).take (Tryd.prog.cellsOf 3)) = some y4 := hg 4 _ rfl
  have g5 : DataW.trod enc Tryd.prog w base sp held n 3 (([c0, c1, c2, c3, c4, c5, c6, c7, c8].drop 5).take (Tryd.prog.cellsOf 3)) = some y5 := hg 5 _ rfl
  have g6 : DataW.trod enc Tryd.prog w base sp held n 3 (([c0, c1, c2, c3, c4, c5, c6, c7, c8].drop 6).take (Tryd.prog.cellsOf 3)) = some y6 := hg 6 _ rfl
  have g7 : DataW.trod enc Tryd.prog w base sp held n 3 (([c0, c1, c2, c3, c4, c5, c6, c7, c8].drop 7).take (Tryd.prog.cellsOf 3)) = some y7 := hg 7 _ rfl
  have g8 : DataW.trod enc Tryd.prog w base sp held n 3 (([c0, c1, c2, c3, c4, c5, c6, c7, c8].drop 8).take (Tryd.prog.cellsOf 3)) = some y8 := hg 8 _ rfl
  rw [k1] at g0
  rw [k2] at g1
  rw [k2] at g2
  rw [k2] at g3
  rw [k3] at g4
  rw [k3] at g5
  rw [k3] at g6
  rw [k3] at g7
  rw [k3] at g8
  simp only [List.drop_zero, List.drop_succ_cons, List.take_succ_cons, List.take_zero] at g0 g1 g2 g3 g4 g5 g6 g7 g8
  obtain ⟨a0, e0, f0, _⟩ := DataW.trod_int Tryd.underlying25 g0
  obtain ⟨a1, e1, f1⟩ := DataW.trod_bool Tryd.underlying4 g1
  obtain ⟨a2, e2, f2⟩ := DataW.trod_bool Tryd.underlying4 g2
  obtain ⟨a3, e3, f3⟩ := DataW.trod_bool Tryd.underlying4 g3
  obtain ⟨a4, e4, f4, _⟩ := DataW.trod_int Tryd.underlying3 g4
  obtain ⟨a5, e5, f5, _⟩ := DataW.trod_int Tryd.underlying3 g5
  obtain ⟨a6, e6, f6, _⟩ := DataW.trod_int Tryd.underlying3 g6
  obtain ⟨a7, e7, f7, _⟩ := DataW.trod_int Tryd.underlying3 g7
  obtain ⟨a8, e8, f8, _⟩ := DataW.trod_int Tryd.underlying3 g8
  simp only [List.cons.injEq, and_true] at e0 e1 e2 e3 e4 e5 e6 e7 e8
  subst e0 e1 e2 e3 e4 e5 e6 e7 e8 f0 f1 f2 f3 f4 f5 f6 f7 f8
  rfl

theorem gShapes : Tryd.prog.globalNamed "granule/isa.shapes" = some 0 := by kernel_rfl
theorem tShapes : (Tryd.prog.globals[0]?).map (·.type) = some 41 := by kernel_rfl
theorem tab_rows : (rowsOf (Rows.laid_granule_isa_shapes (H := Unit))).map rowV = (List.range 24).map (fun r => (shapeCells.drop (r * 9)).take 9) := by kernel_rfl
theorem tab_len : (rowsOf (Rows.laid_granule_isa_shapes (H := Unit))).length = 24 := by kernel_rfl
theorem shape_len : shapeCells.length = 216 := by kernel_rfl

theorem shat_of_laid {W : World} (h : laidMetH Tryd.prog [("granule/isa.shapes", Rows.laid_granule_isa_shapes)] W) : ShAt W := by
  rw [MakeChecks.laidMetH_plain _ _ _ (by kernel_rfl)] at h
  obtain ⟨ps, ⟨g0, t0, cs0, f0, p0, q0, hg0, ht0, hv0, hd0, _, _⟩, _, _⟩ := h
  obtain rfl := Option.some.inj (gShapes.symm.trans hg0)
  obtain rfl := Option.some.inj (tShapes.symm.trans ht0)
  obtain ⟨xs, m, _, hx, hl, hlen, hel⟩ := DataW.trod_array Tryd.underlying41 hd0
  have c9 : Tryd.prog.cellsOf 40 = 9 := by kernel_rfl
  have c216 : Tryd.prog.cellsOf 41 = 216 := by kernel_rfl
  rw [c9] at hel
  rw [c216] at hl
  have hr : rowsOf (Rows.laid_granule_isa_shapes (H := Unit)) = xs.map (·.1) := congrArg (fun z => rowsOf z.1) hx
  have hrow : ∀ r, r < 24 → (cs0.toList.drop (r * 9)).take 9 = (shapeCells.drop (r * 9)).take 9 := fun r hr24 => by
    have h1 := hel r hr24
    rw [List.getElem?_eq_getElem (by omega)] at h1
    have h2 := row_cells h1
    have h3 := congrArg (fun l => l[r]?) tab_rows
    simp only [hr, List.getElem?_map, List.getElem?_range hr24, Option.map_some] at h3
    rw [List.getElem?_eq_getElem (by omega)] at h3
    simp only [Option.map_some, Option.some.injEq] at h3
    rw [h2, h3]
  intro i hi
  have hc := World.var?_cell hg0 hv0 i
  rw [hc]
  have h1 := congrArg (fun l => l[i % 9]?) (hrow (i / 9) (by omega))
  simp only [List.getElem?_take, List.getElem?_drop, if_pos (show i % 9 < 9 by omega), show i / 9 * 9 + i % 9 = i by omega] at h1
  rw [← Array.getElem?_toList, h1, List.getD_eq_getElem?_getD, List.getElem?_eq_getElem (by rw [shape_len]; omega)]
  rfl

theorem bd_u32 {n : Int} (h : (Lit.int .u32 n).wf = true) : 0 ≤ n ∧ n < 4294967296 := by
  simp [Lit.wf, IntKind.min, IntKind.max, IntKind.signed, IntKind.bits] at h
  omega

/-- the door's own heap meets the condition -/
theorem door_met (os : Os) (args : Array Value) : laidMetH Tryd.prog [("granule/isa.shapes", Rows.laid_granule_isa_shapes)] ((World.doorLaid Tryd.prog 37 os).forCall (fun _ _ => 0) ⟨#[], args, []⟩).memory :=
  laidMetH_of_parts3 (fuel := 8) (laidMet_of_run' 8 (by kernel_rfl) (by kernel_rfl)) (by kernel_rfl) (by kernel_rfl)
end Go.Proofs.YtnehdgapcgbdeaaDoor
