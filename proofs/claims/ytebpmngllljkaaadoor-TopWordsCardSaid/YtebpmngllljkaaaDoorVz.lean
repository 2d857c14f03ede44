/-
  Layer 4: the listed tables: what 'laid' gives the walks; the door's own heap meets it.
-/
import Derived.Test.YtebpmngllljkaaaDoorJc
import Derived.Test.YtebpmngllljkaaaDoorVq
import Derived.Lay
import Derived.PinnedBridge
import Derived.Test.YtebpmngllljkaaaDoorTie
import Derived.Test.YtebpmngllljkaaaDoorKit
import Derived.LaidMore
import Derived.LaidLaws
import Derived.LaidHandle
import Derived.MakeChecks
import Derived.OpenShut
import Derived.Stop.Joined
set_option linter.unusedSimpArgs false
set_option linter.unusedVariables false
namespace Go.Proofs.YtebpmngllljkaaaDoor
open Go.ChangeShapes Go.WideShapes Go.ChangeAt Go.RowKit

def litV {H : Type} : DataW H → Value
  | .lit (.int k n) => .int k n
  | .lit (.bool b) => .bool b
  | _ => undef
def rowV {H : Type} : DataW H → List Value
  | .agg l => l.map litV
  | _ => []
def rowsOf {H : Type} : DataW H → List (DataW H)
  | .agg l => l
  | _ => []
theorem list9 {α : Type} (l : List α) (h : l.length = 9) : ∃ x0 x1 x2 x3 x4 x5 x6 x7 x8, l = [x0, x1, x2, x3, x4, x5, x6, x7, x8] := by
  match l, h with
  | [x0, x1, x2, x3, x4, x5, x6, x7, x8], _ => exact ⟨x0, x1, x2, x3, x4, x5, x6, x7, x8, rfl⟩

/-- a row of the table reads as its cells -/
theorem row_cells {H : Type} {enc : TypeId × Value → H} {w : World} {base : Nat} {sp : Nat → Bool} {held : Bool} {m : Nat} {l : List Value} {x : DataW H × List MemPlace}
    (h : DataW.trod enc Tryd.prog w base sp held m 60 l = some x) : l = rowV x.1 := by
  obtain ⟨xs, n, _, rfl, hl, hx, hg⟩ := DataW.trod_struct Tryd.underlying60 h
  have h9 : l.length = 9 := by rw [hl]; kernel_rfl
  obtain ⟨c0, c1, c2, c3, c4, c5, c6, c7, c8, rfl⟩ := list9 l h9
  obtain ⟨y0, y1, y2, y3, y4, y5, y6, y7, y8, rfl⟩ := list9 xs hx
  have k1 : Tryd.prog.cellsOf 41 = 1 := by kernel_rfl
  have k2 : Tryd.prog.cellsOf 4 = 1 := by kernel_rfl
  have k3 : Tryd.prog.cellsOf 3 = 1 := by kernel_rfl
  have g0 : DataW.trod enc Tryd.prog w base sp held n 41 (([c0, c1, c2, c3, c4, c5, c6, c7, c8].drop 0).take (Tryd.prog.cellsOf 41)) = some y0 := hg 0 _ rfl
  have g1 : DataW.trod enc Tryd.prog w base sp held n 4 (([c0, c1, c2, c3, c4, c5, c6, c7, c8].drop 1).take (Tryd.prog.cellsOf 4)) = some y1 := hg 1 _ rfl
  have g2 : DataW.trod enc Tryd.prog w base sp held n 4 (([c0, c1, c2, c3, c4, c5, c6, c7, c8].drop 2).take (Tryd.prog.cellsOf 4)) = some y2 := hg 2 _ rfl
  have g3 : DataW.trod enc Tryd.prog w base sp held n 4 (([c0, c1, c2, c3, c4, c5, c6, c7, c8].drop 3).take (Tryd.prog.cellsOf 4)) = some y3 := hg 3 _ rfl
  have g4 : DataW.trod enc Tryd.prog w base sp held n 3 (([c0, c1, c2, c3, c4, c5, c6, c7, c8].drop 4).take (Tryd.prog.cellsOf 3)) = some y4 := hg 4 _ rfl
  have g5 : DataW.trod enc Tryd.prog w base sp held n 3 (([c0, c1, c2, c3, c4, c5, c6, c7, c8].drop 5).take (Tryd.prog.cellsOf 3)) = some y5 := hg 5 _ rfl
  have g6 : DataW.trod enc Tryd.prog w base sp held n 3 (([c0, c1, c2, c3, c4, c5, c6, c7, c8].drop 6).take (Tryd.prog.cellsOf 3)) = some y6 := hg 6 _ rfl
  have g7 : DataW.trod enc Tryd.prog w base sp held n 3 (([c0, c1, c2, c3, c4, c5, c6, c7, c8].drop 7).take (Tryd.prog.cellsOf 3)) = some y7 := hg 7 _ rfl
  have g8 : DataW.trod enc Tryd.prog w base sp held n 3 (([c0, c1, c2, c3, c4, c5, c6, c7, c8].drop 8).take (Tryd.prog.cellsOf 3)) = some y8 := hg 8 _ rfl
  rw [k1] at g0
  rw [k2] at g1
  rw [k2] at g2
  rw [k2] at g3
  rw [k3] at g4
  rw [k3] at g5
  rw [k3] at g6
  rw [k3] at g7
  rw [k3] at g8
  simp only [List.drop_zero, List.drop_succ_cons, List.take_succ_cons, List.take_zero] at g0 g1 g2 g3 g4 g5 g6 g7 g8
  obtain ⟨a0, e0, f0, _⟩ := DataW.trod_int Tryd.underlying41 g0
  obtain ⟨a1, e1, f1⟩ := DataW.trod_bool Tryd.underlying4 g1
  obtain ⟨a2, e2, f2⟩ := DataW.trod_bool Tryd.underlying4 g2
  obtain ⟨a3, e3, f3⟩ := DataW.trod_bool Tryd.underlying4 g3
  obtain ⟨a4, e4, f4, _⟩ := DataW.trod_int Tryd.underlying3 g4
  obtain ⟨a5, e5, f5, _⟩ := DataW.trod_int Tryd.underlying3 g5
  obtain ⟨a6, e6, f6, _⟩ := DataW.trod_int Tryd.underlying3 g6
  obtain ⟨a7, e7, f7, _⟩ := DataW.trod_int Tryd.underlying3 g7
  obtain ⟨a8, e8, f8, _⟩ := DataW.trod_int Tryd.underlying3 g8
  simp only [List.cons.injEq, and_true] at e0 e1 e2 e3 e4 e5 e6 e7 e8
  subst e0 e1 e2 e3 e4 e5 e6 e7 e8 f0 f1 f2 f3 f4 f5 f6 f7 f8
  rfl

theorem gShapes : Tryd.prog.globalNamed "granule/isa.shapes" = some 5 := by kernel_rfl
theorem tShapes : (Tryd.prog.globals[5]?).map (·.type) = some 61 := by kernel_rfl
theorem tab_rows : (rowsOf (Rows.laid_granule_isa_shapes (H := Unit))).map rowV = (List.range 24).map (fun r => (shapeCells.drop (r * 9)).take 9) := by kernel_rfl
theorem tab_len : (rowsOf (Rows.laid_granule_isa_shapes (H := Unit))).length = 24 := by kernel_rfl
theorem shape_len : shapeCells.length = 216 := by kernel_rfl

theorem shat_of_parts {W : World} {cs0 : Array Value} {f0 : Nat} {base : Nat} {sp : Nat → Bool} {held : Bool} {p0 : List MemPlace} {enc : TypeId × Value → Unit} (hv0 : W.var? Tryd.prog "granule/isa.shapes" = some cs0) (hd0 : DataW.trod enc Tryd.prog W base sp held f0 61 cs0.toList = some (Rows.laid_granule_isa_shapes, p0)) : ShAt W := by
  have hg0 := gShapes
  obtain ⟨xs, m, _, hx, hl, hlen, hel⟩ := DataW.trod_array Tryd.underlying61 hd0
  have c9 : Tryd.prog.cellsOf 60 = 9 := by kernel_rfl
  have c216 : Tryd.prog.cellsOf 61 = 216 := by kernel_rfl
  rw [c9] at hel
  rw [c216] at hl
  have hr : rowsOf (Rows.laid_granule_isa_shapes (H := Unit)) = xs.map (·.1) := congrArg (fun z => rowsOf z.1) hx
  have hrow : ∀ r, r < 24 → (cs0.toList.drop (r * 9)).take 9 = (shapeCells.drop (r * 9)).take 9 := fun r hr24 => by
    have h1 := hel r hr24
    rw [List.getElem?_eq_getElem (by omega)] at h1
    have h2 := row_cells h1
    have h3 := congrArg (fun l => l[r]?) tab_rows
    simp only [hr, List.getElem?_map, List.getElem?_range hr24, Option.map_some] at h3
    rw [List.getElem?_eq_getElem (by omega)] at h3
    simp only [Option.map_some, Option.some.injEq] at h3
    rw [h2, h3]
  intro i hi
  have hc := World.var?_cell hg0 hv0 i
  rw [hc]
  have h1 := congrArg (fun l => l[i % 9]?) (hrow (i / 9) (by omega))
  simp only [List.getElem?_take, List.getElem?_drop, if_pos (show i % 9 < 9 by omega), show i / 9 * 9 + i % 9 = i by omega] at h1
  rw [← Array.getElem?_toList, h1, List.getD_eq_getElem?_getD, List.getElem?_eq_getElem (by rw [shape_len]; omega)]
  rfl


/-- a table of texts reads as its cells -/
theorem txAt_of {W : World} {n : Nat} {ty : TypeId} {nm : String} {g : Nat} {T : List GrA.Tx} {cs : Array Value} {f : Nat} {base : Nat} {sp : Nat → Bool} {held : Bool} {p : List MemPlace} {enc : TypeId × Value → Unit} (hu : Tryd.prog.underlying ty = some (.array n 9)) (hn : T.length = n) (hg : Tryd.prog.globalNamed nm = some g)
    (hv : W.var? Tryd.prog nm = some cs) (hd : DataW.trod enc Tryd.prog W base sp held f ty cs.toList = some (.agg (T.map fun t => .lit (.string t)), p)) : TxAt g T W := by
  obtain ⟨xs, m, _, hx, hl, hlen, hel⟩ := DataW.trod_array hu hd
  have c1 : Tryd.prog.cellsOf 9 = 1 := by kernel_rfl
  rw [c1] at hel
  have hx1 : T.map (fun t => (DataW.lit (.string t) : DataW Unit)) = xs.map (·.1) := DataW.agg.inj (congrArg Prod.fst hx)
  intro i hi
  have h1 := hel i (by omega)
  rw [List.getElem?_eq_getElem (by omega), Nat.mul_one] at h1
  obtain ⟨s, e1, e2, _⟩ := DataW.trod_string Tryd.underlying9 h1
  have h3 := congrArg (fun l => l[i]?) hx1
  simp only [List.getElem?_map] at h3
  rw [List.getElem?_eq_getElem hi, List.getElem?_eq_getElem (by omega : i < xs.length)] at h3
  simp only [Option.map_some, Option.some.injEq] at h3
  rw [e2] at h3
  have h4 : T[i] = s.data.toList := by simpa only [DataW.lit.injEq, Lit.string.injEq] using h3
  rw [World.var?_cell hg hv i, ← Array.getElem?_toList]
  have h5 : cs.toList[i]? = some (.string s) := by
    have h0 : ((cs.toList.drop i).take 1)[0]? = some (.string s) := by rw [e1]; rfl
    simpa using h0
  rw [h5, List.getD_eq_getElem?_getD, List.getElem?_eq_getElem hi]
  show some (Value.string s) = some (Value.string (GrP.strL T[i]))
  rw [h4]
  rfl

abbrev laidL : List (String × DataW Unit) := [("math/bits.deBruijn32tab", Rows.laid_math_bits_deBruijn32tab), ("math/bits.deBruijn64tab", Rows.laid_math_bits_deBruijn64tab), ("internal/strconv.uint64pow10", Rows.laid_internal_strconv_uint64pow10), ("unicode/utf8.acceptRanges", Rows.laid_unicode_utf8_acceptRanges), ("granule/isa.shapes", Rows.laid_granule_isa_shapes), ("granule/asm.names", Rows.laid_granule_asm_names), ("granule/asm.conds", Rows.laid_granule_asm_conds), ("granule/asm.barriers", Rows.laid_granule_asm_barriers), ("granule/asm.flushes", Rows.laid_granule_asm_flushes), ("granule/asm.systems", Rows.laid_granule_asm_systems), ("unicode/utf8.first", Rows.laid_unicode_utf8_first)]
set_option maxRecDepth 100000 in
theorem tab_of_laid {W : World} (h : laidMetH Tryd.prog laidL W) : Tab W := by
  rw [MakeChecks.laidMetH_plain _ _ _ (by kernel_rfl)] at h
  obtain ⟨ps, ⟨g0, t0, cs0, f0, p0, q0, hg0, ht0, hv0, hd0, hr0, _⟩, _, _⟩ := h
  obtain ⟨g1, t1, cs1, f1, p1, q1, hg1, ht1, hv1, hd1, hr1, _⟩ := hr0
  obtain ⟨g2, t2, cs2, f2, p2, q2, hg2, ht2, hv2, hd2, hr2, _⟩ := hr1
  obtain ⟨g3, t3, cs3, f3, p3, q3, hg3, ht3, hv3, hd3, hr3, _⟩ := hr2
  obtain ⟨g4, t4, cs4, f4, p4, q4, hg4, ht4, hv4, hd4, hr4, _⟩ := hr3
  obtain ⟨g5, t5, cs5, f5, p5, q5, hg5, ht5, hv5, hd5, hr5, _⟩ := hr4
  obtain ⟨g6, t6, cs6, f6, p6, q6, hg6, ht6, hv6, hd6, hr6, _⟩ := hr5
  obtain ⟨g7, t7, cs7, f7, p7, q7, hg7, ht7, hv7, hd7, hr7, _⟩ := hr6
  obtain ⟨g8, t8, cs8, f8, p8, q8, hg8, ht8, hv8, hd8, hr8, _⟩ := hr7
  obtain ⟨g9, t9, cs9, f9, p9, q9, hg9, ht9, hv9, hd9, hr9, _⟩ := hr8
  constructor
  · constructor
    · have hg : Tryd.prog.globalNamed "internal/strconv.uint64pow10" = some 6 := by kernel_rfl
      have hty : (Tryd.prog.globals[6]?).map (·.type) = some 114 := by kernel_rfl
      obtain rfl := Option.some.inj (hg.symm.trans hg2)
      obtain rfl := Option.some.inj (hty.symm.trans ht2)
      unfold Lib.TabIs
      rw [hv2, ← Lib.cells_of_tab Tryd.underlying114 Tryd.underlying67 (by kernel_rfl) (by kernel_rfl) (zs := Lib.pow10Tab) (k := .u64) hd2]
    · have hg : Tryd.prog.globalNamed "math/bits.deBruijn64tab" = some 10 := by kernel_rfl
      have hty : (Tryd.prog.globals[10]?).map (·.type) = some 128 := by kernel_rfl
      obtain rfl := Option.some.inj (hg.symm.trans hg1)
      obtain rfl := Option.some.inj (hty.symm.trans ht1)
      have e := Lib.cells_of_tab Tryd.underlying128 Tryd.underlying5 (by kernel_rfl) (by kernel_rfl) (zs := Lib.deBruijn64tab.map (fun (j : Nat) => (j : Int))) (k := .u8) hd1
      intro j hj
      rw [World.var?_cell hg1 hv1 j, ← Array.getElem?_toList, e]
      simp only [List.getElem?_map, List.getElem?_eq_getElem hj, Option.map_some, List.getD_eq_getElem?_getD, Option.getD_some]
  · have hty := tShapes
    obtain rfl := Option.some.inj (gShapes.symm.trans hg4)
    obtain rfl := Option.some.inj (hty.symm.trans ht4)
    exact shat_of_parts hv4 hd4
  · have hg : Tryd.prog.globalNamed "granule/asm.names" = some 0 := by kernel_rfl
    have hty : (Tryd.prog.globals[0]?).map (·.type) = some 46 := by kernel_rfl
    obtain rfl := Option.some.inj (hg.symm.trans hg5)
    obtain rfl := Option.some.inj (hty.symm.trans ht5)
    exact txAt_of (T := GrA.names) Tryd.underlying46 rfl hg5 hv5 (by exact hd5)
  · have hg : Tryd.prog.globalNamed "granule/asm.conds" = some 1 := by kernel_rfl
    have hty : (Tryd.prog.globals[1]?).map (·.type) = some 48 := by kernel_rfl
    obtain rfl := Option.some.inj (hg.symm.trans hg6)
    obtain rfl := Option.some.inj (hty.symm.trans ht6)
    exact txAt_of (T := GrA.conds) Tryd.underlying48 rfl hg6 hv6 (by exact hd6)
  · have hg : Tryd.prog.globalNamed "granule/asm.barriers" = some 2 := by kernel_rfl
    have hty : (Tryd.prog.globals[2]?).map (·.type) = some 49 := by kernel_rfl
    obtain rfl := Option.some.inj (hg.symm.trans hg7)
    obtain rfl := Option.some.inj (hty.symm.trans ht7)
    exact txAt_of (T := GrA.bars) Tryd.underlying49 rfl hg7 hv7 (by exact hd7)
  · have hg : Tryd.prog.globalNamed "granule/asm.flushes" = some 3 := by kernel_rfl
    have hty : (Tryd.prog.globals[3]?).map (·.type) = some 50 := by kernel_rfl
    obtain rfl := Option.some.inj (hg.symm.trans hg8)
    obtain rfl := Option.some.inj (hty.symm.trans ht8)
    exact txAt_of (T := GrA.flushes) Tryd.underlying50 rfl hg8 hv8 (by exact hd8)
  · have hg : Tryd.prog.globalNamed "granule/asm.systems" = some 4 := by kernel_rfl
    have hty : (Tryd.prog.globals[4]?).map (·.type) = some 51 := by kernel_rfl
    obtain rfl := Option.some.inj (hg.symm.trans hg9)
    obtain rfl := Option.some.inj (hty.symm.trans ht9)
    exact txAt_of (T := GrA.systems) Tryd.underlying51 rfl hg9 hv9 (by exact hd9)
theorem door_met (os : Os) (args : Array Value) : laidMetH Tryd.prog laidL ((World.laidAll Tryd.prog os laidL).forCall (fun _ _ => 0) ⟨#[], args, []⟩).memory := by
  rw [MakeChecks.laidMetH_plain _ _ _ (by kernel_rfl)]
  exact laidMet_laidAll _ (by kernel_rfl) (by kernel_rfl)
end Go.Proofs.YtebpmngllljkaaaDoor
