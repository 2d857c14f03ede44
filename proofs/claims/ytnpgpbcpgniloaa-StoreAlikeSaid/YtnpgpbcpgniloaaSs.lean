/-
  Layer 8, the laws' walks: WalkParts.
  Layer 8: slices of cells as they come in.
  Layer 8: WalkParts, over a slice as it comes in.
-/
import Derived.Test.YtnpgpbcpgniloaaSo
import Derived.Test.YtnpgpbcpgniloaaWa
import Derived.Test.YtnpgpbcpgniloaaKs
set_option linter.unusedSimpArgs false
set_option linter.unusedVariables false
namespace Go.Proofs.Ytnpgpbcpgniloaa
open Go.RowKit GrS

theorem ffield0 (k l : Int) (b : Bool) (w : World) : (Instr.field 28 (.agg #[.int .i64 k, .int .i64 l, .bool b]) 0).run Try.prog w = .ok (.int .i64 k) w := by kernel_rfl
theorem secondA_bd (F va : Int) : 0 ≤ GrW.secondA F va ∧ GrW.secondA F va < 18446744073709551616 := by
  unfold GrW.secondA
  split
  · rw [IntKind.wrap_u64]; omega
  · omega
theorem walkL_no (R : Int → Int) (tb va : Int) (b : Bool) (h : ¬ GrW.befK va = 0) : GrW.walkL R tb va b = [.int .i64 (GrW.befK va), .int .i64 0, .bool b, .int .u64 0, .int .u64 0, .int .u64 0, .int .i64 0] := by
  unfold GrW.walkL
  rw [if_neg h]
theorem walkL_two (R : Int → Int) (tb va : Int) (b : Bool) (h : GrW.befK va = 0) (t : GrW.isTable (GrW.wF R tb va) = true) : GrW.walkL R tb va b = [.int .i64 (GrW.allowK (GrW.wF R tb va) (GrW.wS R tb va) b), .int .i64 (GrW.thL (GrW.wF R tb va) (GrW.wS R tb va) b), .bool (GrW.thC (GrW.wF R tb va) (GrW.wS R tb va) b), .int .u64 (GrW.thA (GrW.wF R tb va) (GrW.wS R tb va) va b), .int .u64 (GrW.wF R tb va), .int .u64 (GrW.wS R tb va), .int .i64 2] := by
  unfold GrW.walkL
  rw [if_pos h, show GrW.wN R tb va = 2 by unfold GrW.wN; rw [if_pos t]]
theorem walkL_one (R : Int → Int) (tb va : Int) (b : Bool) (h : GrW.befK va = 0) (t : GrW.isTable (GrW.wF R tb va) = false) : GrW.walkL R tb va b = [.int .i64 (GrW.allowK (GrW.wF R tb va) 0 b), .int .i64 (GrW.thL (GrW.wF R tb va) 0 b), .bool (GrW.thC (GrW.wF R tb va) 0 b), .int .u64 (GrW.thA (GrW.wF R tb va) 0 va b), .int .u64 (GrW.wF R tb va), .int .u64 0, .int .i64 1] := by
  have t' : ¬ GrW.isTable (GrW.wF R tb va) = true := by rw [t]; decide
  unfold GrW.walkL
  rw [if_pos h, show GrW.wN R tb va = 1 by unfold GrW.wN; rw [if_neg t'], show GrW.wS R tb va = 0 by unfold GrW.wS; rw [if_neg t']]
theorem befV_no (va : Int) (b : Bool) (h : ¬ GrW.befK va = 0) : GrW.befV va b = GrW.fv (GrW.befK va) 0 b := by unfold GrW.befV; rw [if_neg h]
theorem thV_no (f l va : Int) (b : Bool) (h : ¬ GrW.befK va = 0) : GrW.thV f l va b = GrW.fv (GrW.befK va) 0 b := by unfold GrW.thV; rw [if_neg h]; exact befV_no va b h
theorem thA_no (f l va : Int) (b : Bool) (h : ¬ GrW.befK va = 0) : GrW.thA f l va b = 0 := by unfold GrW.thA; rw [if_neg h]
theorem walk_mem (p : Option Addr) (m : Int) (t : Option Tr) (L : List (Int × Int)) (tb va : Int) (b : Bool) (w : World) (ma : MAt w p m t) (rt : RelT t L) (hb : Bd L) (h0 : 0 ≤ va) (h1 : va < 18446744073709551616) :
    Calls Try.prog 16 #[.agg #[.pointer p, .int .i64 m], .int .u64 tb, .int .u64 va, .bool b] w fun e w' => e = .returned (.agg (GrW.walkL (readL L) tb va b).toArray) ∧ Below w.heap.size w w' :=
  walk_any (readL L) p m tb va b w h0 h1 (readL_bd hb)
    (fun _ => rt.reads ma _ (by rw [IntKind.wrap_u64]; omega) (by rw [IntKind.wrap_u64]; omega))
    (fun _ c => by
      have e : GrW.wS (readL L) tb va = readL L (GrW.secondA (GrW.wF (readL L) tb va) va) := by unfold GrW.wS; rw [if_pos c]
      rw [e]
      exact rt.reads ma _ (secondA_bd _ _).1 (secondA_bd _ _).2)

end Go.Proofs.Ytnpgpbcpgniloaa

namespace Go.Proofs.Ytnpgpbcpgniloaa
open Go.ChangeShapes Go.WideShapes Go.ChangeAt Go.RowKit GrS

section
variable {H : Type} {enc : TypeId × Value → H} {w : World} {base : Nat} {spare : Nat → Bool} {held : Bool}
theorem open_cell {R : List Value} {m : Nat} {y : DataW H × List MemPlace} (h : R.length = 2) (hf : DataW.trod enc Try.prog w base spare held m 64 R = some y) :
    ∃ p : Int × Int, R = [.int .u64 p.1, .int .u64 p.2] ∧ (0 ≤ p.1 ∧ p.1 < 18446744073709551616) ∧ 0 ≤ p.2 ∧ p.2 < 18446744073709551616 := by
  match R, h with
  | [c0, c1], _ =>
    have f := open_fields_cells Try.underlying64 (by kernel_rfl) rfl hf
    obtain ⟨_, y0, n0, e0, g0⟩ := f 0 _ rfl
    simp only [List.getElem?_cons_zero, List.getElem?_cons_succ, Option.some.injEq] at e0
    subst e0
    obtain ⟨a0, u0, _, w0⟩ := DataW.trod_int Try.underlying22 g0
    simp only [List.cons.injEq, and_true] at u0
    subst u0
    obtain ⟨_, y1, n1, e1, g1⟩ := f 1 _ rfl
    simp only [List.getElem?_cons_zero, List.getElem?_cons_succ, Option.some.injEq] at e1
    subst e1
    obtain ⟨a1, u1, _, w1⟩ := DataW.trod_int Try.underlying22 g1
    simp only [List.cons.injEq, and_true] at u1
    subst u1
    exact ⟨(a0, a1), rfl, bd_u64 w0, bd_u64 w1⟩
end
theorem slp_of_rows {v : Value} {n : Nat} {R : Nat → List Value} {w : World} (s : SlAt w v 2 n ((List.range n).flatMap R)) (g : ∀ i, i < n → ∃ p : Int × Int, R i = [.int .u64 p.1, .int .u64 p.2] ∧ (0 ≤ p.1 ∧ p.1 < 18446744073709551616) ∧ 0 ≤ p.2 ∧ p.2 < 18446744073709551616) :
    ∃ L, SlP w v L ∧ Bd L := by
  obtain ⟨KX, hKX⟩ := Go.Deep.choose_lt (α := Int × Int) g
  refine ⟨(List.range n).map KX, ?_, fun p hp => ?_⟩
  · have e : cellsL ((List.range n).map KX) = (List.range n).flatMap R := by
      unfold cellsL
      rw [List.flatMap_map]
      exact Go.Deep.flatMap_congr_range fun i hi => (hKX i hi).1.symm
    unfold SlP
    rw [e, List.length_map, List.length_range]
    exact s
  · obtain ⟨i, hi, rfl⟩ := List.mem_map.1 hp
    exact (hKX i (List.mem_range.1 hi)).2
end Go.Proofs.Ytnpgpbcpgniloaa

namespace Go.Proofs.Ytnpgpbcpgniloaa
open Go.RowKit GrS
end Go.Proofs.Ytnpgpbcpgniloaa