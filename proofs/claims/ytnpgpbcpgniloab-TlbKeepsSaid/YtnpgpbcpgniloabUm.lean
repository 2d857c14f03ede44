/-
  Layer 9, the laws over rows of cells: TlbServing, TlbPlays.
-/
import Derived.Test.YtnpgpbcpgniloabUl
import Derived.Test.YtnpgpbcpgniloabKit
import Derived.Test.YtnpgpbcpgniloabKs
set_option linter.unusedSimpArgs false
set_option linter.unusedVariables false
namespace Go.Proofs.Ytnpgpbcpgniloab
open Go.ChangeShapes Go.WideShapes Go.ChangeAt Go.RowKit GrT

instance : Inhabited OpT := ⟨⟨0, ⟨0, 0, 0, 0⟩, 0, 0, 0⟩⟩
section
variable {H : Type} {enc : TypeId × Value → H} {w : World} {base : Nat} {spare : Nat → Bool} {held : Bool}
theorem open_entC {c0 c1 c2 c3 : Value} {m : Nat} {y : DataW H × List MemPlace} (hf : DataW.trod enc Try.prog w base spare held m 25 [c0, c1, c2, c3] = some y) :
    ∃ e : E, [c0, c1, c2, c3] = [.int .i64 e.space, .int .u64 e.page, .int .u64 e.first, .int .u64 e.last] ∧ EB e := by
  have f := open_fields_cells Try.underlying25 (by kernel_rfl) rfl hf
  obtain ⟨_, y0, n0, e0, g0⟩ := f 0 _ rfl
  simp only [List.getElem?_cons_zero, List.getElem?_cons_succ, Option.some.injEq] at e0
  subst e0
  obtain ⟨a0, u0, _, w0⟩ := DataW.trod_int Try.underlying3 g0
  simp only [List.cons.injEq, and_true] at u0
  subst u0
  obtain ⟨_, y1, n1, e1, g1⟩ := f 1 _ rfl
  simp only [List.getElem?_cons_zero, List.getElem?_cons_succ, Option.some.injEq] at e1
  subst e1
  obtain ⟨a1, u1, _, w1⟩ := DataW.trod_int Try.underlying23 g1
  simp only [List.cons.injEq, and_true] at u1
  subst u1
  obtain ⟨_, y2, n2, e2, g2⟩ := f 2 _ rfl
  simp only [List.getElem?_cons_zero, List.getElem?_cons_succ, Option.some.injEq] at e2
  subst e2
  obtain ⟨a2, u2, _, w2⟩ := DataW.trod_int Try.underlying23 g2
  simp only [List.cons.injEq, and_true] at u2
  subst u2
  obtain ⟨_, y3, n3, e3, g3⟩ := f 3 _ rfl
  simp only [List.getElem?_cons_zero, List.getElem?_cons_succ, Option.some.injEq] at e3
  subst e3
  obtain ⟨a3, u3, _, w3⟩ := DataW.trod_int Try.underlying23 g3
  simp only [List.cons.injEq, and_true] at u3
  subst u3
  exact ⟨⟨a0, a1, a2, a3⟩, rfl, bd_u64 w1, bd_u64 w2, bd_u64 w3⟩
theorem open_fluC {c0 c1 c2 : Value} {m : Nat} {y : DataW H × List MemPlace} (hf : DataW.trod enc Try.prog w base spare held m 38 [c0, c1, c2] = some y) :
    ∃ k p s : Int, [c0, c1, c2] = [.int .i64 k, .int .u64 p, .int .i64 s] ∧ 0 ≤ p ∧ p < 18446744073709551616 := by
  have f := open_fields_cells Try.underlying38 (by kernel_rfl) rfl hf
  obtain ⟨_, y0, n0, e0, g0⟩ := f 0 _ rfl
  simp only [List.getElem?_cons_zero, List.getElem?_cons_succ, Option.some.injEq] at e0
  subst e0
  obtain ⟨a0, u0, _, w0⟩ := DataW.trod_int Try.underlying3 g0
  simp only [List.cons.injEq, and_true] at u0
  subst u0
  obtain ⟨_, y1, n1, e1, g1⟩ := f 1 _ rfl
  simp only [List.getElem?_cons_zero, List.getElem?_cons_succ, Option.some.injEq] at e1
  subst e1
  obtain ⟨a1, u1, _, w1⟩ := DataW.trod_int Try.underlying23 g1
  simp only [List.cons.injEq, and_true] at u1
  subst u1
  obtain ⟨_, y2, n2, e2, g2⟩ := f 2 _ rfl
  simp only [List.getElem?_cons_zero, List.getElem?_cons_succ, Option.some.injEq] at e2
  subst e2
  obtain ⟨a2, u2, _, w2⟩ := DataW.trod_int Try.underlying3 g2
  simp only [List.cons.injEq, and_true] at u2
  subst u2
  exact ⟨a0, a1, a2, rfl, bd_u64 w1⟩
theorem open_opT {R : List Value} {m : Nat} {y : DataW H × List MemPlace} (h : R.length = 8) (hf : DataW.trod enc Try.prog w base spare held m 40 R = some y) :
    ∃ q : OpT, R = [.int .i64 q.kd, .int .i64 q.e.space, .int .u64 q.e.page, .int .u64 q.e.first, .int .u64 q.e.last, .int .i64 q.fk, .int .u64 q.fp, .int .i64 q.fs] ∧ EB q.e ∧ 0 ≤ q.fp ∧ q.fp < 18446744073709551616 := by
  match R, h with
  | [c0, c1, c2, c3, c4, c5, c6, c7], _ =>
    have k0 : Try.prog.cellsOf 3 = 1 := by kernel_rfl
    have k1 : Try.prog.cellsOf 25 = 4 := by kernel_rfl
    have k2 : Try.prog.cellsOf 38 = 3 := by kernel_rfl
    obtain ⟨xs, n, _, hx, _, hlen, hg⟩ := DataW.trod_struct Try.underlying40 hf
    match xs, hlen with
    | [z0, z1, z2], _ =>
      have g0 : DataW.trod enc Try.prog w base spare held n 3 [c0] = some z0 := by have := hg 0 _ rfl; simpa [k0] using this
      have g1 : DataW.trod enc Try.prog w base spare held n 25 [c1, c2, c3, c4] = some z1 := by have := hg 1 _ rfl; simpa [k1] using this
      have g2 : DataW.trod enc Try.prog w base spare held n 38 [c5, c6, c7] = some z2 := by have := hg 2 _ rfl; simpa [k2] using this
      obtain ⟨a0, u0, _, w0⟩ := DataW.trod_int Try.underlying3 g0
      simp only [List.cons.injEq, and_true] at u0
      subst u0
      obtain ⟨e, he, heb⟩ := open_entC g1
      obtain ⟨k, p, s, hk, hp⟩ := open_fluC g2
      simp only [List.cons.injEq, and_true] at he hk
      obtain ⟨rfl, rfl, rfl, rfl⟩ := he
      obtain ⟨rfl, rfl, rfl⟩ := hk
      exact ⟨⟨a0, e, k, p, s⟩, rfl, heb, hp⟩
end
theorem SlT_rows {v : Value} {n : Nat} {R : Nat → List Value} {w : World} (s : SlAt w v 8 n ((List.range n).flatMap R)) (g : ∀ i, i < n → ∃ q : OpT, R i = [.int .i64 q.kd, .int .i64 q.e.space, .int .u64 q.e.page, .int .u64 q.e.first, .int .u64 q.e.last, .int .i64 q.fk, .int .u64 q.fp, .int .i64 q.fs] ∧ EB q.e ∧ 0 ≤ q.fp ∧ q.fp < 18446744073709551616) : ∃ S : OpTs, SlT w v S ∧ BdT S := by
  obtain ⟨KX, hKX⟩ := Go.Deep.choose_lt (α := OpT) g
  refine ⟨(List.range n).map KX, ?_, fun p hp => ?_⟩
  · have e : opsT ((List.range n).map KX) = (List.range n).flatMap R := by
      unfold opsT
      rw [List.flatMap_map]
      exact Go.Deep.flatMap_congr_range fun i hi => (hKX i hi).1.symm
    unfold SlT
    rw [e, List.length_map, List.length_range]
    exact s
  · obtain ⟨i, hi, rfl⟩ := List.mem_map.1 hp
    exact (hKX i (List.mem_range.1 hi)).2
theorem TlbServing_rows (v : Value) (k : Nat) (R : Nat → List Value) (n p : Int) (w : World) (s : SlAt w v 8 k ((List.range k).flatMap R)) (g : ∀ i, i < k → ∃ q : OpT, R i = [.int .i64 q.kd, .int .i64 q.e.space, .int .u64 q.e.page, .int .u64 q.e.first, .int .u64 q.e.last, .int .i64 q.fk, .int .u64 q.fp, .int .i64 q.fs] ∧ EB q.e ∧ 0 ≤ q.fp ∧ q.fp < 18446744073709551616) (b : 0 ≤ p ∧ p < 18446744073709551616) :
    Calls Try.prog 6 #[v, .int .i64 n, .int .u64 p] w fun e w' => e = .returned (.bool true) ∧ Below w.heap.size w w' := by
  obtain ⟨S, hS, hB⟩ := SlT_rows s g
  exact TlbServing_walk v S n p w hS hB b.1 b.2
theorem TlbPlays_rows (v : Value) (k : Nat) (R : Nat → List Value) (e0 e1 e2 e3 : Int) (w : World) (s : SlAt w v 8 k ((List.range k).flatMap R)) (g : ∀ i, i < k → ∃ q : OpT, R i = [.int .i64 q.kd, .int .i64 q.e.space, .int .u64 q.e.page, .int .u64 q.e.first, .int .u64 q.e.last, .int .i64 q.fk, .int .u64 q.fp, .int .i64 q.fs] ∧ EB q.e ∧ 0 ≤ q.fp ∧ q.fp < 18446744073709551616) :
    Calls Try.prog 3 #[v, .agg #[.int .i64 e0, .int .u64 e1, .int .u64 e2, .int .u64 e3]] w fun e w' => e = .returned (.bool true) ∧ Below w.heap.size w w' := by
  obtain ⟨S, hS, hB⟩ := SlT_rows s g
  exact TlbPlays_walk v S e0 e1 e2 e3 w hS hB
end Go.Proofs.Ytnpgpbcpgniloab
