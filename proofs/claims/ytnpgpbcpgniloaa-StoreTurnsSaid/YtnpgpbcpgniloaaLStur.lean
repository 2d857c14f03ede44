/-
  Whatever the input, granulelaw06.StoreTurns returns true and leaves its arguments as they were. No condition.
-/
import Derived.Test.YtnpgpbcpgniloaaZa
import Derived.Test.YtnpgpbcpgniloaaKit
import Derived.Test.YtnpgpbcpgniloaaKs
set_option linter.unusedSimpArgs false
set_option linter.unusedVariables false
namespace Go.Proofs.Ytnpgpbcpgniloaa
open Go.ChangeShapes Go.WideShapes Go.ChangeAt Go.RowKit
open Go.ChangeMaps (open_string shut_string)
namespace LStoreTurns
set_option linter.unusedVariables false

theorem list2 {α : Type} (l : List α) (h : l.length = 2) : ∃ x0 x1, l = [x0, x1] := by
  match l, h with
  | [x0, x1], _ => exact ⟨x0, x1, rfl⟩

set_option maxRecDepth 100000 in
theorem lifted (os : Os) (started : os.Started) (H : Type) (enc : TypeId × Value → H) :
    ReturnsInHanded {} Try.checked os 7 .any (Rows.storeTurnsSpec.pre6 enc Try.prog Try.f7 Rows.storeTurnsRow.domain false) (Rows.storeTurnsSpec.post enc Try.prog Try.f7 false true false false) := by
  refine returnsInHanded_of_change (C := Try.checked) own started (by kernel_rfl) Try.func7
    (ChangeSpec.witness6 (enc := enc) (C := Try.checked) false ⟨#[], #[.slice none 0 0, .agg #[.int .u64 0, .int .u64 0], .agg #[.int .u64 0, .int .u64 0]], []⟩ 8 (by kernel_rfl) (by kernel_rfl) (by kernel_rfl) (by kernel_rfl)) ?_
  intro W base args ds gs before hval0 hW hcnd _
  have hval : ∀ (j : Nat) t v, Try.f7.params[j]? = some t → args[j]? = some v → Value.okWide Try.prog W .any base t v := hval0
  have hW' := hW
  obtain ⟨p, q, hA0, hV, rfl, hfz, hnd⟩ := hW
  have hA : DataW.TrodAll enc Try.prog W 0 (fun _ => true) true Try.f7.params.toList args.toList ds p := hA0
  rw [Try.params7] at hA hval
  obtain ⟨v0, vs0, d0, ds0, p0, q0, hargs, rfl, rfl, h0, r0⟩ := trodAll_cons hA
  obtain ⟨v1, vs1, d1, ds1, p1, q1, rfl, rfl, rfl, h1, r1⟩ := trodAll_cons r0
  obtain ⟨v2, vs2, d2, ds2, p2, q2, rfl, rfl, rfl, h2, r2⟩ := trodAll_cons r1
  obtain ⟨rfl, rfl, rfl⟩ := trodAll_nil r2
  obtain rfl : args = #[v0, v1, v2] := by cases args; simp_all
  obtain ⟨rfl, rfl⟩ := trodVars_none hV
  have k0 := h0
  have lt0 : ∀ x ∈ p0, x.block < W.heap.size := by obtain ⟨m, hm⟩ := k0; exact DataW.trod_lt m _ _ _ hm
  obtain ⟨n0, R0, s0, g0⟩ := open_rows_arg 2 Try.underlying23 (by kernel_rfl) (hval 0 23 v0 rfl rfl) h0
  have k1 := h1
  have lt1 : ∀ x ∈ p1, x.block < W.heap.size := by obtain ⟨m, hm⟩ := k1; exact DataW.trod_lt m _ _ _ hm
  obtain ⟨cs1, rfl, hl1, hf1⟩ := open_fields Try.underlying64 (by kernel_rfl) (by kernel_rfl) (hval 1 64 v1 rfl rfl) h1
  obtain ⟨c1_0, c1_1, rfl⟩ := list2 cs1 hl1
  obtain ⟨_, y1_0, n1_0, e1_0, g1_0⟩ := hf1 0 _ rfl
  simp only [List.getElem?_cons_zero, List.getElem?_cons_succ, Option.some.injEq] at e1_0
  subst e1_0
  obtain ⟨a1_0, u1_0, _, w1_0⟩ := DataW.trod_int Try.underlying22 g1_0
  simp only [List.cons.injEq, and_true] at u1_0
  subst u1_0
  obtain ⟨_, y1_1, n1_1, e1_1, g1_1⟩ := hf1 1 _ rfl
  simp only [List.getElem?_cons_zero, List.getElem?_cons_succ, Option.some.injEq] at e1_1
  subst e1_1
  obtain ⟨a1_1, u1_1, _, w1_1⟩ := DataW.trod_int Try.underlying22 g1_1
  simp only [List.cons.injEq, and_true] at u1_1
  subst u1_1
  have k2 := h2
  have lt2 : ∀ x ∈ p2, x.block < W.heap.size := by obtain ⟨m, hm⟩ := k2; exact DataW.trod_lt m _ _ _ hm
  obtain ⟨cs2, rfl, hl2, hf2⟩ := open_fields Try.underlying64 (by kernel_rfl) (by kernel_rfl) (hval 2 64 v2 rfl rfl) h2
  obtain ⟨c2_0, c2_1, rfl⟩ := list2 cs2 hl2
  obtain ⟨_, y2_0, n2_0, e2_0, g2_0⟩ := hf2 0 _ rfl
  simp only [List.getElem?_cons_zero, List.getElem?_cons_succ, Option.some.injEq] at e2_0
  subst e2_0
  obtain ⟨a2_0, u2_0, _, w2_0⟩ := DataW.trod_int Try.underlying22 g2_0
  simp only [List.cons.injEq, and_true] at u2_0
  subst u2_0
  obtain ⟨_, y2_1, n2_1, e2_1, g2_1⟩ := hf2 1 _ rfl
  simp only [List.getElem?_cons_zero, List.getElem?_cons_succ, Option.some.injEq] at e2_1
  subst e2_1
  obtain ⟨a2_1, u2_1, _, w2_1⟩ := DataW.trod_int Try.underlying22 g2_1
  simp only [List.cons.injEq, and_true] at u2_1
  subst u2_1
  clear hA0 hval0
  refine (StoreTurns_rows v0 n0 R0 a1_0 a1_1 a2_0 a2_1 W s0 (fun i hi => by obtain ⟨hl, m, y, hf⟩ := g0 i hi; exact open_cell hl hf) (bd_u64 w1_0).1 (bd_u64 w1_0).2 (bd_u64 w1_1).1 (bd_u64 w1_1).2 (bd_u64 w2_0).1 (bd_u64 w2_0).2 (bd_u64 w2_1).1 (bd_u64 w2_1).2).mono fun e W' ⟨he, bel⟩ => ?_
  subst he
  exact ⟨_, rfl, _, _, _, [], _, [], hW', trodAll_mk1 (shut_bool Try.underlying4 _), (trodAll_cons_mk (Below.trod laidOut (by kernel_rfl) (of_decide_eq_true (by kernel_rfl)) k0 bel lt0) (trodAll_cons_mk (Below.trod laidOut (by kernel_rfl) (of_decide_eq_true (by kernel_rfl)) k1 bel lt1) (trodAll_cons_mk (Below.trod laidOut (by kernel_rfl) (of_decide_eq_true (by kernel_rfl)) k2 bel lt2) trodAll_mk0))), rfl, bel.frame _, fun h => by cases h⟩

theorem over : Rows.storeTurnsRow.holds Try.pinned (OpenSpec.ofChange Rows.storeTurnsSpec) :=
  OpenClaim.holds_of_wide 7 Try.f7 rfl rfl rfl rfl rfl rfl rfl ⟨rfl, rfl, rfl, rfl, rfl⟩ rfl rfl rfl rfl rfl (by kernel_rfl) Try.func7 (by kernel_rfl)
    (of_decide_eq_true (by kernel_rfl)) (by unfold Func.isWrapper; first | (rw [if_pos (by decide +kernel)]; kernel_rfl) | (rw [if_neg (by decide +kernel)]; exact ⟨rfl, rfl⟩))
    (fun os started H enc _ => lifted os started H enc)

theorem proved : Rows.StoreTurnsSaid := over
end LStoreTurns
end Go.Proofs.Ytnpgpbcpgniloaa
