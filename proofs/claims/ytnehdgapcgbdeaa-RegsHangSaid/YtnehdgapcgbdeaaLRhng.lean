/-
  Whatever the input, granulelaw05.RegsHang returns true and leaves its arguments as they were. No condition.
-/
import Derived.Test.YtnehdgapcgbdeaaGv
import Derived.Test.YtnehdgapcgbdeaaKit
import Derived.Test.YtnehdgapcgbdeaaGs
set_option linter.unusedSimpArgs false
set_option linter.unusedVariables false
namespace Go.Proofs.Ytnehdgapcgbdeaa
open Go.ChangeShapes Go.WideShapes Go.ChangeAt Go.RowKit
open Go.ChangeMaps (open_string shut_string)
namespace LRegsHang
set_option linter.unusedVariables false

theorem list6 {α : Type} (l : List α) (h : l.length = 6) : ∃ x0 x1 x2 x3 x4 x5, l = [x0, x1, x2, x3, x4, x5] := by
  match l, h with
  | [x0, x1, x2, x3, x4, x5], _ => exact ⟨x0, x1, x2, x3, x4, x5, rfl⟩

set_option maxRecDepth 100000 in
theorem lifted (os : Os) (started : os.Started) (H : Type) (enc : TypeId × Value → H) :
    ReturnsInHanded {} Try.checked os 6 .any (Rows.regsHangSpec.pre6 enc Try.prog Try.f6 Rows.regsHangRow.domain false) (Rows.regsHangSpec.post enc Try.prog Try.f6 false true false false) := by
  refine returnsInHanded_of_change (C := Try.checked) own started (by kernel_rfl) Try.func6
    (ChangeSpec.witness6 (enc := enc) (C := Try.checked) false ⟨#[], #[.agg #[.slice none 0 0, .bool false, .int .u64 0, .int .u64 0, .int .u64 0], .agg #[.slice none 0 0, .bool false, .int .u64 0, .int .u64 0, .int .u64 0], .agg #[.int .i64 0, .int .i64 0, .int .i64 0, .int .i64 0, .int .i64 0, .int .i64 0]], []⟩ 8 (by kernel_rfl) (by kernel_rfl) (by kernel_rfl) (by kernel_rfl)) ?_
  intro W base args ds gs before hval0 hW hcnd _
  have hval : ∀ (j : Nat) t v, Try.f6.params[j]? = some t → args[j]? = some v → Value.okWide Try.prog W .any base t v := hval0
  have hW' := hW
  obtain ⟨p, q, hA0, hV, rfl, hfz, hnd⟩ := hW
  have hA : DataW.TrodAll enc Try.prog W 0 (fun _ => true) true Try.f6.params.toList args.toList ds p := hA0
  rw [Try.params6] at hA hval
  obtain ⟨v0, vs0, d0, ds0, p0, q0, hargs, rfl, rfl, h0, r0⟩ := trodAll_cons hA
  obtain ⟨v1, vs1, d1, ds1, p1, q1, rfl, rfl, rfl, h1, r1⟩ := trodAll_cons r0
  obtain ⟨v2, vs2, d2, ds2, p2, q2, rfl, rfl, rfl, h2, r2⟩ := trodAll_cons r1
  obtain ⟨rfl, rfl, rfl⟩ := trodAll_nil r2
  obtain rfl : args = #[v0, v1, v2] := by cases args; simp_all
  obtain ⟨rfl, rfl⟩ := trodVars_none hV
  have k0 := h0
  have lt0 : ∀ x ∈ p0, x.block < W.heap.size := by obtain ⟨m, hm⟩ := k0; exact DataW.trod_lt m _ _ _ hm
  obtain ⟨sp0, len0, cap0, zs0, s0, y0_0, y0_1, y0_2, rfl, hz0⟩ := open_start (hval 0 33 v0 rfl rfl) h0
  have k1 := h1
  have lt1 : ∀ x ∈ p1, x.block < W.heap.size := by obtain ⟨m, hm⟩ := k1; exact DataW.trod_lt m _ _ _ hm
  obtain ⟨sp1, len1, cap1, zs1, s1, y1_0, y1_1, y1_2, rfl, hz1⟩ := open_start (hval 1 33 v1 rfl rfl) h1
  have k2 := h2
  have lt2 : ∀ x ∈ p2, x.block < W.heap.size := by obtain ⟨m, hm⟩ := k2; exact DataW.trod_lt m _ _ _ hm
  obtain ⟨cs2, rfl, hl2, hf2⟩ := open_fields Try.underlying23 (by kernel_rfl) (by kernel_rfl) (hval 2 23 v2 rfl rfl) h2
  obtain ⟨c2_0, c2_1, c2_2, c2_3, c2_4, c2_5, rfl⟩ := list6 cs2 hl2
  obtain ⟨_, y2_0, n2_0, e2_0, g2_0⟩ := hf2 0 _ rfl
  simp only [List.getElem?_cons_zero, List.getElem?_cons_succ, Option.some.injEq] at e2_0
  subst e2_0
  obtain ⟨a2_0, u2_0, _, w2_0⟩ := DataW.trod_int Try.underlying3 g2_0
  simp only [List.cons.injEq, and_true] at u2_0
  subst u2_0
  obtain ⟨_, y2_1, n2_1, e2_1, g2_1⟩ := hf2 1 _ rfl
  simp only [List.getElem?_cons_zero, List.getElem?_cons_succ, Option.some.injEq] at e2_1
  subst e2_1
  obtain ⟨a2_1, u2_1, _, w2_1⟩ := DataW.trod_int Try.underlying3 g2_1
  simp only [List.cons.injEq, and_true] at u2_1
  subst u2_1
  obtain ⟨_, y2_2, n2_2, e2_2, g2_2⟩ := hf2 2 _ rfl
  simp only [List.getElem?_cons_zero, List.getElem?_cons_succ, Option.some.injEq] at e2_2
  subst e2_2
  obtain ⟨a2_2, u2_2, _, w2_2⟩ := DataW.trod_int Try.underlying3 g2_2
  simp only [List.cons.injEq, and_true] at u2_2
  subst u2_2
  obtain ⟨_, y2_3, n2_3, e2_3, g2_3⟩ := hf2 3 _ rfl
  simp only [List.getElem?_cons_zero, List.getElem?_cons_succ, Option.some.injEq] at e2_3
  subst e2_3
  obtain ⟨a2_3, u2_3, _, w2_3⟩ := DataW.trod_int Try.underlying3 g2_3
  simp only [List.cons.injEq, and_true] at u2_3
  subst u2_3
  obtain ⟨_, y2_4, n2_4, e2_4, g2_4⟩ := hf2 4 _ rfl
  simp only [List.getElem?_cons_zero, List.getElem?_cons_succ, Option.some.injEq] at e2_4
  subst e2_4
  obtain ⟨a2_4, u2_4, _, w2_4⟩ := DataW.trod_int Try.underlying3 g2_4
  simp only [List.cons.injEq, and_true] at u2_4
  subst u2_4
  obtain ⟨_, y2_5, n2_5, e2_5, g2_5⟩ := hf2 5 _ rfl
  simp only [List.getElem?_cons_zero, List.getElem?_cons_succ, Option.some.injEq] at e2_5
  subst e2_5
  obtain ⟨a2_5, u2_5, _, w2_5⟩ := DataW.trod_int Try.underlying3 g2_5
  simp only [List.cons.injEq, and_true] at u2_5
  subst u2_5
  clear hA0 hval0
  refine (RegsHang_walk sp0 len0 cap0 zs0 s0 y0_0 y0_1 y0_2 sp1 len1 cap1 zs1 s1 y1_0 y1_1 y1_2 a2_0 a2_1 a2_2 a2_3 a2_4 a2_5 W hz0 hz1).mono fun e W' ⟨he, bel⟩ => ?_
  subst he
  exact ⟨_, rfl, _, _, _, [], _, [], hW', trodAll_mk1 (shut_bool Try.underlying4 _), (trodAll_cons_mk (Below.trod laidOut (by kernel_rfl) (of_decide_eq_true (by kernel_rfl)) k0 bel lt0) (trodAll_cons_mk (Below.trod laidOut (by kernel_rfl) (of_decide_eq_true (by kernel_rfl)) k1 bel lt1) (trodAll_cons_mk (Below.trod laidOut (by kernel_rfl) (of_decide_eq_true (by kernel_rfl)) k2 bel lt2) trodAll_mk0))), rfl, bel.frame _, fun h => by cases h⟩

theorem over : Rows.regsHangRow.holds Try.pinned (OpenSpec.ofChange Rows.regsHangSpec) :=
  OpenClaim.holds_of_wide 6 Try.f6 rfl rfl rfl rfl rfl rfl rfl ⟨rfl, rfl, rfl, rfl, rfl⟩ rfl rfl rfl rfl rfl (by kernel_rfl) Try.func6 (by kernel_rfl)
    (of_decide_eq_true (by kernel_rfl)) (by unfold Func.isWrapper; first | (rw [if_pos (by decide +kernel)]; kernel_rfl) | (rw [if_neg (by decide +kernel)]; exact ⟨rfl, rfl⟩))
    (fun os started H enc _ => lifted os started H enc)

theorem proved : Rows.RegsHangSaid := over
end LRegsHang
end Go.Proofs.Ytnehdgapcgbdeaa
