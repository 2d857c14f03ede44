/-
  Layer 6, the walks: without; with, of no tree.
  Layer 6, the walks: With, Without.
  Layer 6, the walks: Without; Check.
-/
import Derived.Test.YtnpgpbcpgniloaaSe
import Derived.Deep.RegionHeld3
import Derived.Deep.DrawnRows
import Derived.Test.YtnpgpbcpgniloaaFx
set_option linter.unusedSimpArgs false
set_option linter.unusedVariables false
namespace Go.Proofs.Ytnpgpbcpgniloaa
open Go.RowKit GrS

set_option maxRecDepth 100000 in
theorem with_none (LB : Nat) (w : World) :
    Calls Try.prog 71 #[.pointer none, .pointer (some ⟨LB, 0, none⟩)] w fun e w' => e = .returned (.pointer (some ⟨LB, 0, none⟩)) ∧ Below w.heap.size w w' := by
  go_enter Try.func71, Try.ntmps71
  go_wp2_with fail
  refine wp_region_wb (by kernel_rfl) (by kernel_rfl) ?_
  repeat (go_big_quiet_step (fail))
  refine wpQuiet_nil ?_
  rintro _ ⟨z1, rfl⟩
  go_wp2
  go_ret
  exact ⟨rfl, z1.bel⟩

set_option maxRecDepth 100000 in
set_option maxHeartbeats 6400000 in
theorem without_some (t : Tr) : ∀ (B K : Nat) (w : World), TrAt w B t → t.WF → K ∈ t.keys →
    Calls Try.prog 70 #[.pointer (some ⟨B, 0, none⟩), .int .u64 (K : Int)] w fun e w' => ∃ p, e = .returned (.pointer p) ∧ Below w.heap.size w w' ∧ PAt w' p (t.del K) := by
  induction t with
  | leaf a u =>
    intro B K w h hw hm
    have h2 := h.2
    have c3 : w.cell? ⟨B, 3, none⟩ = some (.pointer none) := h2.cell 3
    clear h h2 hm hw
    go_enter Try.func70, Try.ntmps70
    go_wp2
    go_ret
    exact ⟨none, rfl, Below.refl _ _, rfl⟩
  | node a b l r ihl ihr =>
    intro B K w h hw hm
    rw [keys_node, List.mem_append] at hm
    obtain ⟨_, x, y, hr, hl, hrr⟩ := h
    have hK : K < 18446744073709551616 := by rcases hm with h | h; exact keys_lt hw.2.2.2.2.1 K h; exact keys_lt hw.2.2.2.2.2 K h
    have HB := Lib.hid hr
    have HLs := Lib.hid hl
    have HRs := Lib.hid hrr
    have WL := Lib.hid hw.2.2.2.2.1
    have WR := Lib.hid hw.2.2.2.2.2
    have nb0 : (0 : Int) ≤ (b : Int) := by omega
    have nb1 : (b : Int) < 64 := by have := hw.1; omega
    have nb2 : b < 64 := hw.1
    clear hr hl hrr
    by_cases c : bit b K = 0
    · have BA := bit_and b K hK
      rw [decide_eq_true c] at BA
      have KM := Lib.hid (show K ∈ l.keys from by rcases hm with h | h; exact h; exact absurd (hw.2.2.2.1 K h).1 (by omega))
      have ED := Lib.hid (show (Tr.node a b l r).del K = (match l.del K with | none => some r | some l' => some (.node a b l' r)) by simp only [Tr.del]; rw [if_pos c]; rfl)
      clear c hm hw
      have rB : ∀ z : Wb w, Row z.at B (nodeCells a b x y) 129 := Row.at HB.out
      have cB_0 : ∀ z : Wb w, z.at.cell? ⟨B, 0, none⟩ = some (.int .u64 (a : Int)) := fun z => (rB z).cell 0
      have cB_2 : ∀ z : Wb w, z.at.cell? ⟨B, 2, none⟩ = some (.int .i64 (b : Int)) := fun z => (rB z).cell 2
      have cB_3 : ∀ z : Wb w, z.at.cell? ⟨B, 3, none⟩ = some (.pointer (some ⟨x, 0, none⟩)) := fun z => (rB z).cell 3
      have cB_4 : ∀ z : Wb w, z.at.cell? ⟨B, 4, none⟩ = some (.pointer (some ⟨y, 0, none⟩)) := fun z => (rB z).cell 4
      have fB : ∀ (z : Wb w) (i : Nat), z.at.frozen? ⟨B, i, none⟩ = false := fun z i => (rB z).free i
      have d3 : w.cell? ⟨B, 3, none⟩ = some (.pointer (some ⟨x, 0, none⟩)) := HB.out.cell 3
      go_enter Try.func70, Try.ntmps70
      go_wp2_with fail
      refine wp_region_wb (by kernel_rfl) (by kernel_rfl) ?_
      repeat (go_big_quiet_step (fail))
      refine wpQuiet_nil ?_
      rintro _ ⟨z1, rfl⟩
      clear d3
      have TB := Lib.hid (fun z : Wb w => TrS.below z.bel _ x HLs.out)
      go_wp2_with fail
      refine (ihl x K z1.at (TB.out z1) WL.out KM.out).mono ?_
      rintro e w2 ⟨p2, rfl, b2, t2⟩
      have T2 := Lib.hid t2
      clear t2
      obtain ⟨z2, rfl⟩ := Wb.next (x := z1) b2
      clear b2
      cases e : l.del K with
      | none =>
        rw [e] at T2 ED
        obtain rfl : p2 = none := T2.out
        have TO := Lib.hid (TrS.below (S := fun _ => True) z2.bel _ y HRs.out)
        go_wp2
        go_ret
        exact ⟨_, rfl, z2.bel, by rw [ED.out]; exact ⟨y, rfl, TO.out⟩⟩
      | some s2 =>
        rw [e] at T2 ED
        obtain ⟨B2, rfl, t3⟩ := T2.out
        have T3 := Lib.hid t3
        clear t3 T2
        go_upto_region 11 with fail
        refine to_pt ?_
        intro U hU
        have bU : Below w.heap.size w U := z2.bel.trans (hU.mono z2.size)
        clear cB_0 cB_2 cB_3 cB_4 fB
        have rB : ∀ z : Wb U, Row z.at B (nodeCells a b x y) 129 := Row.at (HB.out.below bU)
        have T4 := Lib.hid (TrS.below hU _ B2 T3.out)
        have cB_0 : ∀ z : Wb U, z.at.cell? ⟨B, 0, none⟩ = some (.int .u64 (a : Int)) := fun z => (rB z).cell 0
        have cB_2 : ∀ z : Wb U, z.at.cell? ⟨B, 2, none⟩ = some (.int .i64 (b : Int)) := fun z => (rB z).cell 2
        have fB : ∀ (z : Wb U) (i : Nat), z.at.frozen? ⟨B, i, none⟩ = false := fun z i => (rB z).free i
        refine wp_region_wb_tail 11 (by kernel_rfl) (by kernel_rfl) ?_
        simp only [List.take_succ_cons, List.take_zero, List.drop_succ_cons, List.drop_zero]
        repeat (go_big_quiet_step (fail))
        refine wpQuiet_nil ?_
        rintro _ ⟨z3, rfl⟩
        go_wp2
        go_ret
        have q3 : Below w.heap.size w z3.at := bU.trans (z3.bel.mono bU.size)
        refine ⟨_, rfl, KB.alloc q3 _, ?_⟩
        rw [ED.out]
        exact ⟨_, rfl, trivial, B2, y, Row.new _ (nodeCells a b B2 y) _, TrS.below (KB.alloc z3.bel _) _ B2 T4.out, TrS.below (KB.alloc q3 _) _ y HRs.out⟩
    · have BA := bit_and b K hK
      rw [decide_eq_false c] at BA
      have KM := Lib.hid (show K ∈ r.keys from by rcases hm with h | h; exact absurd (hw.2.2.1 K h).1 c; exact h)
      have ED := Lib.hid (show (Tr.node a b l r).del K = (match r.del K with | none => some l | some r' => some (.node a b l r')) by simp only [Tr.del]; rw [if_neg c]; rfl)
      clear c hm hw
      have rB : ∀ z : Wb w, Row z.at B (nodeCells a b x y) 129 := Row.at HB.out
      have cB_0 : ∀ z : Wb w, z.at.cell? ⟨B, 0, none⟩ = some (.int .u64 (a : Int)) := fun z => (rB z).cell 0
      have cB_2 : ∀ z : Wb w, z.at.cell? ⟨B, 2, none⟩ = some (.int .i64 (b : Int)) := fun z => (rB z).cell 2
      have cB_3 : ∀ z : Wb w, z.at.cell? ⟨B, 3, none⟩ = some (.pointer (some ⟨x, 0, none⟩)) := fun z => (rB z).cell 3
      have cB_4 : ∀ z : Wb w, z.at.cell? ⟨B, 4, none⟩ = some (.pointer (some ⟨y, 0, none⟩)) := fun z => (rB z).cell 4
      have fB : ∀ (z : Wb w) (i : Nat), z.at.frozen? ⟨B, i, none⟩ = false := fun z i => (rB z).free i
      have d3 : w.cell? ⟨B, 3, none⟩ = some (.pointer (some ⟨x, 0, none⟩)) := HB.out.cell 3
      go_enter Try.func70, Try.ntmps70
      go_wp2_with fail
      refine wp_region_wb (by kernel_rfl) (by kernel_rfl) ?_
      repeat (go_big_quiet_step (fail))
      refine wpQuiet_nil ?_
      rintro _ ⟨z1, rfl⟩
      clear d3
      have TB := Lib.hid (fun z : Wb w => TrS.below z.bel _ y HRs.out)
      go_wp2_with fail
      refine (ihr y K z1.at (TB.out z1) WR.out KM.out).mono ?_
      rintro e w2 ⟨p2, rfl, b2, t2⟩
      have T2 := Lib.hid t2
      clear t2
      obtain ⟨z2, rfl⟩ := Wb.next (x := z1) b2
      clear b2
      cases e : r.del K with
      | none =>
        rw [e] at T2 ED
        obtain rfl : p2 = none := T2.out
        have TO := Lib.hid (TrS.below (S := fun _ => True) z2.bel _ x HLs.out)
        go_wp2
        go_ret
        exact ⟨_, rfl, z2.bel, by rw [ED.out]; exact ⟨x, rfl, TO.out⟩⟩
      | some s2 =>
        rw [e] at T2 ED
        obtain ⟨B2, rfl, t3⟩ := T2.out
        have T3 := Lib.hid t3
        clear t3 T2
        go_upto_region 11 with fail
        refine to_pt ?_
        intro U hU
        have bU : Below w.heap.size w U := z2.bel.trans (hU.mono z2.size)
        clear cB_0 cB_2 cB_3 cB_4 fB
        have rB : ∀ z : Wb U, Row z.at B (nodeCells a b x y) 129 := Row.at (HB.out.below bU)
        have T4 := Lib.hid (TrS.below hU _ B2 T3.out)
        have cB_0 : ∀ z : Wb U, z.at.cell? ⟨B, 0, none⟩ = some (.int .u64 (a : Int)) := fun z => (rB z).cell 0
        have cB_2 : ∀ z : Wb U, z.at.cell? ⟨B, 2, none⟩ = some (.int .i64 (b : Int)) := fun z => (rB z).cell 2
        have fB : ∀ (z : Wb U) (i : Nat), z.at.frozen? ⟨B, i, none⟩ = false := fun z i => (rB z).free i
        refine wp_region_wb_tail 11 (by kernel_rfl) (by kernel_rfl) ?_
        simp only [List.take_succ_cons, List.take_zero, List.drop_succ_cons, List.drop_zero]
        repeat (go_big_quiet_step (fail))
        refine wpQuiet_nil ?_
        rintro _ ⟨z3, rfl⟩
        go_wp2
        go_ret
        have q3 : Below w.heap.size w z3.at := bU.trans (z3.bel.mono bU.size)
        refine ⟨_, rfl, KB.alloc q3 _, ?_⟩
        rw [ED.out]
        exact ⟨_, rfl, trivial, x, B2, Row.new _ (nodeCells a b x B2) _, TrS.below (KB.alloc q3 _) _ x HLs.out, TrS.below (KB.alloc z3.bel _) _ B2 T4.out⟩
end Go.Proofs.Ytnpgpbcpgniloaa

namespace GrS
def insO (t : Option Tr) (k : Nat) (v : Int) : Tr := match t with | none => .leaf k v | some t => t.ins k v
theorem insO_ok {t : Option Tr} {k : Nat} {v : Int} (h : WFO t) (hk : k < 18446744073709551616) :
    (insO t k v).WF ∧ (∀ x, (insO t k v).look x = if x = k then some v else lookO t x) ∧ (insO t k v).toL.length = (if (lookO t k).isSome = true then (toLO t).length else (toLO t).length + 1) := by
  cases t with
  | none =>
    refine ⟨hk, fun x => ?_, by simp [lookO, insO, Tr.toL, toLO]⟩
    simp only [insO, Tr.look, lookO]
    by_cases c : k = x
    · rw [if_pos c, if_pos c.symm]
    · rw [if_neg c, if_neg (Ne.symm c)]
  | some t =>
    obtain ⟨h1, h2, _, h4⟩ := ins_ok (t := t) (k := k) (v := v) h hk
    refine ⟨h1, h2, ?_⟩
    show (t.ins k v).toL.length = _
    rw [h4]
    have := look_mem (t := t) h k
    by_cases c : k ∈ t.keys
    · rw [if_pos c, if_pos (by have := this.2 c; show (t.look k).isSome = true; cases e : t.look k with | none => exact absurd e this | some u => rfl)]
      rfl
    · rw [if_neg c, if_neg (by intro e; apply c; apply this.1; intro e2; change (t.look k).isSome = true at e; rw [e2] at e; cases e)]
      rfl
end GrS
namespace Go.Proofs.Ytnpgpbcpgniloaa
open Go.RowKit GrS

def PS (V : World) (S : Nat → Prop) (p : Option Addr) (t : Option Tr) : Prop := match t with
  | none => p = none
  | some t => ∃ B, p = some ⟨B, 0, none⟩ ∧ TrS V S B t
theorem PS.lt {V : World} {p : Option Addr} {t : Option Tr} (h : PAt V p t) : PS V (fun C => C < V.heap.size) p t := by
  cases t with
  | none => exact h
  | some t => obtain ⟨B, e, h⟩ := h; exact ⟨B, e, TrS.mono (fun _ h => h.2) _ _ (TrS.lt _ B h)⟩
theorem PS.mono {V : World} {S S' : Nat → Prop} {p : Option Addr} {t : Option Tr} (hS : ∀ C, S C → S' C) (h : PS V S p t) : PS V S' p t := by
  cases t with
  | none => exact h
  | some t => obtain ⟨B, e, h⟩ := h; exact ⟨B, e, TrS.mono hS _ _ h⟩
theorem PS.below {V U : World} {S : Nat → Prop} {p : Option Addr} {t : Option Tr} (k : Below V.heap.size V U) (h : PS V S p t) : PS U S p t := by
  cases t with
  | none => exact h
  | some t => obtain ⟨B, e, h⟩ := h; exact ⟨B, e, TrS.below k _ _ h⟩
theorem withO (S : Nat → Prop) (t : Option Tr) (p : Option Addr) (LB k : Nat) (v : Int) (w : World) (h : PS w S p t) (hw : WFO t) (hLB : S LB) (hL : Row w LB (leafCells k v) 129) (hk : k < 18446744073709551616) (hnew : ∀ C, w.heap.size ≤ C → S C) :
    Calls Try.prog 71 #[.pointer p, .pointer (some ⟨LB, 0, none⟩)] w fun e w' => ∃ B2, e = .returned (.pointer (some ⟨B2, 0, none⟩)) ∧ Below w.heap.size w w' ∧ TrS w' S B2 (insO t k v) := by
  cases t with
  | none =>
    obtain rfl : p = none := h
    exact (with_none LB w).mono fun e w' ⟨e1, b⟩ => ⟨LB, e1, b, hLB, hL.below b⟩
  | some t =>
    obtain ⟨B, rfl, h⟩ := h
    exact with_some S t B LB k v w h hw hLB hL hk hnew

set_option maxRecDepth 100000 in
set_option maxHeartbeats 3200000 in
theorem With_any (p : Option Addr) (n : Int) (t : Option Tr) (K : Nat) (v : Int) (w : World) (h : MAt w p n t) (hK : K < 18446744073709551616) (hn : n ≤ 1000000) :
    Calls Try.prog 53 #[.agg #[.pointer p, .int .i64 n], .int .u64 (K : Int), .int .u64 v] w fun e w' => ∃ p2 n2, e = .returned (.agg #[.pointer p2, .int .i64 n2]) ∧ Below w.heap.size w w' ∧ MAt w' p2 n2 (some (insO t K v)) := by
  have nM : n ≤ 1000000 := hn
  have n0 : 0 ≤ n := by rw [h.n]; omega
  go_enter Try.func53, Try.ntmps53
  go_upto_region 1 with fail
  refine to_cls ?_
  intro U hU z
  have rM : ∀ z : Wb U, Row z.at w.heap.size [.pointer p, .int .i64 n] 36 := Row.next ((Row.new w [.pointer p, .int .i64 n] _).old _) hU
  have rR : ∀ z : Wb U, Row z.at (w.heap.size + 1) [.pointer none, .int .i64 0] 36 := Row.next (Row.new' _ [.pointer none, .int .i64 0] _ _ (by simp)) hU
  have bU : Below w.heap.size w U := (KB.alloc (KB.alloc (Below.refl _ _) _) _).trans (hU.mono (by simp; omega))
  clear hU
  obtain ⟨M, hM⟩ : ∃ M, M = w.heap.size := ⟨_, rfl⟩
  obtain ⟨R, hR⟩ : ∃ R, R = w.heap.size + 1 := ⟨_, rfl⟩
  rw [← hR] at rR
  simp only [← hR]
  rw [← hM] at rM
  simp only [← hM]
  have HM := Lib.hid hM
  have HR := Lib.hid (show R = M + 1 by rw [hR, hM])
  clear hM hR
  have cM0 : ∀ z : Wb U, z.at.cell? ⟨M, 0, none⟩ = some (.pointer p) := fun z => (rM z).cell 0
  have cM1 : ∀ z : Wb U, z.at.cell? ⟨M, 1, none⟩ = some (.int .i64 n) := fun z => (rM z).cell 1
  have fM : ∀ (z : Wb U) (i : Nat), z.at.frozen? ⟨M, i, none⟩ = false := fun z i => (rM z).free i
  have cR0 : ∀ z : Wb U, z.at.cell? ⟨R, 0, none⟩ = some (.pointer none) := fun z => (rR z).cell 0
  have cR1 : ∀ z : Wb U, z.at.cell? ⟨R, 1, none⟩ = some (.int .i64 0) := fun z => (rR z).cell 1
  have fR : ∀ (z : Wb U) (i : Nat), z.at.frozen? ⟨R, i, none⟩ = false := fun z i => (rR z).free i
  go_wp2_with fail
  refine (mget_any p n t K z.at (h.below (bU.trans (z.bel.mono bU.size))) hK).mono ?_
  rintro e w2 ⟨rfl, b2⟩
  obtain ⟨z2, rfl⟩ := Wb.next (x := z) b2
  clear b2
  have IQv := Lib.hid (insO_ok (t := t) (k := K) (v := v) h.wf hK)
  cases g : lookO t K with
  | none =>
    have NL := Lib.hid (show n + 1 = ((toLO (some (insO t K v))).length : Int) by rw [h.n]; have := IQv.out.2.2; rw [g] at this; simp only [toLO, Option.isSome, if_false, Bool.false_eq_true] at this ⊢; omega)
    clear g
    unfold getV
    go_upto_region 4 with fail
    refine to_cls ?_
    intro U2 hU2 z3
    have bU2 : Below w.heap.size w U2 := (KB.put (bU.trans (z2.bel.mono bU.size)) (by rw [HM.out]; exact Nat.le_refl _) 1 _).trans (hU2.mono (KB.put (bU.trans (z2.bel.mono bU.size)) (by rw [HM.out]; exact Nat.le_refl _) 1 _).size)
    clear cM0 cM1 fM cR0 cR1 fR
    have rM : ∀ z : Wb U2, Row z.at M [.pointer p, .int .i64 (n + 1)] 36 := Row.next ((rM z2).set 1 _) hU2
    have rR : ∀ z : Wb U2, Row z.at R [.pointer none, .int .i64 0] 36 := Row.next ((rR z2).oth (by have := HR.out; omega) 1 _) hU2
    have cM0 : ∀ z : Wb U2, z.at.cell? ⟨M, 0, none⟩ = some (.pointer p) := fun z => (rM z).cell 0
    have cM1 : ∀ z : Wb U2, z.at.cell? ⟨M, 1, none⟩ = some (.int .i64 (n + 1)) := fun z => (rM z).cell 1
    have fM : ∀ (z : Wb U2) (i : Nat), z.at.frozen? ⟨M, i, none⟩ = false := fun z i => (rM z).free i
    have cR0 : ∀ z : Wb U2, z.at.cell? ⟨R, 0, none⟩ = some (.pointer none) := fun z => (rR z).cell 0
    have cR1 : ∀ z : Wb U2, z.at.cell? ⟨R, 1, none⟩ = some (.int .i64 0) := fun z => (rR z).cell 1
    have fR : ∀ (z : Wb U2) (i : Nat), z.at.frozen? ⟨R, i, none⟩ = false := fun z i => (rR z).free i
    have q3 : Below w.heap.size w z3.at := bU2.trans (z3.bel.mono bU2.size)
    have MR := Lib.hid (show M < z3.at.heap.size ∧ R < z3.at.heap.size from ⟨(rM z3).lt, (rR z3).lt⟩)
    have WC := Lib.hid (withO (fun C => C ≠ M ∧ C ≠ R) t p z3.at.heap.size K v (z3.at.alloc (.cells (leafCells K v).toArray 129)) ?_ ?_ ?_ ?_ hK ?_)
    rotate_left 1
    · exact PS.mono (fun C (hC : C < w.heap.size) => by have := HR.out; have := HM.out; constructor <;> omega) (PS.below (KB.alloc q3 _) (PS.lt h.at'))
    · exact h.wf
    · have := MR.out; constructor <;> omega
    · exact Row.new z3.at (leafCells K v) _
    · intro C hC; have := MR.out; simp at hC; constructor <;> omega
    clear h
    go_wp2_with fail
    refine WC.out.mono ?_
    rintro e w4 ⟨B2, rfl, b4, t4⟩
    have T4 := Lib.hid t4
    clear t4 WC
    obtain ⟨z4, rfl⟩ := Wb.next (x := z3) ((KB.alloc (Below.refl _ _) _ : Below z3.at.heap.size z3.at _).trans (b4.mono (by simp)))
    clear b4
    go_upto_region 5 with fail
    refine to_cls ?_
    intro U5 hU5 z5
    have q4 : Below w.heap.size w z4.at := bU2.trans (z4.bel.mono bU2.size)
    have wM : w.heap.size ≤ M := by rw [HM.out]; exact Nat.le_refl _
    have bU5 : Below w.heap.size w U5 := (KB.put q4 wM 0 _).trans (hU5.mono (KB.put q4 wM 0 _).size)
    clear cM0 cM1 fM cR0 cR1 fR
    have rM : ∀ z : Wb U5, Row z.at M [.pointer (some ⟨B2, 0, none⟩), .int .i64 (n + 1)] 36 := Row.next ((rM z4).set 0 _) hU5
    have rR : ∀ z : Wb U5, Row z.at R [.pointer none, .int .i64 0] 36 := Row.next ((rR z4).oth (by have := HR.out; omega) 0 _) hU5
    have T5 := Lib.hid (fun z : Wb U5 => TrS.below z.bel _ B2 (TrS.below hU5 _ B2 (TrS.set (fun hS => hS.1 rfl) 0 _ _ B2 T4.out)))
    have cM0 : ∀ z : Wb U5, z.at.cell? ⟨M, 0, none⟩ = some (.pointer (some ⟨B2, 0, none⟩)) := fun z => (rM z).cell 0
    have cM1 : ∀ z : Wb U5, z.at.cell? ⟨M, 1, none⟩ = some (.int .i64 (n + 1)) := fun z => (rM z).cell 1
    have fM : ∀ (z : Wb U5) (i : Nat), z.at.frozen? ⟨M, i, none⟩ = false := fun z i => (rM z).free i
    have cR0 : ∀ z : Wb U5, z.at.cell? ⟨R, 0, none⟩ = some (.pointer none) := fun z => (rR z).cell 0
    have cR1 : ∀ z : Wb U5, z.at.cell? ⟨R, 1, none⟩ = some (.int .i64 0) := fun z => (rR z).cell 1
    have fR : ∀ (z : Wb U5) (i : Nat), z.at.frozen? ⟨R, i, none⟩ = false := fun z i => (rR z).free i
    go_wp2
    have q5 : Below w.heap.size w z5.at := bU5.trans (z5.bel.mono bU5.size)
    have wR : w.heap.size ≤ R := by have := HR.out; omega
    refine bodyPost_ret (v := .agg #[.pointer (some ⟨B2, 0, none⟩), .int .i64 (n + 1)]) (by simp [results, Try.results53, go_sem, *]) rfl ⟨_, _, rfl, KB.put (KB.put q5 wR 0 _) wR 1 _, ⟨⟨B2, rfl, TrS.mono (fun _ _ => trivial) _ _ (TrS.set (fun hS => hS.2 rfl) 1 _ _ B2 (TrS.set (fun hS => hS.2 rfl) 0 _ _ B2 (T5.out z5)))⟩, ?_, (IQv.out).1⟩⟩
    exact NL.out
  | some u =>
    have NL := Lib.hid (show n = ((toLO (some (insO t K v))).length : Int) by rw [h.n]; have := IQv.out.2.2; rw [g] at this; simp only [toLO, Option.isSome, if_true] at this ⊢; omega)
    clear g
    unfold getV
    go_upto_region 4 with fail
    refine to_cls ?_
    intro U2 hU2 z3
    have bU2 : Below w.heap.size w U2 := (bU.trans (z2.bel.mono bU.size)).trans (hU2.mono (bU.trans (z2.bel.mono bU.size)).size)
    clear cM0 cM1 fM cR0 cR1 fR
    have rM : ∀ z : Wb U2, Row z.at M [.pointer p, .int .i64 n] 36 := Row.next (rM z2) hU2
    have rR : ∀ z : Wb U2, Row z.at R [.pointer none, .int .i64 0] 36 := Row.next (rR z2) hU2
    have cM0 : ∀ z : Wb U2, z.at.cell? ⟨M, 0, none⟩ = some (.pointer p) := fun z => (rM z).cell 0
    have cM1 : ∀ z : Wb U2, z.at.cell? ⟨M, 1, none⟩ = some (.int .i64 n) := fun z => (rM z).cell 1
    have fM : ∀ (z : Wb U2) (i : Nat), z.at.frozen? ⟨M, i, none⟩ = false := fun z i => (rM z).free i
    have cR0 : ∀ z : Wb U2, z.at.cell? ⟨R, 0, none⟩ = some (.pointer none) := fun z => (rR z).cell 0
    have cR1 : ∀ z : Wb U2, z.at.cell? ⟨R, 1, none⟩ = some (.int .i64 0) := fun z => (rR z).cell 1
    have fR : ∀ (z : Wb U2) (i : Nat), z.at.frozen? ⟨R, i, none⟩ = false := fun z i => (rR z).free i
    have q3 : Below w.heap.size w z3.at := bU2.trans (z3.bel.mono bU2.size)
    have MR := Lib.hid (show M < z3.at.heap.size ∧ R < z3.at.heap.size from ⟨(rM z3).lt, (rR z3).lt⟩)
    have WC := Lib.hid (withO (fun C => C ≠ M ∧ C ≠ R) t p z3.at.heap.size K v (z3.at.alloc (.cells (leafCells K v).toArray 129)) ?_ ?_ ?_ ?_ hK ?_)
    rotate_left 1
    · exact PS.mono (fun C (hC : C < w.heap.size) => by have := HR.out; have := HM.out; constructor <;> omega) (PS.below (KB.alloc q3 _) (PS.lt h.at'))
    · exact h.wf
    · have := MR.out; constructor <;> omega
    · exact Row.new z3.at (leafCells K v) _
    · intro C hC; have := MR.out; simp at hC; constructor <;> omega
    clear h
    go_wp2_with fail
    refine WC.out.mono ?_
    rintro e w4 ⟨B2, rfl, b4, t4⟩
    have T4 := Lib.hid t4
    clear t4 WC
    obtain ⟨z4, rfl⟩ := Wb.next (x := z3) ((KB.alloc (Below.refl _ _) _ : Below z3.at.heap.size z3.at _).trans (b4.mono (by simp)))
    clear b4
    go_upto_region 5 with fail
    refine to_cls ?_
    intro U5 hU5 z5
    have q4 : Below w.heap.size w z4.at := bU2.trans (z4.bel.mono bU2.size)
    have wM : w.heap.size ≤ M := by rw [HM.out]; exact Nat.le_refl _
    have bU5 : Below w.heap.size w U5 := (KB.put q4 wM 0 _).trans (hU5.mono (KB.put q4 wM 0 _).size)
    clear cM0 cM1 fM cR0 cR1 fR
    have rM : ∀ z : Wb U5, Row z.at M [.pointer (some ⟨B2, 0, none⟩), .int .i64 n] 36 := Row.next ((rM z4).set 0 _) hU5
    have rR : ∀ z : Wb U5, Row z.at R [.pointer none, .int .i64 0] 36 := Row.next ((rR z4).oth (by have := HR.out; omega) 0 _) hU5
    have T5 := Lib.hid (fun z : Wb U5 => TrS.below z.bel _ B2 (TrS.below hU5 _ B2 (TrS.set (fun hS => hS.1 rfl) 0 _ _ B2 T4.out)))
    have cM0 : ∀ z : Wb U5, z.at.cell? ⟨M, 0, none⟩ = some (.pointer (some ⟨B2, 0, none⟩)) := fun z => (rM z).cell 0
    have cM1 : ∀ z : Wb U5, z.at.cell? ⟨M, 1, none⟩ = some (.int .i64 n) := fun z => (rM z).cell 1
    have fM : ∀ (z : Wb U5) (i : Nat), z.at.frozen? ⟨M, i, none⟩ = false := fun z i => (rM z).free i
    have cR0 : ∀ z : Wb U5, z.at.cell? ⟨R, 0, none⟩ = some (.pointer none) := fun z => (rR z).cell 0
    have cR1 : ∀ z : Wb U5, z.at.cell? ⟨R, 1, none⟩ = some (.int .i64 0) := fun z => (rR z).cell 1
    have fR : ∀ (z : Wb U5) (i : Nat), z.at.frozen? ⟨R, i, none⟩ = false := fun z i => (rR z).free i
    go_wp2
    have q5 : Below w.heap.size w z5.at := bU5.trans (z5.bel.mono bU5.size)
    have wR : w.heap.size ≤ R := by have := HR.out; omega
    refine bodyPost_ret (v := .agg #[.pointer (some ⟨B2, 0, none⟩), .int .i64 n]) (by simp [results, Try.results53, go_sem, *]) rfl ⟨_, _, rfl, KB.put (KB.put q5 wR 0 _) wR 1 _, ⟨⟨B2, rfl, TrS.mono (fun _ _ => trivial) _ _ (TrS.set (fun hS => hS.2 rfl) 1 _ _ B2 (TrS.set (fun hS => hS.2 rfl) 0 _ _ B2 (T5.out z5)))⟩, ?_, (IQv.out).1⟩⟩
    exact NL.out
end Go.Proofs.Ytnpgpbcpgniloaa

namespace GrS
def delO (t : Option Tr) (k : Nat) : Option Tr := if (lookO t k).isSome = true then (match t with | none => none | some s => s.del k) else t
theorem delO_ok {t : Option Tr} {k : Nat} (h : WFO t) : WFO (delO t k) ∧ (∀ x, lookO (delO t k) x = if x = k then none else lookO t x) ∧ (toLO (delO t k)).length ≤ (toLO t).length := by
  unfold delO
  split
  · rename_i c
    cases t with
    | none => cases c
    | some s =>
      have hm : k ∈ s.keys := (look_mem h k).1 (by intro e; change (s.look k).isSome = true at c; rw [e] at c; cases c)
      obtain ⟨h1, h2, _, h4⟩ := del_ok h hm
      exact ⟨h1, h2, by show (toLO (s.del k)).length ≤ s.toL.length; omega⟩
  · rename_i c
    refine ⟨h, fun x => ?_, Nat.le_refl _⟩
    by_cases e : x = k
    · subst e
      rw [if_pos rfl]
      cases e2 : lookO t x with
      | none => rfl
      | some u => rw [e2] at c; exact absurd rfl c
    · rw [if_neg e]
end GrS
namespace Go.Proofs.Ytnpgpbcpgniloaa
open Go.RowKit GrS

theorem TrS.avoid {V : World} {S : Nat → Prop} {P : Nat} {L : List Value} {T : TypeId} (hP : Row V P L T) (hL : L.length ≠ 5) : ∀ (t : Tr) (B : Nat), TrS V S B t → TrS V (fun C => S C ∧ C ≠ P) B t := by
  have no : ∀ (B : Nat) (L' : List Value) (T' : TypeId), Row V B L' T' → L'.length = 5 → B ≠ P := by
    rintro B L' T' h h5 rfl
    have := h.heap.symm.trans hP.heap
    injection this with this
    injection this with e1
    have := congrArg Array.size e1
    simp at this
    omega
  intro t
  induction t with
  | leaf k v => exact fun B h => ⟨⟨h.1, no _ _ _ h.2 rfl⟩, h.2⟩
  | node k b l r ihl ihr => exact fun B ⟨s, x, y, h, hl, hr⟩ => ⟨⟨s, no _ _ _ h rfl⟩, x, y, h, ihl x hl, ihr y hr⟩
theorem PAt.set {V : World} {p : Option Addr} {t : Option Tr} {P : Nat} {L : List Value} {T : TypeId} (h : PAt V p t) (hP : Row V P L T) (hL : L.length ≠ 5) (i : Nat) (v : Value) : PAt (V.setCell ⟨P, i, none⟩ v) p t := by
  cases t with
  | none => exact h
  | some t => obtain ⟨B, e, h⟩ := h; exact ⟨B, e, TrS.mono (fun _ _ => trivial) _ _ (TrS.set (fun hS => hS.2 rfl) i v _ B (TrS.avoid hP hL _ B h))⟩
theorem MAt.set {V : World} {p : Option Addr} {n : Int} {t : Option Tr} {P : Nat} {L : List Value} {T : TypeId} (h : MAt V p n t) (hP : Row V P L T) (hL : L.length ≠ 5) (i : Nat) (v : Value) : MAt (V.setCell ⟨P, i, none⟩ v) p n t := ⟨h.at'.set hP hL i v, h.n, h.wf⟩

set_option maxRecDepth 100000 in
set_option maxHeartbeats 3200000 in
theorem Without_any (p : Option Addr) (n : Int) (t : Option Tr) (K : Nat) (w : World) (h : MAt w p n t) (hK : K < 18446744073709551616) (hn : n ≤ 1000000) :
    Calls Try.prog 52 #[.agg #[.pointer p, .int .i64 n], .int .u64 (K : Int)] w fun e w' => ∃ p2 n2, e = .returned (.agg #[.pointer p2, .int .i64 n2]) ∧ Below w.heap.size w w' ∧ MAt w' p2 n2 (delO t K) := by
  have nM : n ≤ 1000000 := hn
  have n0 : 0 ≤ n := by rw [h.n]; omega
  go_enter Try.func52, Try.ntmps52
  go_upto_region 1 with fail
  refine to_cls ?_
  intro U hU z
  have rM : ∀ z : Wb U, Row z.at w.heap.size [.pointer p, .int .i64 n] 36 := Row.next ((Row.new w [.pointer p, .int .i64 n] _).old _) hU
  have rR : ∀ z : Wb U, Row z.at (w.heap.size + 1) [.pointer none, .int .i64 0] 36 := Row.next (Row.new' _ [.pointer none, .int .i64 0] _ _ (by simp)) hU
  have bU : Below w.heap.size w U := (KB.alloc (KB.alloc (Below.refl _ _) _) _).trans (hU.mono (by simp; omega))
  clear hU
  obtain ⟨M, hM⟩ : ∃ M, M = w.heap.size := ⟨_, rfl⟩
  obtain ⟨R, hR⟩ : ∃ R, R = w.heap.size + 1 := ⟨_, rfl⟩
  rw [← hR] at rR
  simp only [← hR]
  rw [← hM] at rM
  simp only [← hM]
  have HM := Lib.hid hM
  have HR := Lib.hid (show R = M + 1 by rw [hR, hM])
  clear hM hR
  have cM0 : ∀ z : Wb U, z.at.cell? ⟨M, 0, none⟩ = some (.pointer p) := fun z => (rM z).cell 0
  have cM1 : ∀ z : Wb U, z.at.cell? ⟨M, 1, none⟩ = some (.int .i64 n) := fun z => (rM z).cell 1
  have fM : ∀ (z : Wb U) (i : Nat), z.at.frozen? ⟨M, i, none⟩ = false := fun z i => (rM z).free i
  have cR0 : ∀ z : Wb U, z.at.cell? ⟨R, 0, none⟩ = some (.pointer none) := fun z => (rR z).cell 0
  have cR1 : ∀ z : Wb U, z.at.cell? ⟨R, 1, none⟩ = some (.int .i64 0) := fun z => (rR z).cell 1
  have fR : ∀ (z : Wb U) (i : Nat), z.at.frozen? ⟨R, i, none⟩ = false := fun z i => (rR z).free i
  go_wp2_with fail
  refine (mget_any p n t K z.at (h.below (bU.trans (z.bel.mono bU.size))) hK).mono ?_
  rintro e w2 ⟨rfl, b2⟩
  obtain ⟨z2, rfl⟩ := Wb.next (x := z) b2
  clear b2
  cases g : lookO t K with
  | none =>
    have ED := Lib.hid (show delO t K = t by unfold delO; rw [g]; rfl)
    clear g
    unfold getV
    go_wp2
    have q2 : Below w.heap.size w z2.at := bU.trans (z2.bel.mono bU.size)
    have wR : w.heap.size ≤ R := by have := HR.out; have := HM.out; omega
    refine bodyPost_ret (v := .agg #[.pointer p, .int .i64 n]) (by simp [results, Try.results52, go_sem, *]) rfl ⟨_, _, rfl, KB.put (KB.put q2 wR 0 _) wR 1 _, ?_⟩
    rw [ED.out]
    exact ((h.below q2).set (rR z2) (by simp) 0 _).set ((rR z2).set 0 _) (by simp) 1 _
  | some u =>
    cases t with
    | none => cases g
    | some t =>
      obtain ⟨⟨B, rfl, ht⟩, hn2, hw⟩ := h
      have KM : K ∈ t.keys := (look_mem hw K).1 (by rw [show t.look K = some u from g]; simp)
      have ED := Lib.hid (show delO (some t) K = t.del K by unfold delO; rw [g]; rfl)
      have DL := Lib.hid (del_ok hw KM)
      have NL := Lib.hid (show n - 1 = ((toLO (t.del K)).length : Int) by rw [hn2]; have := DL.out.2.2.2; simp only [toLO] at this ⊢; omega)
      clear g hn2
      unfold getV
      go_wp2_with fail
      have q2 : Below w.heap.size w z2.at := bU.trans (z2.bel.mono bU.size)
      have wR : w.heap.size ≤ R := by have := HR.out; have := HM.out; omega
      have HB := Lib.hid ht
      clear ht
      have KS := Lib.hid (show ∀ z : Wb U, z.at.cell? ⟨M, 0, none⟩ = some (.pointer (some ⟨B, 0, none⟩)) ∧ z.at.cell? ⟨M, 1, none⟩ = some (.int .i64 n) ∧ z.at.cell? ⟨R, 0, none⟩ = some (.pointer none) ∧ z.at.cell? ⟨R, 1, none⟩ = some (.int .i64 0) ∧ z.at.frozen? ⟨R, 0, none⟩ = false ∧ z.at.frozen? ⟨R, 1, none⟩ = false from fun z => ⟨cM0 z, cM1 z, cR0 z, cR1 z, fR z 0, fR z 1⟩)
      have K0 := Lib.hid (show z2.at.drew.cell? ⟨M, 0, none⟩ = some (.pointer (some ⟨B, 0, none⟩)) ∧ z2.at.drew.cell? ⟨M, 1, none⟩ = some (.int .i64 n) from ⟨cM0 z2, cM1 z2⟩)
      have KE := Lib.hid (show ∀ (z : Wb U) u v, (((z.at).setCell ⟨R, 0, none⟩ u).setCell ⟨R, 1, none⟩ v).cell? ⟨M, 0, none⟩ = some (.pointer (some ⟨B, 0, none⟩)) ∧ (((z.at).setCell ⟨R, 0, none⟩ u).setCell ⟨R, 1, none⟩ v).cell? ⟨M, 1, none⟩ = some (.int .i64 n) from fun z u v => ⟨(((rM z).oth (by have := HR.out; omega) 0 _).oth (by have := HR.out; omega) 1 _).cell 0, (((rM z).oth (by have := HR.out; omega) 0 _).oth (by have := HR.out; omega) 1 _).cell 1⟩)
      go_region_held3 (fun w' => w'.cell? ⟨M, 0, none⟩ = some (.pointer (some ⟨B, 0, none⟩)) ∧ w'.cell? ⟨M, 1, none⟩ = some (.int .i64 n))
        (first | exact K0.out | exact ⟨(KS.out z4).1, (KS.out z4).2.1⟩ | exact KE.out _ _ _)
        (first | (go_at_call 70; refine (without_some t B K _ (TrS.below (q2.drew) _ B HB.out) hw KM).mono ?_; rintro e w4 ⟨p2, rfl, b4, t4⟩; have T4 := Lib.hid t4; clear t4; obtain ⟨z4, rfl⟩ := Wb.next (x := z2) (show Below z2.at.heap.size z2.at w4 from ((Below.refl z2.at.heap.size z2.at).drew).trans b4); clear b4))
      have q4 : Below w.heap.size w z4.at := bU.trans (z4.bel.mono bU.size)
      have W1 : IntKind.i64.wrap (n - 1) = n - 1 := IntWalk.i64_in _ ⟨by omega, by omega⟩
      go_wp2
      refine bodyPost_ret (v := .agg #[.pointer p2, .int .i64 (n - 1)]) (by simp [results, Try.results52, go_sem, *]) rfl ⟨_, _, rfl, KB.put (KB.put q4 wR 0 _) wR 1 _, ?_⟩
      rw [ED.out]
      have MA : MAt z4.at p2 (n - 1) (t.del K) := ⟨T4.out, NL.out, DL.out.1⟩
      exact (MA.set (rR z4) (by simp) 0 _).set ((rR z4).set 0 _) (by simp) 1 _

def codeA (a : Int) : Int := if GrF.alignedB a 3 = true then (if a < 4294967296 then 0 else 1) else 60
theorem check_any (a : Int) (w : World) (h0 : 0 ≤ a) (h1 : a < 18446744073709551616) :
    Calls Try.prog 21 #[.int .u64 a] w fun e w' => e = .returned (.int .i64 (codeA a)) ∧ w = w' := by
  have AL := Lib.hid (fun w => aligned_any a 3 w h0 h1 (by omega) (by omega))
  unfold codeA
  cases c : GrF.alignedB a 3 with
  | false =>
    rw [c] at AL
    clear c
    go_enter Try.func21, Try.ntmps21
    go_wp2_with fail
    refine (AL.out _).mono ?_
    rintro e w1 ⟨rfl, rfl⟩
    go_wp2
    go_ret
    exact ⟨by simp, rfl⟩
  | true =>
    rw [c] at AL
    clear c
    by_cases d : a < 4294967296
    · have e0 : decide (4294967296 ≤ a) = false := by simp; omega
      rw [if_pos d]
      clear d
      go_enter Try.func21, Try.ntmps21
      go_wp2_with fail
      refine (AL.out _).mono ?_
      rintro e w1 ⟨rfl, rfl⟩
      go_wp2
      go_ret
      exact ⟨by simp, rfl⟩
    · have e0 : decide (4294967296 ≤ a) = true := by simp; omega
      rw [if_neg d]
      clear d
      go_enter Try.func21, Try.ntmps21
      go_wp2_with fail
      refine (AL.out _).mono ?_
      rintro e w1 ⟨rfl, rfl⟩
      go_wp2
      go_ret
      exact ⟨by simp, rfl⟩
end Go.Proofs.Ytnpgpbcpgniloaa
