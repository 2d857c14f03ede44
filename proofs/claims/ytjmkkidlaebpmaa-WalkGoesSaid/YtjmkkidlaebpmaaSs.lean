/-
  Layer 8, the laws' walks: WalkParts.
  Layer 8: slices of cells as they come in.
  Layer 8: WalkParts, over a slice as it comes in.
-/
import Derived.Test.YtjmkkidlaebpmaaSo
import Derived.Test.YtjmkkidlaebpmaaWa
import Derived.Test.YtjmkkidlaebpmaaKs
set_option linter.unusedSimpArgs false
set_option linter.unusedVariables false
namespace Go.Proofs.Ytjmkkidlaebpmaa
open Go.RowKit GrS

theorem ffield0 (k l : Int) (b : Bool) (w : World) : (Instr.field 36 (.agg #[.int .i64 k, .int .i64 l, .bool b]) 0).run Try.prog w = .ok (.int .i64 k) w := by kernel_rfl
theorem secondA_bd (F va : Int) : 0 ≤ GrW.secondA F va ∧ GrW.secondA F va < 18446744073709551616 := by
  unfold GrW.secondA
  split
  · rw [IntKind.wrap_u64]; omega
  · omega
theorem walkL_no (R : Int → Int) (tb va : Int) (b : Bool) (h : ¬ GrW.befK va = 0) : GrW.walkL R tb va b = [.int .i64 (GrW.befK va), .int .i64 0, .bool b, .int .u64 0, .int .u64 0, .int .u64 0, .int .i64 0] := by
  unfold GrW.walkL
  rw [if_neg h]
theorem walkL_two (R : Int → Int) (tb va : Int) (b : Bool) (h : GrW.befK va = 0) (t : GrW.isTable (GrW.wF R tb va) = true) : GrW.walkL R tb va b = [.int .i64 (GrW.allowK (GrW.wF R tb va) (GrW.wS R tb va) b), .int .i64 (GrW.thL (GrW.wF R tb va) (GrW.wS R tb va) b), .bool (GrW.thC (GrW.wF R tb va) (GrW.wS R tb va) b), .int .u64 (GrW.thA (GrW.wF R tb va) (GrW.wS R tb va) va b), .int .u64 (GrW.wF R tb va), .int .u64 (GrW.wS R tb va), .int .i64 2] := by
  unfold GrW.walkL
  rw [if_pos h, show GrW.wN R tb va = 2 by unfold GrW.wN; rw [if_pos t]]
theorem walkL_one (R : Int → Int) (tb va : Int) (b : Bool) (h : GrW.befK va = 0) (t : GrW.isTable (GrW.wF R tb va) = false) : GrW.walkL R tb va b = [.int .i64 (GrW.allowK (GrW.wF R tb va) 0 b), .int .i64 (GrW.thL (GrW.wF R tb va) 0 b), .bool (GrW.thC (GrW.wF R tb va) 0 b), .int .u64 (GrW.thA (GrW.wF R tb va) 0 va b), .int .u64 (GrW.wF R tb va), .int .u64 0, .int .i64 1] := by
  have t' : ¬ GrW.isTable (GrW.wF R tb va) = true := by rw [t]; decide
  unfold GrW.walkL
  rw [if_pos h, show GrW.wN R tb va = 1 by unfold GrW.wN; rw [if_neg t'], show GrW.wS R tb va = 0 by unfold GrW.wS; rw [if_neg t']]
theorem befV_no (va : Int) (b : Bool) (h : ¬ GrW.befK va = 0) : GrW.befV va b = GrW.fv (GrW.befK va) 0 b := by unfold GrW.befV; rw [if_neg h]
theorem thV_no (f l va : Int) (b : Bool) (h : ¬ GrW.befK va = 0) : GrW.thV f l va b = GrW.fv (GrW.befK va) 0 b := by unfold GrW.thV; rw [if_neg h]; exact befV_no va b h
theorem thA_no (f l va : Int) (b : Bool) (h : ¬ GrW.befK va = 0) : GrW.thA f l va b = 0 := by unfold GrW.thA; rw [if_neg h]
theorem walk_mem (p : Option Addr) (m : Int) (t : Option Tr) (L : List (Int × Int)) (tb va : Int) (b : Bool) (w : World) (ma : MAt w p m t) (rt : RelT t L) (hb : Bd L) (h0 : 0 ≤ va) (h1 : va < 18446744073709551616) :
    Calls Try.prog 18 #[.agg #[.pointer p, .int .i64 m], .int .u64 tb, .int .u64 va, .bool b] w fun e w' => e = .returned (.agg (GrW.walkL (readL L) tb va b).toArray) ∧ Below w.heap.size w w' :=
  walk_any (readL L) p m tb va b w h0 h1 (readL_bd hb)
    (fun _ => rt.reads ma _ (by rw [IntKind.wrap_u64]; omega) (by rw [IntKind.wrap_u64]; omega))
    (fun _ c => by
      have e : GrW.wS (readL L) tb va = readL L (GrW.secondA (GrW.wF (readL L) tb va) va) := by unfold GrW.wS; rw [if_pos c]
      rw [e]
      exact rt.reads ma _ (secondA_bd _ _).1 (secondA_bd _ _).2)

set_option maxRecDepth 100000 in
set_option maxHeartbeats 6400000 in
theorem WalkParts_walk (v : Value) (L : List (Int × Int)) (tb va : Int) (b : Bool) (w : World) (h : SlP w v L) (hb : Bd L) (h0 : 0 ≤ va) (h1 : va < 18446744073709551616) :
    Calls Try.prog 6 #[v, .agg #[.int .u64 tb, .int .u64 va, .bool b]] w fun e w' => e = .returned (.bool true) ∧ Below w.heap.size w w' := by
  have AW := Lib.hid (fun w => wawake_any w)
  have HS := Lib.hid h
  have HB := Lib.hid hb
  clear h hb
  go_enter Try.func6, Try.ntmps6
  go_upto_region 1 with fail
  refine to_cls ?_
  intro U0 hU0 z0
  have r_a : ∀ z : Wb U0, Row z.at (w.heap.size) [.int .u64 tb, .int .u64 va, .bool b] 25 := Row.next (Row.new' _ [.int .u64 tb, .int .u64 va, .bool b] _ _ (by simp)) hU0
  have KK := Lib.hid (KB.next (KB.alloc (Below.refl _ _) _) hU0)
  clear hU0
  have c_a_0 : ∀ z : Wb U0, z.at.cell? ⟨w.heap.size, 0, none⟩ = some (.int .u64 tb) := fun z => (r_a z).cell 0
  have c_a_1 : ∀ z : Wb U0, z.at.cell? ⟨w.heap.size, 1, none⟩ = some (.int .u64 va) := fun z => (r_a z).cell 1
  have c_a_2 : ∀ z : Wb U0, z.at.cell? ⟨w.heap.size, 2, none⟩ = some (.bool b) := fun z => (r_a z).cell 2
  go_wp2_with fail
  refine (AW.out _).mono ?_
  rintro e w1 ⟨rfl, g⟩
  obtain ⟨z1, rfl⟩ := Wb.next (x := z0) g
  clear g
  go_wp2_with fail
  refine (mem_any v L z1.at (HS.out.below (KK.out z1)) HB.out).mono ?_
  rintro e w1 ⟨p, m, ok, t, rfl, g, ma, m256, rt⟩
  obtain ⟨z2, rfl⟩ := Wb.next (x := z1) g
  have MA := Lib.hid (fun (U : World) (k : Below z2.at.heap.size z2.at U) => ma.below k)
  have M2 := Lib.hid m256
  have RT := Lib.hid rt
  clear g ma m256 rt
  go_upto_region 4 with fail
  refine to_cls ?_
  intro U3 hU3 z3
  clear c_a_0 c_a_1 c_a_2
  have r_a : ∀ z : Wb U3, Row z.at (w.heap.size) [.int .u64 tb, .int .u64 va, .bool b] 25 := Row.next ((r_a z2).old _) hU3
  have r_m : ∀ z : Wb U3, Row z.at (z2.at.heap.size) [.pointer p, .int .i64 m] 31 := Row.next (Row.new _ [.pointer p, .int .i64 m] _) hU3
  have KK := Lib.hid (KB.next (KB.alloc (KK.out z2) _) hU3)
  have MB := Lib.hid (fun z : Wb U3 => MAt.below (MAt.below (MA.out _ (KB.alloc (Below.refl _ _) _ : Below z2.at.heap.size z2.at _)) hU3) z.bel)
  clear hU3
  have c_a_0 : ∀ z : Wb U3, z.at.cell? ⟨w.heap.size, 0, none⟩ = some (.int .u64 tb) := fun z => (r_a z).cell 0
  have c_a_1 : ∀ z : Wb U3, z.at.cell? ⟨w.heap.size, 1, none⟩ = some (.int .u64 va) := fun z => (r_a z).cell 1
  have c_a_2 : ∀ z : Wb U3, z.at.cell? ⟨w.heap.size, 2, none⟩ = some (.bool b) := fun z => (r_a z).cell 2
  have c_m_0 : ∀ z : Wb U3, z.at.cell? ⟨z2.at.heap.size, 0, none⟩ = some (.pointer p) := fun z => (r_m z).cell 0
  have c_m_1 : ∀ z : Wb U3, z.at.cell? ⟨z2.at.heap.size, 1, none⟩ = some (.int .i64 m) := fun z => (r_m z).cell 1
  obtain ⟨mA, hmA⟩ : ∃ b, b = z2.at.heap.size := ⟨_, rfl⟩
  rw [← hmA] at r_m c_m_0 c_m_1
  simp only [← hmA]
  clear hmA
  cases ok with
  | false =>
    go_wp2
    go_ret
    exact ⟨by first | rfl | simp, KK.out z3⟩
  | true =>
    have RX := Lib.hid (RT.out rfl)
    have WK := Lib.hid (fun z : Wb U3 => walk_mem p m t L tb va b z.at (MB.out z) RX.out HB.out h0 h1)
    by_cases ck : GrW.befK va = 0
    · cases ct : GrW.isTable (GrW.wF (readL L) tb va) with
      | true =>
        have HF := readL_bd HB.out (IntKind.u64.wrap (tb + 8 * GrF.slot va 1))
        have WL := walkL_two (readL L) tb va b ck ct
        rw [WL] at WK
        clear WL
        obtain ⟨F, hF⟩ : ∃ F, F = GrW.wF (readL L) tb va := ⟨_, rfl⟩
        have F0 : 0 ≤ F ∧ F < 18446744073709551616 := by rw [hF]; exact HF
        clear HF
        obtain ⟨S, hS⟩ : ∃ S, S = GrW.wS (readL L) tb va := ⟨_, rfl⟩
        have eS : S = readL L (GrW.secondA F va) := by rw [hS, hF]; unfold GrW.wS; rw [if_pos ct]
        have S0 : 0 ≤ S ∧ S < 18446744073709551616 := by rw [eS]; exact readL_bd HB.out _
        rw [← hF, ← hS] at WK
        rw [← hF] at ct
        have TH := Lib.hid (fun w => through_any F S va b w F0.1 F0.2 S0.1 S0.2 h0 h1)
        rw [GrW.thV_in _ _ _ _ ck] at TH
        have FI := Lib.hid (fun w => first_any F va w F0.1 F0.2 h0 h1)
        obtain ⟨k1, l1, ef⟩ := GrW.firstV_in F
        rw [ef, ct] at FI
        obtain ⟨a2, ha2⟩ : ∃ a2, a2 = GrW.secondA F va := ⟨_, rfl⟩
        rw [← ha2] at FI
        have A2 : 0 ≤ a2 ∧ a2 < 18446744073709551616 := by rw [ha2]; exact secondA_bd F va
        rw [← ha2] at eS
        have A3 := Lib.hid A2
        have E3 := Lib.hid eS
        clear eS A2 S0 hS
        obtain ⟨fk, hk⟩ : ∃ k, k = GrW.allowK F S b := ⟨_, rfl⟩
        obtain ⟨fl, hl⟩ : ∃ k, k = GrW.thL F S b := ⟨_, rfl⟩
        obtain ⟨fc, hc⟩ : ∃ k, k = GrW.thC F S b := ⟨_, rfl⟩
        obtain ⟨ad, had⟩ : ∃ k, k = GrW.thA F S va b := ⟨_, rfl⟩
        rw [← hk, ← hl, ← hc, ← had] at WK TH
        clear hk hl hc had ef hF ct ck F0 ha2
        unfold GrW.fv at TH FI
        go_wp2_with fail
        refine (WK.out z3).mono ?_
        rintro e w1 ⟨rfl, g⟩
        obtain ⟨z4, rfl⟩ := Wb.next (x := z3) g
        clear g WK
        go_upto_region 7 with fail
        refine to_cls ?_
        intro U5 hU5 z5
        clear c_a_0 c_a_1 c_a_2 c_m_0 c_m_1
        have r_a : ∀ z : Wb U5, Row z.at (w.heap.size) [.int .u64 tb, .int .u64 va, .bool b] 25 := Row.next ((r_a z4).old _) hU5
        have r_m : ∀ z : Wb U5, Row z.at (mA) [.pointer p, .int .i64 m] 31 := Row.next ((r_m z4).old _) hU5
        have r_q : ∀ z : Wb U5, Row z.at (z4.at.heap.size) [.int .i64 fk, .int .i64 fl, .bool fc, .int .u64 ad, .int .u64 F, .int .u64 S, .int .i64 2] 38 := Row.next (Row.new _ [.int .i64 fk, .int .i64 fl, .bool fc, .int .u64 ad, .int .u64 F, .int .u64 S, .int .i64 2] _) hU5
        have KK := Lib.hid (KB.next (KB.alloc (KK.out z4) _) hU5)
        have MB := Lib.hid (fun z : Wb U5 => MAt.below (MAt.below ((MB.out z4).below (KB.alloc (Below.refl _ _) _ : Below z4.at.heap.size z4.at _)) hU5) z.bel)
        clear hU5
        have c_a_0 : ∀ z : Wb U5, z.at.cell? ⟨w.heap.size, 0, none⟩ = some (.int .u64 tb) := fun z => (r_a z).cell 0
        have c_a_1 : ∀ z : Wb U5, z.at.cell? ⟨w.heap.size, 1, none⟩ = some (.int .u64 va) := fun z => (r_a z).cell 1
        have c_a_2 : ∀ z : Wb U5, z.at.cell? ⟨w.heap.size, 2, none⟩ = some (.bool b) := fun z => (r_a z).cell 2
        have c_m_0 : ∀ z : Wb U5, z.at.cell? ⟨mA, 0, none⟩ = some (.pointer p) := fun z => (r_m z).cell 0
        have c_m_1 : ∀ z : Wb U5, z.at.cell? ⟨mA, 1, none⟩ = some (.int .i64 m) := fun z => (r_m z).cell 1
        have c_q_0 : ∀ z : Wb U5, z.at.cell? ⟨z4.at.heap.size, 0, none⟩ = some (.int .i64 fk) := fun z => (r_q z).cell 0
        have c_q_1 : ∀ z : Wb U5, z.at.cell? ⟨z4.at.heap.size, 1, none⟩ = some (.int .i64 fl) := fun z => (r_q z).cell 1
        have c_q_2 : ∀ z : Wb U5, z.at.cell? ⟨z4.at.heap.size, 2, none⟩ = some (.bool fc) := fun z => (r_q z).cell 2
        have c_q_3 : ∀ z : Wb U5, z.at.cell? ⟨z4.at.heap.size, 3, none⟩ = some (.int .u64 ad) := fun z => (r_q z).cell 3
        have c_q_4 : ∀ z : Wb U5, z.at.cell? ⟨z4.at.heap.size, 4, none⟩ = some (.int .u64 F) := fun z => (r_q z).cell 4
        have c_q_5 : ∀ z : Wb U5, z.at.cell? ⟨z4.at.heap.size, 5, none⟩ = some (.int .u64 S) := fun z => (r_q z).cell 5
        have c_q_6 : ∀ z : Wb U5, z.at.cell? ⟨z4.at.heap.size, 6, none⟩ = some (.int .i64 2) := fun z => (r_q z).cell 6
        obtain ⟨qA, hqA⟩ : ∃ b, b = z4.at.heap.size := ⟨_, rfl⟩
        rw [← hqA] at r_q c_q_0 c_q_1 c_q_2 c_q_3 c_q_4 c_q_5 c_q_6
        simp only [← hqA]
        clear hqA
        go_wp2_with fail
        refine (TH.out _).mono ?_
        rintro e w1 ⟨rfl, g⟩
        obtain ⟨z6, rfl⟩ := Wb.next (x := z5) g
        clear g
        go_upto_region 8 with fail
        refine to_cls ?_
        intro U7 hU7 z7
        clear c_a_0 c_a_1 c_a_2 c_m_0 c_m_1 c_q_0 c_q_1 c_q_2 c_q_3 c_q_4 c_q_5 c_q_6
        have r_a : ∀ z : Wb U7, Row z.at (w.heap.size) [.int .u64 tb, .int .u64 va, .bool b] 25 := Row.next ((r_a z6).old _) hU7
        have r_m : ∀ z : Wb U7, Row z.at (mA) [.pointer p, .int .i64 m] 31 := Row.next ((r_m z6).old _) hU7
        have r_q : ∀ z : Wb U7, Row z.at (qA) [.int .i64 fk, .int .i64 fl, .bool fc, .int .u64 ad, .int .u64 F, .int .u64 S, .int .i64 2] 38 := Row.next ((r_q z6).old _) hU7
        have r_f : ∀ z : Wb U7, Row z.at (z6.at.heap.size) [.int .i64 fk, .int .i64 fl, .bool fc] 36 := Row.next (Row.new _ [.int .i64 fk, .int .i64 fl, .bool fc] _) hU7
        have KK := Lib.hid (KB.next (KB.alloc (KK.out z6) _) hU7)
        have MB := Lib.hid (fun z : Wb U7 => MAt.below (MAt.below ((MB.out z6).below (KB.alloc (Below.refl _ _) _ : Below z6.at.heap.size z6.at _)) hU7) z.bel)
        clear hU7
        have c_a_0 : ∀ z : Wb U7, z.at.cell? ⟨w.heap.size, 0, none⟩ = some (.int .u64 tb) := fun z => (r_a z).cell 0
        have c_a_1 : ∀ z : Wb U7, z.at.cell? ⟨w.heap.size, 1, none⟩ = some (.int .u64 va) := fun z => (r_a z).cell 1
        have c_a_2 : ∀ z : Wb U7, z.at.cell? ⟨w.heap.size, 2, none⟩ = some (.bool b) := fun z => (r_a z).cell 2
        have c_m_0 : ∀ z : Wb U7, z.at.cell? ⟨mA, 0, none⟩ = some (.pointer p) := fun z => (r_m z).cell 0
        have c_m_1 : ∀ z : Wb U7, z.at.cell? ⟨mA, 1, none⟩ = some (.int .i64 m) := fun z => (r_m z).cell 1
        have c_q_0 : ∀ z : Wb U7, z.at.cell? ⟨qA, 0, none⟩ = some (.int .i64 fk) := fun z => (r_q z).cell 0
        have c_q_1 : ∀ z : Wb U7, z.at.cell? ⟨qA, 1, none⟩ = some (.int .i64 fl) := fun z => (r_q z).cell 1
        have c_q_2 : ∀ z : Wb U7, z.at.cell? ⟨qA, 2, none⟩ = some (.bool fc) := fun z => (r_q z).cell 2
        have c_q_3 : ∀ z : Wb U7, z.at.cell? ⟨qA, 3, none⟩ = some (.int .u64 ad) := fun z => (r_q z).cell 3
        have c_q_4 : ∀ z : Wb U7, z.at.cell? ⟨qA, 4, none⟩ = some (.int .u64 F) := fun z => (r_q z).cell 4
        have c_q_5 : ∀ z : Wb U7, z.at.cell? ⟨qA, 5, none⟩ = some (.int .u64 S) := fun z => (r_q z).cell 5
        have c_q_6 : ∀ z : Wb U7, z.at.cell? ⟨qA, 6, none⟩ = some (.int .i64 2) := fun z => (r_q z).cell 6
        have c_f_0 : ∀ z : Wb U7, z.at.cell? ⟨z6.at.heap.size, 0, none⟩ = some (.int .i64 fk) := fun z => (r_f z).cell 0
        have c_f_1 : ∀ z : Wb U7, z.at.cell? ⟨z6.at.heap.size, 1, none⟩ = some (.int .i64 fl) := fun z => (r_f z).cell 1
        have c_f_2 : ∀ z : Wb U7, z.at.cell? ⟨z6.at.heap.size, 2, none⟩ = some (.bool fc) := fun z => (r_f z).cell 2
        obtain ⟨fA, hfA⟩ : ∃ b, b = z6.at.heap.size := ⟨_, rfl⟩
        rw [← hfA] at r_f c_f_0 c_f_1 c_f_2
        simp only [← hfA]
        clear hfA
        go_wp2_with fail
        refine (FI.out _).mono ?_
        rintro e w1 ⟨rfl, g⟩
        obtain ⟨z8, rfl⟩ := Wb.next (x := z7) g
        clear g
        go_upto_region 13 with fail
        refine to_cls ?_
        intro U9 hU9 z9
        clear c_a_0 c_a_1 c_a_2 c_m_0 c_m_1 c_q_0 c_q_1 c_q_2 c_q_3 c_q_4 c_q_5 c_q_6 c_f_0 c_f_1 c_f_2
        have r_a : ∀ z : Wb U9, Row z.at (w.heap.size) [.int .u64 tb, .int .u64 va, .bool b] 25 := Row.next ((r_a z8).old _) hU9
        have r_m : ∀ z : Wb U9, Row z.at (mA) [.pointer p, .int .i64 m] 31 := Row.next ((r_m z8).old _) hU9
        have r_q : ∀ z : Wb U9, Row z.at (qA) [.int .i64 fk, .int .i64 fl, .bool fc, .int .u64 ad, .int .u64 F, .int .u64 S, .int .i64 2] 38 := Row.next ((r_q z8).old _) hU9
        have r_f : ∀ z : Wb U9, Row z.at (fA) [.int .i64 fk, .int .i64 fl, .bool fc] 36 := Row.next ((r_f z8).old _) hU9
        have r_g : ∀ z : Wb U9, Row z.at (z8.at.heap.size) [.int .i64 k1, .int .i64 l1, .bool false] 36 := Row.next (Row.new _ [.int .i64 k1, .int .i64 l1, .bool false] _) hU9
        have KK := Lib.hid (KB.next (KB.alloc (KK.out z8) _) hU9)
        have MB := Lib.hid (fun z : Wb U9 => MAt.below (MAt.below ((MB.out z8).below (KB.alloc (Below.refl _ _) _ : Below z8.at.heap.size z8.at _)) hU9) z.bel)
        clear hU9
        have c_a_0 : ∀ z : Wb U9, z.at.cell? ⟨w.heap.size, 0, none⟩ = some (.int .u64 tb) := fun z => (r_a z).cell 0
        have c_a_1 : ∀ z : Wb U9, z.at.cell? ⟨w.heap.size, 1, none⟩ = some (.int .u64 va) := fun z => (r_a z).cell 1
        have c_a_2 : ∀ z : Wb U9, z.at.cell? ⟨w.heap.size, 2, none⟩ = some (.bool b) := fun z => (r_a z).cell 2
        have c_m_0 : ∀ z : Wb U9, z.at.cell? ⟨mA, 0, none⟩ = some (.pointer p) := fun z => (r_m z).cell 0
        have c_m_1 : ∀ z : Wb U9, z.at.cell? ⟨mA, 1, none⟩ = some (.int .i64 m) := fun z => (r_m z).cell 1
        have c_q_0 : ∀ z : Wb U9, z.at.cell? ⟨qA, 0, none⟩ = some (.int .i64 fk) := fun z => (r_q z).cell 0
        have c_q_1 : ∀ z : Wb U9, z.at.cell? ⟨qA, 1, none⟩ = some (.int .i64 fl) := fun z => (r_q z).cell 1
        have c_q_2 : ∀ z : Wb U9, z.at.cell? ⟨qA, 2, none⟩ = some (.bool fc) := fun z => (r_q z).cell 2
        have c_q_3 : ∀ z : Wb U9, z.at.cell? ⟨qA, 3, none⟩ = some (.int .u64 ad) := fun z => (r_q z).cell 3
        have c_q_4 : ∀ z : Wb U9, z.at.cell? ⟨qA, 4, none⟩ = some (.int .u64 F) := fun z => (r_q z).cell 4
        have c_q_5 : ∀ z : Wb U9, z.at.cell? ⟨qA, 5, none⟩ = some (.int .u64 S) := fun z => (r_q z).cell 5
        have c_q_6 : ∀ z : Wb U9, z.at.cell? ⟨qA, 6, none⟩ = some (.int .i64 2) := fun z => (r_q z).cell 6
        have c_f_0 : ∀ z : Wb U9, z.at.cell? ⟨fA, 0, none⟩ = some (.int .i64 fk) := fun z => (r_f z).cell 0
        have c_f_1 : ∀ z : Wb U9, z.at.cell? ⟨fA, 1, none⟩ = some (.int .i64 fl) := fun z => (r_f z).cell 1
        have c_f_2 : ∀ z : Wb U9, z.at.cell? ⟨fA, 2, none⟩ = some (.bool fc) := fun z => (r_f z).cell 2
        have c_g_0 : ∀ z : Wb U9, z.at.cell? ⟨z8.at.heap.size, 0, none⟩ = some (.int .i64 k1) := fun z => (r_g z).cell 0
        have c_g_1 : ∀ z : Wb U9, z.at.cell? ⟨z8.at.heap.size, 1, none⟩ = some (.int .i64 l1) := fun z => (r_g z).cell 1
        have c_g_2 : ∀ z : Wb U9, z.at.cell? ⟨z8.at.heap.size, 2, none⟩ = some (.bool false) := fun z => (r_g z).cell 2
        obtain ⟨gA, hgA⟩ : ∃ b, b = z8.at.heap.size := ⟨_, rfl⟩
        rw [← hgA] at r_g c_g_0 c_g_1 c_g_2
        simp only [← hgA]
        clear hgA
        have d_a_0 : ∀ y : Wb z9.at, y.at.cell? ⟨w.heap.size, 0, none⟩ = some (.int .u64 tb) := fun y => ((r_a z9).below y.bel).cell 0
        have d_a_1 : ∀ y : Wb z9.at, y.at.cell? ⟨w.heap.size, 1, none⟩ = some (.int .u64 va) := fun y => ((r_a z9).below y.bel).cell 1
        have d_a_2 : ∀ y : Wb z9.at, y.at.cell? ⟨w.heap.size, 2, none⟩ = some (.bool b) := fun y => ((r_a z9).below y.bel).cell 2
        have d_m_0 : ∀ y : Wb z9.at, y.at.cell? ⟨mA, 0, none⟩ = some (.pointer p) := fun y => ((r_m z9).below y.bel).cell 0
        have d_m_1 : ∀ y : Wb z9.at, y.at.cell? ⟨mA, 1, none⟩ = some (.int .i64 m) := fun y => ((r_m z9).below y.bel).cell 1
        have d_q_0 : ∀ y : Wb z9.at, y.at.cell? ⟨qA, 0, none⟩ = some (.int .i64 fk) := fun y => ((r_q z9).below y.bel).cell 0
        have d_q_1 : ∀ y : Wb z9.at, y.at.cell? ⟨qA, 1, none⟩ = some (.int .i64 fl) := fun y => ((r_q z9).below y.bel).cell 1
        have d_q_2 : ∀ y : Wb z9.at, y.at.cell? ⟨qA, 2, none⟩ = some (.bool fc) := fun y => ((r_q z9).below y.bel).cell 2
        have d_q_3 : ∀ y : Wb z9.at, y.at.cell? ⟨qA, 3, none⟩ = some (.int .u64 ad) := fun y => ((r_q z9).below y.bel).cell 3
        have d_q_4 : ∀ y : Wb z9.at, y.at.cell? ⟨qA, 4, none⟩ = some (.int .u64 F) := fun y => ((r_q z9).below y.bel).cell 4
        have d_q_5 : ∀ y : Wb z9.at, y.at.cell? ⟨qA, 5, none⟩ = some (.int .u64 S) := fun y => ((r_q z9).below y.bel).cell 5
        have d_q_6 : ∀ y : Wb z9.at, y.at.cell? ⟨qA, 6, none⟩ = some (.int .i64 2) := fun y => ((r_q z9).below y.bel).cell 6
        clear c_a_0 c_a_1 c_a_2 c_m_0 c_m_1 c_q_0 c_q_1 c_q_2 c_q_3 c_q_4 c_q_5 c_q_6 c_f_0 c_f_1 c_f_2 c_g_0 c_g_1 c_g_2
        have RY := Lib.hid (fun y : Wb z9.at => RelT.reads RX.out ((MB.out z9).below y.bel) a2 A3.out.1 A3.out.2 y.at (Below.refl _ _))
        rw [← E3.out] at RY
        refine wp_region_wb (by kernel_rfl) (by kernel_rfl) ?_
        repeat (go_big_quiet_step ((go_at_call 29; exact Calls.wb (RY.out _))))
        refine wpQuiet_nil ?_
        rintro _ ⟨y, rfl⟩
        go_wp2
        go_ret
        exact ⟨by first | rfl | simp, (KK.out z9).trans (y.bel.mono (KK.out z9).size)⟩
      | false =>
        have HF := readL_bd HB.out (IntKind.u64.wrap (tb + 8 * GrF.slot va 1))
        have WL := walkL_one (readL L) tb va b ck ct
        rw [WL] at WK
        clear WL
        obtain ⟨F, hF⟩ : ∃ F, F = GrW.wF (readL L) tb va := ⟨_, rfl⟩
        have F0 : 0 ≤ F ∧ F < 18446744073709551616 := by rw [hF]; exact HF
        clear HF
        rw [← hF] at WK ct
        have TH := Lib.hid (fun w => through_any F 0 va b w F0.1 F0.2 (by omega) (by omega) h0 h1)
        rw [GrW.thV_in _ _ _ _ ck] at TH
        have FI := Lib.hid (fun w => first_any F va w F0.1 F0.2 h0 h1)
        obtain ⟨k1, l1, ef⟩ := GrW.firstV_in F
        rw [ef, ct] at FI
        obtain ⟨a2, ha2⟩ : ∃ a2, a2 = GrW.secondA F va := ⟨_, rfl⟩
        rw [← ha2] at FI
        obtain ⟨fk, hk⟩ : ∃ k, k = GrW.allowK F 0 b := ⟨_, rfl⟩
        obtain ⟨fl, hl⟩ : ∃ k, k = GrW.thL F 0 b := ⟨_, rfl⟩
        obtain ⟨fc, hc⟩ : ∃ k, k = GrW.thC F 0 b := ⟨_, rfl⟩
        obtain ⟨ad, had⟩ : ∃ k, k = GrW.thA F 0 va b := ⟨_, rfl⟩
        rw [← hk, ← hl, ← hc, ← had] at WK TH
        clear hk hl hc had ef hF ct ck F0 ha2
        unfold GrW.fv at TH FI
        go_wp2_with fail
        refine (WK.out z3).mono ?_
        rintro e w1 ⟨rfl, g⟩
        obtain ⟨z4, rfl⟩ := Wb.next (x := z3) g
        clear g WK
        go_upto_region 7 with fail
        refine to_cls ?_
        intro U5 hU5 z5
        clear c_a_0 c_a_1 c_a_2 c_m_0 c_m_1
        have r_a : ∀ z : Wb U5, Row z.at (w.heap.size) [.int .u64 tb, .int .u64 va, .bool b] 25 := Row.next ((r_a z4).old _) hU5
        have r_m : ∀ z : Wb U5, Row z.at (mA) [.pointer p, .int .i64 m] 31 := Row.next ((r_m z4).old _) hU5
        have r_q : ∀ z : Wb U5, Row z.at (z4.at.heap.size) [.int .i64 fk, .int .i64 fl, .bool fc, .int .u64 ad, .int .u64 F, .int .u64 0, .int .i64 1] 38 := Row.next (Row.new _ [.int .i64 fk, .int .i64 fl, .bool fc, .int .u64 ad, .int .u64 F, .int .u64 0, .int .i64 1] _) hU5
        have KK := Lib.hid (KB.next (KB.alloc (KK.out z4) _) hU5)
        have MB := Lib.hid (fun z : Wb U5 => MAt.below (MAt.below ((MB.out z4).below (KB.alloc (Below.refl _ _) _ : Below z4.at.heap.size z4.at _)) hU5) z.bel)
        clear hU5
        have c_a_0 : ∀ z : Wb U5, z.at.cell? ⟨w.heap.size, 0, none⟩ = some (.int .u64 tb) := fun z => (r_a z).cell 0
        have c_a_1 : ∀ z : Wb U5, z.at.cell? ⟨w.heap.size, 1, none⟩ = some (.int .u64 va) := fun z => (r_a z).cell 1
        have c_a_2 : ∀ z : Wb U5, z.at.cell? ⟨w.heap.size, 2, none⟩ = some (.bool b) := fun z => (r_a z).cell 2
        have c_m_0 : ∀ z : Wb U5, z.at.cell? ⟨mA, 0, none⟩ = some (.pointer p) := fun z => (r_m z).cell 0
        have c_m_1 : ∀ z : Wb U5, z.at.cell? ⟨mA, 1, none⟩ = some (.int .i64 m) := fun z => (r_m z).cell 1
        have c_q_0 : ∀ z : Wb U5, z.at.cell? ⟨z4.at.heap.size, 0, none⟩ = some (.int .i64 fk) := fun z => (r_q z).cell 0
        have c_q_1 : ∀ z : Wb U5, z.at.cell? ⟨z4.at.heap.size, 1, none⟩ = some (.int .i64 fl) := fun z => (r_q z).cell 1
        have c_q_2 : ∀ z : Wb U5, z.at.cell? ⟨z4.at.heap.size, 2, none⟩ = some (.bool fc) := fun z => (r_q z).cell 2
        have c_q_3 : ∀ z : Wb U5, z.at.cell? ⟨z4.at.heap.size, 3, none⟩ = some (.int .u64 ad) := fun z => (r_q z).cell 3
        have c_q_4 : ∀ z : Wb U5, z.at.cell? ⟨z4.at.heap.size, 4, none⟩ = some (.int .u64 F) := fun z => (r_q z).cell 4
        have c_q_5 : ∀ z : Wb U5, z.at.cell? ⟨z4.at.heap.size, 5, none⟩ = some (.int .u64 0) := fun z => (r_q z).cell 5
        have c_q_6 : ∀ z : Wb U5, z.at.cell? ⟨z4.at.heap.size, 6, none⟩ = some (.int .i64 1) := fun z => (r_q z).cell 6
        obtain ⟨qA, hqA⟩ : ∃ b, b = z4.at.heap.size := ⟨_, rfl⟩
        rw [← hqA] at r_q c_q_0 c_q_1 c_q_2 c_q_3 c_q_4 c_q_5 c_q_6
        simp only [← hqA]
        clear hqA
        go_wp2_with fail
        refine (TH.out _).mono ?_
        rintro e w1 ⟨rfl, g⟩
        obtain ⟨z6, rfl⟩ := Wb.next (x := z5) g
        clear g
        go_upto_region 8 with fail
        refine to_cls ?_
        intro U7 hU7 z7
        clear c_a_0 c_a_1 c_a_2 c_m_0 c_m_1 c_q_0 c_q_1 c_q_2 c_q_3 c_q_4 c_q_5 c_q_6
        have r_a : ∀ z : Wb U7, Row z.at (w.heap.size) [.int .u64 tb, .int .u64 va, .bool b] 25 := Row.next ((r_a z6).old _) hU7
        have r_m : ∀ z : Wb U7, Row z.at (mA) [.pointer p, .int .i64 m] 31 := Row.next ((r_m z6).old _) hU7
        have r_q : ∀ z : Wb U7, Row z.at (qA) [.int .i64 fk, .int .i64 fl, .bool fc, .int .u64 ad, .int .u64 F, .int .u64 0, .int .i64 1] 38 := Row.next ((r_q z6).old _) hU7
        have r_f : ∀ z : Wb U7, Row z.at (z6.at.heap.size) [.int .i64 fk, .int .i64 fl, .bool fc] 36 := Row.next (Row.new _ [.int .i64 fk, .int .i64 fl, .bool fc] _) hU7
        have KK := Lib.hid (KB.next (KB.alloc (KK.out z6) _) hU7)
        have MB := Lib.hid (fun z : Wb U7 => MAt.below (MAt.below ((MB.out z6).below (KB.alloc (Below.refl _ _) _ : Below z6.at.heap.size z6.at _)) hU7) z.bel)
        clear hU7
        have c_a_0 : ∀ z : Wb U7, z.at.cell? ⟨w.heap.size, 0, none⟩ = some (.int .u64 tb) := fun z => (r_a z).cell 0
        have c_a_1 : ∀ z : Wb U7, z.at.cell? ⟨w.heap.size, 1, none⟩ = some (.int .u64 va) := fun z => (r_a z).cell 1
        have c_a_2 : ∀ z : Wb U7, z.at.cell? ⟨w.heap.size, 2, none⟩ = some (.bool b) := fun z => (r_a z).cell 2
        have c_m_0 : ∀ z : Wb U7, z.at.cell? ⟨mA, 0, none⟩ = some (.pointer p) := fun z => (r_m z).cell 0
        have c_m_1 : ∀ z : Wb U7, z.at.cell? ⟨mA, 1, none⟩ = some (.int .i64 m) := fun z => (r_m z).cell 1
        have c_q_0 : ∀ z : Wb U7, z.at.cell? ⟨qA, 0, none⟩ = some (.int .i64 fk) := fun z => (r_q z).cell 0
        have c_q_1 : ∀ z : Wb U7, z.at.cell? ⟨qA, 1, none⟩ = some (.int .i64 fl) := fun z => (r_q z).cell 1
        have c_q_2 : ∀ z : Wb U7, z.at.cell? ⟨qA, 2, none⟩ = some (.bool fc) := fun z => (r_q z).cell 2
        have c_q_3 : ∀ z : Wb U7, z.at.cell? ⟨qA, 3, none⟩ = some (.int .u64 ad) := fun z => (r_q z).cell 3
        have c_q_4 : ∀ z : Wb U7, z.at.cell? ⟨qA, 4, none⟩ = some (.int .u64 F) := fun z => (r_q z).cell 4
        have c_q_5 : ∀ z : Wb U7, z.at.cell? ⟨qA, 5, none⟩ = some (.int .u64 0) := fun z => (r_q z).cell 5
        have c_q_6 : ∀ z : Wb U7, z.at.cell? ⟨qA, 6, none⟩ = some (.int .i64 1) := fun z => (r_q z).cell 6
        have c_f_0 : ∀ z : Wb U7, z.at.cell? ⟨z6.at.heap.size, 0, none⟩ = some (.int .i64 fk) := fun z => (r_f z).cell 0
        have c_f_1 : ∀ z : Wb U7, z.at.cell? ⟨z6.at.heap.size, 1, none⟩ = some (.int .i64 fl) := fun z => (r_f z).cell 1
        have c_f_2 : ∀ z : Wb U7, z.at.cell? ⟨z6.at.heap.size, 2, none⟩ = some (.bool fc) := fun z => (r_f z).cell 2
        obtain ⟨fA, hfA⟩ : ∃ b, b = z6.at.heap.size := ⟨_, rfl⟩
        rw [← hfA] at r_f c_f_0 c_f_1 c_f_2
        simp only [← hfA]
        clear hfA
        go_wp2_with fail
        refine (FI.out _).mono ?_
        rintro e w1 ⟨rfl, g⟩
        obtain ⟨z8, rfl⟩ := Wb.next (x := z7) g
        clear g
        go_upto_region 13 with fail
        refine to_cls ?_
        intro U9 hU9 z9
        clear c_a_0 c_a_1 c_a_2 c_m_0 c_m_1 c_q_0 c_q_1 c_q_2 c_q_3 c_q_4 c_q_5 c_q_6 c_f_0 c_f_1 c_f_2
        have r_a : ∀ z : Wb U9, Row z.at (w.heap.size) [.int .u64 tb, .int .u64 va, .bool b] 25 := Row.next ((r_a z8).old _) hU9
        have r_m : ∀ z : Wb U9, Row z.at (mA) [.pointer p, .int .i64 m] 31 := Row.next ((r_m z8).old _) hU9
        have r_q : ∀ z : Wb U9, Row z.at (qA) [.int .i64 fk, .int .i64 fl, .bool fc, .int .u64 ad, .int .u64 F, .int .u64 0, .int .i64 1] 38 := Row.next ((r_q z8).old _) hU9
        have r_f : ∀ z : Wb U9, Row z.at (fA) [.int .i64 fk, .int .i64 fl, .bool fc] 36 := Row.next ((r_f z8).old _) hU9
        have r_g : ∀ z : Wb U9, Row z.at (z8.at.heap.size) [.int .i64 k1, .int .i64 l1, .bool false] 36 := Row.next (Row.new _ [.int .i64 k1, .int .i64 l1, .bool false] _) hU9
        have KK := Lib.hid (KB.next (KB.alloc (KK.out z8) _) hU9)
        have MB := Lib.hid (fun z : Wb U9 => MAt.below (MAt.below ((MB.out z8).below (KB.alloc (Below.refl _ _) _ : Below z8.at.heap.size z8.at _)) hU9) z.bel)
        clear hU9
        have c_a_0 : ∀ z : Wb U9, z.at.cell? ⟨w.heap.size, 0, none⟩ = some (.int .u64 tb) := fun z => (r_a z).cell 0
        have c_a_1 : ∀ z : Wb U9, z.at.cell? ⟨w.heap.size, 1, none⟩ = some (.int .u64 va) := fun z => (r_a z).cell 1
        have c_a_2 : ∀ z : Wb U9, z.at.cell? ⟨w.heap.size, 2, none⟩ = some (.bool b) := fun z => (r_a z).cell 2
        have c_m_0 : ∀ z : Wb U9, z.at.cell? ⟨mA, 0, none⟩ = some (.pointer p) := fun z => (r_m z).cell 0
        have c_m_1 : ∀ z : Wb U9, z.at.cell? ⟨mA, 1, none⟩ = some (.int .i64 m) := fun z => (r_m z).cell 1
        have c_q_0 : ∀ z : Wb U9, z.at.cell? ⟨qA, 0, none⟩ = some (.int .i64 fk) := fun z => (r_q z).cell 0
        have c_q_1 : ∀ z : Wb U9, z.at.cell? ⟨qA, 1, none⟩ = some (.int .i64 fl) := fun z => (r_q z).cell 1
        have c_q_2 : ∀ z : Wb U9, z.at.cell? ⟨qA, 2, none⟩ = some (.bool fc) := fun z => (r_q z).cell 2
        have c_q_3 : ∀ z : Wb U9, z.at.cell? ⟨qA, 3, none⟩ = some (.int .u64 ad) := fun z => (r_q z).cell 3
        have c_q_4 : ∀ z : Wb U9, z.at.cell? ⟨qA, 4, none⟩ = some (.int .u64 F) := fun z => (r_q z).cell 4
        have c_q_5 : ∀ z : Wb U9, z.at.cell? ⟨qA, 5, none⟩ = some (.int .u64 0) := fun z => (r_q z).cell 5
        have c_q_6 : ∀ z : Wb U9, z.at.cell? ⟨qA, 6, none⟩ = some (.int .i64 1) := fun z => (r_q z).cell 6
        have c_f_0 : ∀ z : Wb U9, z.at.cell? ⟨fA, 0, none⟩ = some (.int .i64 fk) := fun z => (r_f z).cell 0
        have c_f_1 : ∀ z : Wb U9, z.at.cell? ⟨fA, 1, none⟩ = some (.int .i64 fl) := fun z => (r_f z).cell 1
        have c_f_2 : ∀ z : Wb U9, z.at.cell? ⟨fA, 2, none⟩ = some (.bool fc) := fun z => (r_f z).cell 2
        have c_g_0 : ∀ z : Wb U9, z.at.cell? ⟨z8.at.heap.size, 0, none⟩ = some (.int .i64 k1) := fun z => (r_g z).cell 0
        have c_g_1 : ∀ z : Wb U9, z.at.cell? ⟨z8.at.heap.size, 1, none⟩ = some (.int .i64 l1) := fun z => (r_g z).cell 1
        have c_g_2 : ∀ z : Wb U9, z.at.cell? ⟨z8.at.heap.size, 2, none⟩ = some (.bool false) := fun z => (r_g z).cell 2
        obtain ⟨gA, hgA⟩ : ∃ b, b = z8.at.heap.size := ⟨_, rfl⟩
        rw [← hgA] at r_g c_g_0 c_g_1 c_g_2
        simp only [← hgA]
        clear hgA
        have d_a_0 : ∀ y : Wb z9.at, y.at.cell? ⟨w.heap.size, 0, none⟩ = some (.int .u64 tb) := fun y => ((r_a z9).below y.bel).cell 0
        have d_a_1 : ∀ y : Wb z9.at, y.at.cell? ⟨w.heap.size, 1, none⟩ = some (.int .u64 va) := fun y => ((r_a z9).below y.bel).cell 1
        have d_a_2 : ∀ y : Wb z9.at, y.at.cell? ⟨w.heap.size, 2, none⟩ = some (.bool b) := fun y => ((r_a z9).below y.bel).cell 2
        have d_m_0 : ∀ y : Wb z9.at, y.at.cell? ⟨mA, 0, none⟩ = some (.pointer p) := fun y => ((r_m z9).below y.bel).cell 0
        have d_m_1 : ∀ y : Wb z9.at, y.at.cell? ⟨mA, 1, none⟩ = some (.int .i64 m) := fun y => ((r_m z9).below y.bel).cell 1
        have d_q_0 : ∀ y : Wb z9.at, y.at.cell? ⟨qA, 0, none⟩ = some (.int .i64 fk) := fun y => ((r_q z9).below y.bel).cell 0
        have d_q_1 : ∀ y : Wb z9.at, y.at.cell? ⟨qA, 1, none⟩ = some (.int .i64 fl) := fun y => ((r_q z9).below y.bel).cell 1
        have d_q_2 : ∀ y : Wb z9.at, y.at.cell? ⟨qA, 2, none⟩ = some (.bool fc) := fun y => ((r_q z9).below y.bel).cell 2
        have d_q_3 : ∀ y : Wb z9.at, y.at.cell? ⟨qA, 3, none⟩ = some (.int .u64 ad) := fun y => ((r_q z9).below y.bel).cell 3
        have d_q_4 : ∀ y : Wb z9.at, y.at.cell? ⟨qA, 4, none⟩ = some (.int .u64 F) := fun y => ((r_q z9).below y.bel).cell 4
        have d_q_5 : ∀ y : Wb z9.at, y.at.cell? ⟨qA, 5, none⟩ = some (.int .u64 0) := fun y => ((r_q z9).below y.bel).cell 5
        have d_q_6 : ∀ y : Wb z9.at, y.at.cell? ⟨qA, 6, none⟩ = some (.int .i64 1) := fun y => ((r_q z9).below y.bel).cell 6
        clear c_a_0 c_a_1 c_a_2 c_m_0 c_m_1 c_q_0 c_q_1 c_q_2 c_q_3 c_q_4 c_q_5 c_q_6 c_f_0 c_f_1 c_f_2 c_g_0 c_g_1 c_g_2
        refine wp_region_wb (by kernel_rfl) (by kernel_rfl) ?_
        repeat (go_big_quiet_step (fail))
        refine wpQuiet_nil ?_
        rintro _ ⟨y, rfl⟩
        go_wp2
        go_ret
        exact ⟨by first | rfl | simp, (KK.out z9).trans (y.bel.mono (KK.out z9).size)⟩
    · have WL := walkL_no (readL L) tb va b ck
      rw [WL] at WK
      clear WL
      have TH := Lib.hid (fun w => through_any 0 0 va b w (by omega) (by omega) (by omega) (by omega) h0 h1)
      rw [thV_no 0 0 va b ck, thA_no 0 0 va b ck] at TH
      have BE := Lib.hid (fun w => before_any va b w h0 h1)
      rw [befV_no va b ck] at BE
      obtain ⟨K, hK⟩ : ∃ K, K = GrW.befK va := ⟨_, rfl⟩
      rw [← hK] at WK TH BE ck
      have kb : (K != 0) = true := by simpa using ck
      clear hK ck
      unfold GrW.fv at TH BE
      go_wp2_with fail
      refine (WK.out z3).mono ?_
      rintro e w1 ⟨rfl, g⟩
      obtain ⟨z4, rfl⟩ := Wb.next (x := z3) g
      clear g WK
      go_upto_region 7 with fail
      refine to_cls ?_
      intro U5 hU5 z5
      clear c_a_0 c_a_1 c_a_2 c_m_0 c_m_1
      have r_a : ∀ z : Wb U5, Row z.at (w.heap.size) [.int .u64 tb, .int .u64 va, .bool b] 25 := Row.next ((r_a z4).old _) hU5
      have r_m : ∀ z : Wb U5, Row z.at (mA) [.pointer p, .int .i64 m] 31 := Row.next ((r_m z4).old _) hU5
      have r_q : ∀ z : Wb U5, Row z.at (z4.at.heap.size) [.int .i64 K, .int .i64 0, .bool b, .int .u64 0, .int .u64 0, .int .u64 0, .int .i64 0] 38 := Row.next (Row.new _ [.int .i64 K, .int .i64 0, .bool b, .int .u64 0, .int .u64 0, .int .u64 0, .int .i64 0] _) hU5
      have KK := Lib.hid (KB.next (KB.alloc (KK.out z4) _) hU5)
      have MB := Lib.hid (fun z : Wb U5 => MAt.below (MAt.below ((MB.out z4).below (KB.alloc (Below.refl _ _) _ : Below z4.at.heap.size z4.at _)) hU5) z.bel)
      clear hU5
      have c_a_0 : ∀ z : Wb U5, z.at.cell? ⟨w.heap.size, 0, none⟩ = some (.int .u64 tb) := fun z => (r_a z).cell 0
      have c_a_1 : ∀ z : Wb U5, z.at.cell? ⟨w.heap.size, 1, none⟩ = some (.int .u64 va) := fun z => (r_a z).cell 1
      have c_a_2 : ∀ z : Wb U5, z.at.cell? ⟨w.heap.size, 2, none⟩ = some (.bool b) := fun z => (r_a z).cell 2
      have c_m_0 : ∀ z : Wb U5, z.at.cell? ⟨mA, 0, none⟩ = some (.pointer p) := fun z => (r_m z).cell 0
      have c_m_1 : ∀ z : Wb U5, z.at.cell? ⟨mA, 1, none⟩ = some (.int .i64 m) := fun z => (r_m z).cell 1
      have c_q_0 : ∀ z : Wb U5, z.at.cell? ⟨z4.at.heap.size, 0, none⟩ = some (.int .i64 K) := fun z => (r_q z).cell 0
      have c_q_1 : ∀ z : Wb U5, z.at.cell? ⟨z4.at.heap.size, 1, none⟩ = some (.int .i64 0) := fun z => (r_q z).cell 1
      have c_q_2 : ∀ z : Wb U5, z.at.cell? ⟨z4.at.heap.size, 2, none⟩ = some (.bool b) := fun z => (r_q z).cell 2
      have c_q_3 : ∀ z : Wb U5, z.at.cell? ⟨z4.at.heap.size, 3, none⟩ = some (.int .u64 0) := fun z => (r_q z).cell 3
      have c_q_4 : ∀ z : Wb U5, z.at.cell? ⟨z4.at.heap.size, 4, none⟩ = some (.int .u64 0) := fun z => (r_q z).cell 4
      have c_q_5 : ∀ z : Wb U5, z.at.cell? ⟨z4.at.heap.size, 5, none⟩ = some (.int .u64 0) := fun z => (r_q z).cell 5
      have c_q_6 : ∀ z : Wb U5, z.at.cell? ⟨z4.at.heap.size, 6, none⟩ = some (.int .i64 0) := fun z => (r_q z).cell 6
      obtain ⟨qA, hqA⟩ : ∃ b, b = z4.at.heap.size := ⟨_, rfl⟩
      rw [← hqA] at r_q c_q_0 c_q_1 c_q_2 c_q_3 c_q_4 c_q_5 c_q_6
      simp only [← hqA]
      clear hqA
      go_wp2_with fail
      refine (TH.out _).mono ?_
      rintro e w1 ⟨rfl, g⟩
      obtain ⟨z6, rfl⟩ := Wb.next (x := z5) g
      clear g
      go_upto_region 8 with fail
      refine to_cls ?_
      intro U7 hU7 z7
      clear c_a_0 c_a_1 c_a_2 c_m_0 c_m_1 c_q_0 c_q_1 c_q_2 c_q_3 c_q_4 c_q_5 c_q_6
      have r_a : ∀ z : Wb U7, Row z.at (w.heap.size) [.int .u64 tb, .int .u64 va, .bool b] 25 := Row.next ((r_a z6).old _) hU7
      have r_m : ∀ z : Wb U7, Row z.at (mA) [.pointer p, .int .i64 m] 31 := Row.next ((r_m z6).old _) hU7
      have r_q : ∀ z : Wb U7, Row z.at (qA) [.int .i64 K, .int .i64 0, .bool b, .int .u64 0, .int .u64 0, .int .u64 0, .int .i64 0] 38 := Row.next ((r_q z6).old _) hU7
      have r_f : ∀ z : Wb U7, Row z.at (z6.at.heap.size) [.int .i64 K, .int .i64 0, .bool b] 36 := Row.next (Row.new _ [.int .i64 K, .int .i64 0, .bool b] _) hU7
      have KK := Lib.hid (KB.next (KB.alloc (KK.out z6) _) hU7)
      have MB := Lib.hid (fun z : Wb U7 => MAt.below (MAt.below ((MB.out z6).below (KB.alloc (Below.refl _ _) _ : Below z6.at.heap.size z6.at _)) hU7) z.bel)
      clear hU7
      have c_a_0 : ∀ z : Wb U7, z.at.cell? ⟨w.heap.size, 0, none⟩ = some (.int .u64 tb) := fun z => (r_a z).cell 0
      have c_a_1 : ∀ z : Wb U7, z.at.cell? ⟨w.heap.size, 1, none⟩ = some (.int .u64 va) := fun z => (r_a z).cell 1
      have c_a_2 : ∀ z : Wb U7, z.at.cell? ⟨w.heap.size, 2, none⟩ = some (.bool b) := fun z => (r_a z).cell 2
      have c_m_0 : ∀ z : Wb U7, z.at.cell? ⟨mA, 0, none⟩ = some (.pointer p) := fun z => (r_m z).cell 0
      have c_m_1 : ∀ z : Wb U7, z.at.cell? ⟨mA, 1, none⟩ = some (.int .i64 m) := fun z => (r_m z).cell 1
      have c_q_0 : ∀ z : Wb U7, z.at.cell? ⟨qA, 0, none⟩ = some (.int .i64 K) := fun z => (r_q z).cell 0
      have c_q_1 : ∀ z : Wb U7, z.at.cell? ⟨qA, 1, none⟩ = some (.int .i64 0) := fun z => (r_q z).cell 1
      have c_q_2 : ∀ z : Wb U7, z.at.cell? ⟨qA, 2, none⟩ = some (.bool b) := fun z => (r_q z).cell 2
      have c_q_3 : ∀ z : Wb U7, z.at.cell? ⟨qA, 3, none⟩ = some (.int .u64 0) := fun z => (r_q z).cell 3
      have c_q_4 : ∀ z : Wb U7, z.at.cell? ⟨qA, 4, none⟩ = some (.int .u64 0) := fun z => (r_q z).cell 4
      have c_q_5 : ∀ z : Wb U7, z.at.cell? ⟨qA, 5, none⟩ = some (.int .u64 0) := fun z => (r_q z).cell 5
      have c_q_6 : ∀ z : Wb U7, z.at.cell? ⟨qA, 6, none⟩ = some (.int .i64 0) := fun z => (r_q z).cell 6
      have c_f_0 : ∀ z : Wb U7, z.at.cell? ⟨z6.at.heap.size, 0, none⟩ = some (.int .i64 K) := fun z => (r_f z).cell 0
      have c_f_1 : ∀ z : Wb U7, z.at.cell? ⟨z6.at.heap.size, 1, none⟩ = some (.int .i64 0) := fun z => (r_f z).cell 1
      have c_f_2 : ∀ z : Wb U7, z.at.cell? ⟨z6.at.heap.size, 2, none⟩ = some (.bool b) := fun z => (r_f z).cell 2
      obtain ⟨fA, hfA⟩ : ∃ b, b = z6.at.heap.size := ⟨_, rfl⟩
      rw [← hfA] at r_f c_f_0 c_f_1 c_f_2
      simp only [← hfA]
      clear hfA
      go_wp2_with fail
      refine (BE.out _).mono ?_
      rintro e w1 ⟨rfl, g⟩
      obtain ⟨z8, rfl⟩ := Wb.next (x := z7) g
      clear g
      have fl := fun w => ffield0 K 0 b w
      go_wp2
      go_ret
      exact ⟨by first | rfl | simp, KK.out z8⟩
end Go.Proofs.Ytjmkkidlaebpmaa

namespace Go.Proofs.Ytjmkkidlaebpmaa
open Go.ChangeShapes Go.WideShapes Go.ChangeAt Go.RowKit GrS

section
variable {H : Type} {enc : TypeId × Value → H} {w : World} {base : Nat} {spare : Nat → Bool} {held : Bool}
theorem open_cell {R : List Value} {m : Nat} {y : DataW H × List MemPlace} (h : R.length = 2) (hf : DataW.trod enc Try.prog w base spare held m 59 R = some y) :
    ∃ p : Int × Int, R = [.int .u64 p.1, .int .u64 p.2] ∧ (0 ≤ p.1 ∧ p.1 < 18446744073709551616) ∧ 0 ≤ p.2 ∧ p.2 < 18446744073709551616 := by
  match R, h with
  | [c0, c1], _ =>
    have f := open_fields_cells Try.underlying59 (by kernel_rfl) rfl hf
    obtain ⟨_, y0, n0, e0, g0⟩ := f 0 _ rfl
    simp only [List.getElem?_cons_zero, List.getElem?_cons_succ, Option.some.injEq] at e0
    subst e0
    obtain ⟨a0, u0, _, w0⟩ := DataW.trod_int Try.underlying23 g0
    simp only [List.cons.injEq, and_true] at u0
    subst u0
    obtain ⟨_, y1, n1, e1, g1⟩ := f 1 _ rfl
    simp only [List.getElem?_cons_zero, List.getElem?_cons_succ, Option.some.injEq] at e1
    subst e1
    obtain ⟨a1, u1, _, w1⟩ := DataW.trod_int Try.underlying23 g1
    simp only [List.cons.injEq, and_true] at u1
    subst u1
    exact ⟨(a0, a1), rfl, bd_u64 w0, bd_u64 w1⟩
end
theorem slp_of_rows {v : Value} {n : Nat} {R : Nat → List Value} {w : World} (s : SlAt w v 2 n ((List.range n).flatMap R)) (g : ∀ i, i < n → ∃ p : Int × Int, R i = [.int .u64 p.1, .int .u64 p.2] ∧ (0 ≤ p.1 ∧ p.1 < 18446744073709551616) ∧ 0 ≤ p.2 ∧ p.2 < 18446744073709551616) :
    ∃ L, SlP w v L ∧ Bd L := by
  obtain ⟨KX, hKX⟩ := Go.Deep.choose_lt (α := Int × Int) g
  refine ⟨(List.range n).map KX, ?_, fun p hp => ?_⟩
  · have e : cellsL ((List.range n).map KX) = (List.range n).flatMap R := by
      unfold cellsL
      rw [List.flatMap_map]
      exact Go.Deep.flatMap_congr_range fun i hi => (hKX i hi).1.symm
    unfold SlP
    rw [e, List.length_map, List.length_range]
    exact s
  · obtain ⟨i, hi, rfl⟩ := List.mem_map.1 hp
    exact (hKX i (List.mem_range.1 hi)).2
end Go.Proofs.Ytjmkkidlaebpmaa

namespace Go.Proofs.Ytjmkkidlaebpmaa
open Go.RowKit GrS
theorem WalkParts_rows (v : Value) (n : Nat) (R : Nat → List Value) (tb va : Int) (b : Bool) (w : World) (s : SlAt w v 2 n ((List.range n).flatMap R)) (g : ∀ i, i < n → ∃ p : Int × Int, R i = [.int .u64 p.1, .int .u64 p.2] ∧ (0 ≤ p.1 ∧ p.1 < 18446744073709551616) ∧ 0 ≤ p.2 ∧ p.2 < 18446744073709551616) (h0 : 0 ≤ va) (h1 : va < 18446744073709551616) :
    Calls Try.prog 6 #[v, .agg #[.int .u64 tb, .int .u64 va, .bool b]] w fun e w' => e = .returned (.bool true) ∧ Below w.heap.size w w' := by
  obtain ⟨L, hL, hB⟩ := slp_of_rows s g
  exact WalkParts_walk v L tb va b w hL hB h0 h1
end Go.Proofs.Ytjmkkidlaebpmaa
