/-
  Layer 8, the laws' walks: WalkBeside.
  Layer 8, the page's Walk over a slice of cells.
  Layer 8, the laws' walks: WalkGoes.
-/
import Derived.Test.YtjmkkidlaebpmaaSs
set_option linter.unusedSimpArgs false
set_option linter.unusedVariables false
namespace Go.Proofs.Ytjmkkidlaebpmaa
open Go.RowKit GrS

theorem Bd.app {L : List (Int × Int)} {a x : Int} (h : Bd L) (a0 : 0 ≤ a) (a1 : a < 18446744073709551616) (x0 : 0 ≤ x) (x1 : x < 18446744073709551616) : Bd (L ++ [(a, x)]) := fun p hp => by
  rcases List.mem_append.mp hp with k | k
  · exact h p k
  · obtain rfl := List.mem_singleton.mp k
    exact ⟨⟨a0, a1⟩, x0, x1⟩
theorem walkL_form (R : Int → Int) (hR : ∀ a, 0 ≤ R a ∧ R a < 18446744073709551616) (tb va : Int) (b : Bool) :
    ∃ k l c ad F S n, GrW.walkL R tb va b = [.int .i64 k, .int .i64 l, .bool c, .int .u64 ad, .int .u64 F, .int .u64 S, .int .i64 n] ∧ 0 ≤ F ∧ F < 18446744073709551616 ∧ (GrW.befK va = 0 → F = GrW.wF R tb va) := by
  by_cases h : GrW.befK va = 0
  · refine ⟨_, _, _, _, _, _, _, by unfold GrW.walkL; rw [if_pos h], ?_, ?_, fun _ => rfl⟩
    · unfold GrW.wF; exact (hR _).1
    · unfold GrW.wF; exact (hR _).2
  · exact ⟨_, _, _, _, _, _, _, walkL_no R tb va b h, by omega, by omega, fun k => absurd k h⟩
theorem walkL_beside (L : List (Int × Int)) (tb va ca cv : Int) (b : Bool) (F : Int) (eF : GrW.befK va = 0 → F = GrW.wF (readL L) tb va) (h1 : ca ≠ IntKind.u64.wrap (tb + 8 * GrF.slot va 1)) (h2 : GrW.isTable F = true → ¬ GrW.secondA F va = ca) :
    GrW.walkL (readL (L ++ [(ca, cv)])) tb va b = GrW.walkL (readL L) tb va b := by
  by_cases h : GrW.befK va = 0
  · have e1 : GrW.wF (readL (L ++ [(ca, cv)])) tb va = GrW.wF (readL L) tb va := by
      unfold GrW.wF; rw [readL_app, if_neg h1]
    obtain rfl := eF h
    have e2 : GrW.wS (readL (L ++ [(ca, cv)])) tb va = GrW.wS (readL L) tb va := by
      unfold GrW.wS
      rw [e1]
      by_cases k : GrW.isTable (GrW.wF (readL L) tb va) = true
      · rw [if_pos k, if_pos k, readL_app, if_neg (fun e => h2 k e.symm)]
      · rw [if_neg k, if_neg k]
    have e3 : GrW.wN (readL (L ++ [(ca, cv)])) tb va = GrW.wN (readL L) tb va := by
      unfold GrW.wN; rw [e1]
    unfold GrW.walkL
    rw [e1, e2, e3]
  · rw [walkL_no _ _ _ _ h, walkL_no _ _ _ _ h]

set_option maxRecDepth 100000 in
set_option maxHeartbeats 6400000 in
theorem WalkBeside_walk (v : Value) (L : List (Int × Int)) (tb va ca cv : Int) (b : Bool) (w : World) (h : SlP w v L) (hb : Bd L) (t0 : 0 ≤ tb) (t1 : tb < 18446744073709551616) (h0 : 0 ≤ va) (h1 : va < 18446744073709551616) (c0 : 0 ≤ ca) (c1 : ca < 18446744073709551616) (v0 : 0 ≤ cv) (v1 : cv < 18446744073709551616) :
    Calls Try.prog 7 #[v, .agg #[.int .u64 tb, .int .u64 va, .bool b], .agg #[.int .u64 ca, .int .u64 cv]] w fun e w' => e = .returned (.bool true) ∧ Below w.heap.size w w' := by
  have AW := Lib.hid (fun w => wawake_any w)
  have HS := Lib.hid h
  have HB := Lib.hid hb
  clear h hb
  go_enter Try.func7, Try.ntmps7
  go_upto_region 1 with fail
  refine to_cls ?_
  intro U0 hU0 z0
  have r_a : ∀ z : Wb U0, Row z.at (w.heap.size) [.int .u64 tb, .int .u64 va, .bool b] 25 := Row.next (Row.old (Row.new' _ [.int .u64 tb, .int .u64 va, .bool b] _ _ (by simp)) _) hU0
  have r_c : ∀ z : Wb U0, Row z.at (w.heap.size + 1) [.int .u64 ca, .int .u64 cv] 59 := Row.next (Row.new' _ [.int .u64 ca, .int .u64 cv] _ _ (by simp)) hU0
  have KK := Lib.hid (KB.next (KB.alloc (KB.alloc (Below.refl _ _) _) _) hU0)
  clear hU0
  have c_a_0 : ∀ z : Wb U0, z.at.cell? ⟨w.heap.size, 0, none⟩ = some (.int .u64 tb) := fun z => (r_a z).cell 0
  have c_a_1 : ∀ z : Wb U0, z.at.cell? ⟨w.heap.size, 1, none⟩ = some (.int .u64 va) := fun z => (r_a z).cell 1
  have c_a_2 : ∀ z : Wb U0, z.at.cell? ⟨w.heap.size, 2, none⟩ = some (.bool b) := fun z => (r_a z).cell 2
  have c_c_0 : ∀ z : Wb U0, z.at.cell? ⟨w.heap.size + 1, 0, none⟩ = some (.int .u64 ca) := fun z => (r_c z).cell 0
  have c_c_1 : ∀ z : Wb U0, z.at.cell? ⟨w.heap.size + 1, 1, none⟩ = some (.int .u64 cv) := fun z => (r_c z).cell 1
  go_wp2_with fail
  refine (AW.out _).mono ?_
  rintro e w1 ⟨rfl, g⟩
  obtain ⟨z1, rfl⟩ := Wb.next (x := z0) g
  clear g
  go_wp2_with fail
  refine (mem_any v L z1.at (HS.out.below (KK.out z1)) HB.out).mono ?_
  rintro e w1 ⟨p, m, ok, t, rfl, g, ma, m256, rt⟩
  obtain ⟨z2, rfl⟩ := Wb.next (x := z1) g
  have MA := Lib.hid (fun (U : World) (k : Below z2.at.heap.size z2.at U) => ma.below k)
  have M2 := Lib.hid m256
  have RT := Lib.hid rt
  clear g ma m256 rt
  go_upto_region 4 with fail
  refine to_cls ?_
  intro U3 hU3 z3
  clear c_a_0 c_a_1 c_a_2 c_c_0 c_c_1
  have r_a : ∀ z : Wb U3, Row z.at (w.heap.size) [.int .u64 tb, .int .u64 va, .bool b] 25 := Row.next ((r_a z2).old _) hU3
  have r_c : ∀ z : Wb U3, Row z.at (w.heap.size + 1) [.int .u64 ca, .int .u64 cv] 59 := Row.next ((r_c z2).old _) hU3
  have r_m : ∀ z : Wb U3, Row z.at (z2.at.heap.size) [.pointer p, .int .i64 m] 31 := Row.next (Row.new _ [.pointer p, .int .i64 m] _) hU3
  have KK := Lib.hid (KB.next (KB.alloc (KK.out z2) _) hU3)
  have MB := Lib.hid (fun z : Wb U3 => MAt.below (MAt.below (MA.out _ (KB.alloc (Below.refl _ _) _ : Below z2.at.heap.size z2.at _)) hU3) z.bel)
  clear hU3
  have c_a_0 : ∀ z : Wb U3, z.at.cell? ⟨w.heap.size, 0, none⟩ = some (.int .u64 tb) := fun z => (r_a z).cell 0
  have c_a_1 : ∀ z : Wb U3, z.at.cell? ⟨w.heap.size, 1, none⟩ = some (.int .u64 va) := fun z => (r_a z).cell 1
  have c_a_2 : ∀ z : Wb U3, z.at.cell? ⟨w.heap.size, 2, none⟩ = some (.bool b) := fun z => (r_a z).cell 2
  have c_c_0 : ∀ z : Wb U3, z.at.cell? ⟨w.heap.size + 1, 0, none⟩ = some (.int .u64 ca) := fun z => (r_c z).cell 0
  have c_c_1 : ∀ z : Wb U3, z.at.cell? ⟨w.heap.size + 1, 1, none⟩ = some (.int .u64 cv) := fun z => (r_c z).cell 1
  have c_m_0 : ∀ z : Wb U3, z.at.cell? ⟨z2.at.heap.size, 0, none⟩ = some (.pointer p) := fun z => (r_m z).cell 0
  have c_m_1 : ∀ z : Wb U3, z.at.cell? ⟨z2.at.heap.size, 1, none⟩ = some (.int .i64 m) := fun z => (r_m z).cell 1
  obtain ⟨mA, hmA⟩ : ∃ b, b = z2.at.heap.size := ⟨_, rfl⟩
  rw [← hmA] at r_m c_m_0 c_m_1
  simp only [← hmA]
  clear hmA
  cases ok with
  | false =>
    go_wp2
    go_ret
    exact ⟨by first | rfl | simp, KK.out z3⟩
  | true =>
    have RX := Lib.hid (RT.out rfl)
    have WK := Lib.hid (fun z : Wb U3 => walk_mem p m t L tb va b z.at (MB.out z) RX.out HB.out h0 h1)
    obtain ⟨k, l, cb, ad, F, S, n, eW, F0, F1, eF⟩ := walkL_form (readL L) (readL_bd HB.out) tb va b
    rw [eW] at WK
    have E1 := Lib.hid eW
    clear eW
    have BS := Lib.hid (walkL_beside L tb va ca cv b F eF)
    clear eF
    have SL := Lib.hid (fun w => rdslot_any tb va 1 w h0 h1 t0 t1)
    obtain ⟨q, hq⟩ : ∃ q, q = IntKind.u64.wrap (tb + 8 * GrF.slot va 1) := ⟨_, rfl⟩
    rw [← hq] at SL BS
    clear hq
    have SE := Lib.hid (fun w => second_any F va w F0 F1 h0 h1)
    obtain ⟨a2, ha2⟩ : ∃ x, x = GrW.secondA F va := ⟨_, rfl⟩
    obtain ⟨T, hT⟩ : ∃ x, x = GrW.isTable F := ⟨_, rfl⟩
    rw [← ha2, ← hT] at SE BS
    clear ha2 hT F0 F1
    go_wp2_with fail
    refine (WK.out _).mono ?_
    rintro e w1 ⟨rfl, g⟩
    obtain ⟨z4, rfl⟩ := Wb.next (x := z3) g
    clear g
    clear WK
    go_upto_region 7 with fail
    refine to_cls ?_
    intro U5 hU5 z5
    clear c_a_0 c_a_1 c_a_2 c_c_0 c_c_1 c_m_0 c_m_1
    have r_a : ∀ z : Wb U5, Row z.at (w.heap.size) [.int .u64 tb, .int .u64 va, .bool b] 25 := Row.next ((r_a z4).old _) hU5
    have r_c : ∀ z : Wb U5, Row z.at (w.heap.size + 1) [.int .u64 ca, .int .u64 cv] 59 := Row.next ((r_c z4).old _) hU5
    have r_m : ∀ z : Wb U5, Row z.at (mA) [.pointer p, .int .i64 m] 31 := Row.next ((r_m z4).old _) hU5
    have r_r : ∀ z : Wb U5, Row z.at (z4.at.heap.size) [.int .i64 k, .int .i64 l, .bool cb, .int .u64 ad, .int .u64 F, .int .u64 S, .int .i64 n] 38 := Row.next (Row.new _ [.int .i64 k, .int .i64 l, .bool cb, .int .u64 ad, .int .u64 F, .int .u64 S, .int .i64 n] _) hU5
    have KK := Lib.hid (KB.next (KB.alloc (KK.out z4) _) hU5)
    have MB := Lib.hid (fun z : Wb U5 => MAt.below (MAt.below ((MB.out z4).below (KB.alloc (Below.refl _ _) _ : Below z4.at.heap.size z4.at _)) hU5) z.bel)
    clear hU5
    have c_a_0 : ∀ z : Wb U5, z.at.cell? ⟨w.heap.size, 0, none⟩ = some (.int .u64 tb) := fun z => (r_a z).cell 0
    have c_a_1 : ∀ z : Wb U5, z.at.cell? ⟨w.heap.size, 1, none⟩ = some (.int .u64 va) := fun z => (r_a z).cell 1
    have c_a_2 : ∀ z : Wb U5, z.at.cell? ⟨w.heap.size, 2, none⟩ = some (.bool b) := fun z => (r_a z).cell 2
    have c_c_0 : ∀ z : Wb U5, z.at.cell? ⟨w.heap.size + 1, 0, none⟩ = some (.int .u64 ca) := fun z => (r_c z).cell 0
    have c_c_1 : ∀ z : Wb U5, z.at.cell? ⟨w.heap.size + 1, 1, none⟩ = some (.int .u64 cv) := fun z => (r_c z).cell 1
    have c_m_0 : ∀ z : Wb U5, z.at.cell? ⟨mA, 0, none⟩ = some (.pointer p) := fun z => (r_m z).cell 0
    have c_m_1 : ∀ z : Wb U5, z.at.cell? ⟨mA, 1, none⟩ = some (.int .i64 m) := fun z => (r_m z).cell 1
    have c_r_0 : ∀ z : Wb U5, z.at.cell? ⟨z4.at.heap.size, 0, none⟩ = some (.int .i64 k) := fun z => (r_r z).cell 0
    have c_r_1 : ∀ z : Wb U5, z.at.cell? ⟨z4.at.heap.size, 1, none⟩ = some (.int .i64 l) := fun z => (r_r z).cell 1
    have c_r_2 : ∀ z : Wb U5, z.at.cell? ⟨z4.at.heap.size, 2, none⟩ = some (.bool cb) := fun z => (r_r z).cell 2
    have c_r_3 : ∀ z : Wb U5, z.at.cell? ⟨z4.at.heap.size, 3, none⟩ = some (.int .u64 ad) := fun z => (r_r z).cell 3
    have c_r_4 : ∀ z : Wb U5, z.at.cell? ⟨z4.at.heap.size, 4, none⟩ = some (.int .u64 F) := fun z => (r_r z).cell 4
    have c_r_5 : ∀ z : Wb U5, z.at.cell? ⟨z4.at.heap.size, 5, none⟩ = some (.int .u64 S) := fun z => (r_r z).cell 5
    have c_r_6 : ∀ z : Wb U5, z.at.cell? ⟨z4.at.heap.size, 6, none⟩ = some (.int .i64 n) := fun z => (r_r z).cell 6
    obtain ⟨rA, hrA⟩ : ∃ b, b = z4.at.heap.size := ⟨_, rfl⟩
    rw [← hrA] at r_r c_r_0 c_r_1 c_r_2 c_r_3 c_r_4 c_r_5 c_r_6
    simp only [← hrA]
    clear hrA
    have WR := Lib.hid (fun z : Wb U5 => Write_any p m t ca cv z.at (MB.out z) c0 c1 (by have := M2.out; omega))
    have WF := Lib.hid (MB.out z5).wf
    have WN := Lib.hid (MB.out z5).n
    have R2 := Lib.hid (fun h => (wrM_rel (v := cv) RX.out WF.out c0 c1 (by have := M2.out; have := WN.out; omega) h).1)
    obtain ⟨C, hC⟩ : ∃ x, x = (wrM t ca.toNat cv).2 := ⟨_, rfl⟩
    obtain ⟨t2, ht2⟩ : ∃ x, x = (wrM t ca.toNat cv).1 := ⟨_, rfl⟩
    rw [← hC, ← ht2] at WR R2
    clear hC ht2 WF WN
    have B2 := Lib.hid (Bd.app HB.out c0 c1 v0 v1)
    go_wp2_with fail
    refine (WR.out _).mono ?_
    rintro e w1 ⟨p2, n2, rfl, g, ma2⟩
    obtain ⟨z6, rfl⟩ := Wb.next (x := z5) g
    have MC := Lib.hid (fun (U : World) (k : Below z6.at.heap.size z6.at U) => ma2.below k)
    clear g ma2 WR
    go_upto_region 8 with fail
    refine to_cls ?_
    intro U7 hU7 z7
    clear c_a_0 c_a_1 c_a_2 c_c_0 c_c_1 c_m_0 c_m_1 c_r_0 c_r_1 c_r_2 c_r_3 c_r_4 c_r_5 c_r_6
    have r_a : ∀ z : Wb U7, Row z.at (w.heap.size) [.int .u64 tb, .int .u64 va, .bool b] 25 := Row.next ((r_a z6).old _) hU7
    have r_c : ∀ z : Wb U7, Row z.at (w.heap.size + 1) [.int .u64 ca, .int .u64 cv] 59 := Row.next ((r_c z6).old _) hU7
    have r_m : ∀ z : Wb U7, Row z.at (mA) [.pointer p, .int .i64 m] 31 := Row.next ((r_m z6).old _) hU7
    have r_r : ∀ z : Wb U7, Row z.at (rA) [.int .i64 k, .int .i64 l, .bool cb, .int .u64 ad, .int .u64 F, .int .u64 S, .int .i64 n] 38 := Row.next ((r_r z6).old _) hU7
    have r_n : ∀ z : Wb U7, Row z.at (z6.at.heap.size) [.pointer p2, .int .i64 n2] 31 := Row.next (Row.new _ [.pointer p2, .int .i64 n2] _) hU7
    have KK := Lib.hid (KB.next (KB.alloc (KK.out z6) _) hU7)
    have M3 := Lib.hid (fun z : Wb U7 => MAt.below (MAt.below (MC.out _ (KB.alloc (Below.refl _ _) _ : Below z6.at.heap.size z6.at _)) hU7) z.bel)
    clear hU7
    have c_a_0 : ∀ z : Wb U7, z.at.cell? ⟨w.heap.size, 0, none⟩ = some (.int .u64 tb) := fun z => (r_a z).cell 0
    have c_a_1 : ∀ z : Wb U7, z.at.cell? ⟨w.heap.size, 1, none⟩ = some (.int .u64 va) := fun z => (r_a z).cell 1
    have c_a_2 : ∀ z : Wb U7, z.at.cell? ⟨w.heap.size, 2, none⟩ = some (.bool b) := fun z => (r_a z).cell 2
    have c_c_0 : ∀ z : Wb U7, z.at.cell? ⟨w.heap.size + 1, 0, none⟩ = some (.int .u64 ca) := fun z => (r_c z).cell 0
    have c_c_1 : ∀ z : Wb U7, z.at.cell? ⟨w.heap.size + 1, 1, none⟩ = some (.int .u64 cv) := fun z => (r_c z).cell 1
    have c_m_0 : ∀ z : Wb U7, z.at.cell? ⟨mA, 0, none⟩ = some (.pointer p) := fun z => (r_m z).cell 0
    have c_m_1 : ∀ z : Wb U7, z.at.cell? ⟨mA, 1, none⟩ = some (.int .i64 m) := fun z => (r_m z).cell 1
    have c_r_0 : ∀ z : Wb U7, z.at.cell? ⟨rA, 0, none⟩ = some (.int .i64 k) := fun z => (r_r z).cell 0
    have c_r_1 : ∀ z : Wb U7, z.at.cell? ⟨rA, 1, none⟩ = some (.int .i64 l) := fun z => (r_r z).cell 1
    have c_r_2 : ∀ z : Wb U7, z.at.cell? ⟨rA, 2, none⟩ = some (.bool cb) := fun z => (r_r z).cell 2
    have c_r_3 : ∀ z : Wb U7, z.at.cell? ⟨rA, 3, none⟩ = some (.int .u64 ad) := fun z => (r_r z).cell 3
    have c_r_4 : ∀ z : Wb U7, z.at.cell? ⟨rA, 4, none⟩ = some (.int .u64 F) := fun z => (r_r z).cell 4
    have c_r_5 : ∀ z : Wb U7, z.at.cell? ⟨rA, 5, none⟩ = some (.int .u64 S) := fun z => (r_r z).cell 5
    have c_r_6 : ∀ z : Wb U7, z.at.cell? ⟨rA, 6, none⟩ = some (.int .i64 n) := fun z => (r_r z).cell 6
    have c_n_0 : ∀ z : Wb U7, z.at.cell? ⟨z6.at.heap.size, 0, none⟩ = some (.pointer p2) := fun z => (r_n z).cell 0
    have c_n_1 : ∀ z : Wb U7, z.at.cell? ⟨z6.at.heap.size, 1, none⟩ = some (.int .i64 n2) := fun z => (r_n z).cell 1
    obtain ⟨nA, hnA⟩ : ∃ b, b = z6.at.heap.size := ⟨_, rfl⟩
    rw [← hnA] at r_n c_n_0 c_n_1
    simp only [← hnA]
    clear hnA MC
    by_cases cc : C = 0
    · subst cc
      by_cases cq : ca = q
      · have kb : (ca == q) = true := by simpa using cq
        clear cq BS
        have d_a_0 : ∀ y : Wb z7.at, y.at.cell? ⟨w.heap.size, 0, none⟩ = some (.int .u64 tb) := fun y => ((r_a z7).below y.bel).cell 0
        have d_a_1 : ∀ y : Wb z7.at, y.at.cell? ⟨w.heap.size, 1, none⟩ = some (.int .u64 va) := fun y => ((r_a z7).below y.bel).cell 1
        have d_a_2 : ∀ y : Wb z7.at, y.at.cell? ⟨w.heap.size, 2, none⟩ = some (.bool b) := fun y => ((r_a z7).below y.bel).cell 2
        have d_c_0 : ∀ y : Wb z7.at, y.at.cell? ⟨w.heap.size + 1, 0, none⟩ = some (.int .u64 ca) := fun y => ((r_c z7).below y.bel).cell 0
        have d_c_1 : ∀ y : Wb z7.at, y.at.cell? ⟨w.heap.size + 1, 1, none⟩ = some (.int .u64 cv) := fun y => ((r_c z7).below y.bel).cell 1
        have d_m_0 : ∀ y : Wb z7.at, y.at.cell? ⟨mA, 0, none⟩ = some (.pointer p) := fun y => ((r_m z7).below y.bel).cell 0
        have d_m_1 : ∀ y : Wb z7.at, y.at.cell? ⟨mA, 1, none⟩ = some (.int .i64 m) := fun y => ((r_m z7).below y.bel).cell 1
        have d_r_0 : ∀ y : Wb z7.at, y.at.cell? ⟨rA, 0, none⟩ = some (.int .i64 k) := fun y => ((r_r z7).below y.bel).cell 0
        have d_r_1 : ∀ y : Wb z7.at, y.at.cell? ⟨rA, 1, none⟩ = some (.int .i64 l) := fun y => ((r_r z7).below y.bel).cell 1
        have d_r_2 : ∀ y : Wb z7.at, y.at.cell? ⟨rA, 2, none⟩ = some (.bool cb) := fun y => ((r_r z7).below y.bel).cell 2
        have d_r_3 : ∀ y : Wb z7.at, y.at.cell? ⟨rA, 3, none⟩ = some (.int .u64 ad) := fun y => ((r_r z7).below y.bel).cell 3
        have d_r_4 : ∀ y : Wb z7.at, y.at.cell? ⟨rA, 4, none⟩ = some (.int .u64 F) := fun y => ((r_r z7).below y.bel).cell 4
        have d_r_5 : ∀ y : Wb z7.at, y.at.cell? ⟨rA, 5, none⟩ = some (.int .u64 S) := fun y => ((r_r z7).below y.bel).cell 5
        have d_r_6 : ∀ y : Wb z7.at, y.at.cell? ⟨rA, 6, none⟩ = some (.int .i64 n) := fun y => ((r_r z7).below y.bel).cell 6
        have d_n_0 : ∀ y : Wb z7.at, y.at.cell? ⟨nA, 0, none⟩ = some (.pointer p2) := fun y => ((r_n z7).below y.bel).cell 0
        have d_n_1 : ∀ y : Wb z7.at, y.at.cell? ⟨nA, 1, none⟩ = some (.int .i64 n2) := fun y => ((r_n z7).below y.bel).cell 1
        clear c_a_0 c_a_1 c_a_2 c_c_0 c_c_1 c_m_0 c_m_1 c_r_0 c_r_1 c_r_2 c_r_3 c_r_4 c_r_5 c_r_6 c_n_0 c_n_1
        refine wp_region_wb (by kernel_rfl) (by kernel_rfl) ?_
        repeat (go_big_quiet_step ((go_at_call 31; exact Calls.wb (SL.out _))))
        refine wpQuiet_nil ?_
        rintro _ ⟨y, rfl⟩
        go_wp2
        go_ret
        exact ⟨by first | rfl | simp, (KK.out z7).trans (y.bel.mono (KK.out z7).size)⟩
      · have kb : (ca == q) = false := by simpa using cq
        have d_a_0 : ∀ y : Wb z7.at, y.at.cell? ⟨w.heap.size, 0, none⟩ = some (.int .u64 tb) := fun y => ((r_a z7).below y.bel).cell 0
        have d_a_1 : ∀ y : Wb z7.at, y.at.cell? ⟨w.heap.size, 1, none⟩ = some (.int .u64 va) := fun y => ((r_a z7).below y.bel).cell 1
        have d_a_2 : ∀ y : Wb z7.at, y.at.cell? ⟨w.heap.size, 2, none⟩ = some (.bool b) := fun y => ((r_a z7).below y.bel).cell 2
        have d_c_0 : ∀ y : Wb z7.at, y.at.cell? ⟨w.heap.size + 1, 0, none⟩ = some (.int .u64 ca) := fun y => ((r_c z7).below y.bel).cell 0
        have d_c_1 : ∀ y : Wb z7.at, y.at.cell? ⟨w.heap.size + 1, 1, none⟩ = some (.int .u64 cv) := fun y => ((r_c z7).below y.bel).cell 1
        have d_m_0 : ∀ y : Wb z7.at, y.at.cell? ⟨mA, 0, none⟩ = some (.pointer p) := fun y => ((r_m z7).below y.bel).cell 0
        have d_m_1 : ∀ y : Wb z7.at, y.at.cell? ⟨mA, 1, none⟩ = some (.int .i64 m) := fun y => ((r_m z7).below y.bel).cell 1
        have d_r_0 : ∀ y : Wb z7.at, y.at.cell? ⟨rA, 0, none⟩ = some (.int .i64 k) := fun y => ((r_r z7).below y.bel).cell 0
        have d_r_1 : ∀ y : Wb z7.at, y.at.cell? ⟨rA, 1, none⟩ = some (.int .i64 l) := fun y => ((r_r z7).below y.bel).cell 1
        have d_r_2 : ∀ y : Wb z7.at, y.at.cell? ⟨rA, 2, none⟩ = some (.bool cb) := fun y => ((r_r z7).below y.bel).cell 2
        have d_r_3 : ∀ y : Wb z7.at, y.at.cell? ⟨rA, 3, none⟩ = some (.int .u64 ad) := fun y => ((r_r z7).below y.bel).cell 3
        have d_r_4 : ∀ y : Wb z7.at, y.at.cell? ⟨rA, 4, none⟩ = some (.int .u64 F) := fun y => ((r_r z7).below y.bel).cell 4
        have d_r_5 : ∀ y : Wb z7.at, y.at.cell? ⟨rA, 5, none⟩ = some (.int .u64 S) := fun y => ((r_r z7).below y.bel).cell 5
        have d_r_6 : ∀ y : Wb z7.at, y.at.cell? ⟨rA, 6, none⟩ = some (.int .i64 n) := fun y => ((r_r z7).below y.bel).cell 6
        have d_n_0 : ∀ y : Wb z7.at, y.at.cell? ⟨nA, 0, none⟩ = some (.pointer p2) := fun y => ((r_n z7).below y.bel).cell 0
        have d_n_1 : ∀ y : Wb z7.at, y.at.cell? ⟨nA, 1, none⟩ = some (.int .i64 n2) := fun y => ((r_n z7).below y.bel).cell 1
        clear c_a_0 c_a_1 c_a_2 c_c_0 c_c_1 c_m_0 c_m_1 c_r_0 c_r_1 c_r_2 c_r_3 c_r_4 c_r_5 c_r_6 c_n_0 c_n_1
        refine wp_region_wb (by kernel_rfl) (by kernel_rfl) ?_
        repeat (go_big_quiet_step ((go_at_call 31; exact Calls.wb (SL.out _))))
        refine wpQuiet_nil ?_
        rintro _ ⟨y, rfl⟩
        go_wp2_with fail
        refine (SE.out _).mono ?_
        rintro e w1 ⟨rfl, g⟩
        obtain ⟨z8, rfl⟩ := Wb.next (x := y) g
        cases T with
        | true =>
          by_cases ca2 : a2 = ca
          · have kc : (a2 == ca) = true := by simpa using ca2
            clear ca2 BS cq
            go_wp2
            go_ret
            exact ⟨by first | rfl | simp, (KK.out z7).trans (z8.bel.mono (KK.out z7).size)⟩
          · have E2 := Lib.hid (BS.out cq (fun _ => ca2))
            have kc : (a2 == ca) = false := by simpa using ca2
            clear ca2
            clear cq BS
            go_upto_region 13 with fail
            have WK := Lib.hid (fun z : Wb z8.at => walk_mem p2 n2 t2 (L ++ [(ca, cv)]) tb va b z.at (((M3.out z7).below z8.bel).below z.bel) (R2.out (by simp)) B2.out h0 h1)
            rw [E2.out, E1.out] at WK
            clear E1 E2 R2 B2
            have f_a_0 : ∀ x : Wb z8.at, x.at.cell? ⟨w.heap.size, 0, none⟩ = some (.int .u64 tb) := fun x => d_a_0 ⟨x.at, (z8.bel.trans (x.bel.mono z8.bel.size))⟩
            have f_a_1 : ∀ x : Wb z8.at, x.at.cell? ⟨w.heap.size, 1, none⟩ = some (.int .u64 va) := fun x => d_a_1 ⟨x.at, (z8.bel.trans (x.bel.mono z8.bel.size))⟩
            have f_a_2 : ∀ x : Wb z8.at, x.at.cell? ⟨w.heap.size, 2, none⟩ = some (.bool b) := fun x => d_a_2 ⟨x.at, (z8.bel.trans (x.bel.mono z8.bel.size))⟩
            have f_c_0 : ∀ x : Wb z8.at, x.at.cell? ⟨w.heap.size + 1, 0, none⟩ = some (.int .u64 ca) := fun x => d_c_0 ⟨x.at, (z8.bel.trans (x.bel.mono z8.bel.size))⟩
            have f_c_1 : ∀ x : Wb z8.at, x.at.cell? ⟨w.heap.size + 1, 1, none⟩ = some (.int .u64 cv) := fun x => d_c_1 ⟨x.at, (z8.bel.trans (x.bel.mono z8.bel.size))⟩
            have f_m_0 : ∀ x : Wb z8.at, x.at.cell? ⟨mA, 0, none⟩ = some (.pointer p) := fun x => d_m_0 ⟨x.at, (z8.bel.trans (x.bel.mono z8.bel.size))⟩
            have f_m_1 : ∀ x : Wb z8.at, x.at.cell? ⟨mA, 1, none⟩ = some (.int .i64 m) := fun x => d_m_1 ⟨x.at, (z8.bel.trans (x.bel.mono z8.bel.size))⟩
            have f_r_0 : ∀ x : Wb z8.at, x.at.cell? ⟨rA, 0, none⟩ = some (.int .i64 k) := fun x => d_r_0 ⟨x.at, (z8.bel.trans (x.bel.mono z8.bel.size))⟩
            have f_r_1 : ∀ x : Wb z8.at, x.at.cell? ⟨rA, 1, none⟩ = some (.int .i64 l) := fun x => d_r_1 ⟨x.at, (z8.bel.trans (x.bel.mono z8.bel.size))⟩
            have f_r_2 : ∀ x : Wb z8.at, x.at.cell? ⟨rA, 2, none⟩ = some (.bool cb) := fun x => d_r_2 ⟨x.at, (z8.bel.trans (x.bel.mono z8.bel.size))⟩
            have f_r_3 : ∀ x : Wb z8.at, x.at.cell? ⟨rA, 3, none⟩ = some (.int .u64 ad) := fun x => d_r_3 ⟨x.at, (z8.bel.trans (x.bel.mono z8.bel.size))⟩
            have f_r_4 : ∀ x : Wb z8.at, x.at.cell? ⟨rA, 4, none⟩ = some (.int .u64 F) := fun x => d_r_4 ⟨x.at, (z8.bel.trans (x.bel.mono z8.bel.size))⟩
            have f_r_5 : ∀ x : Wb z8.at, x.at.cell? ⟨rA, 5, none⟩ = some (.int .u64 S) := fun x => d_r_5 ⟨x.at, (z8.bel.trans (x.bel.mono z8.bel.size))⟩
            have f_r_6 : ∀ x : Wb z8.at, x.at.cell? ⟨rA, 6, none⟩ = some (.int .i64 n) := fun x => d_r_6 ⟨x.at, (z8.bel.trans (x.bel.mono z8.bel.size))⟩
            have f_n_0 : ∀ x : Wb z8.at, x.at.cell? ⟨nA, 0, none⟩ = some (.pointer p2) := fun x => d_n_0 ⟨x.at, (z8.bel.trans (x.bel.mono z8.bel.size))⟩
            have f_n_1 : ∀ x : Wb z8.at, x.at.cell? ⟨nA, 1, none⟩ = some (.int .i64 n2) := fun x => d_n_1 ⟨x.at, (z8.bel.trans (x.bel.mono z8.bel.size))⟩
            clear d_a_0 d_a_1 d_a_2 d_c_0 d_c_1 d_m_0 d_m_1 d_r_0 d_r_1 d_r_2 d_r_3 d_r_4 d_r_5 d_r_6 d_n_0 d_n_1
            refine wp_region_wb (by kernel_rfl) (by kernel_rfl) ?_
            repeat (go_big_quiet_step ((go_at_call 18; exact Calls.wb (WK.out _))))
            refine wpQuiet_nil ?_
            rintro _ ⟨x, rfl⟩
            go_wp2
            go_ret
            exact ⟨by first | rfl | simp, (KK.out z7).trans ((z8.bel.trans (x.bel.mono z8.bel.size)).mono (KK.out z7).size)⟩
        | false =>
          have E2 := Lib.hid (BS.out cq (fun h => by cases h))
          clear cq BS
          go_upto_region 13 with fail
          have WK := Lib.hid (fun z : Wb z8.at => walk_mem p2 n2 t2 (L ++ [(ca, cv)]) tb va b z.at (((M3.out z7).below z8.bel).below z.bel) (R2.out (by simp)) B2.out h0 h1)
          rw [E2.out, E1.out] at WK
          clear E1 E2 R2 B2
          have f_a_0 : ∀ x : Wb z8.at, x.at.cell? ⟨w.heap.size, 0, none⟩ = some (.int .u64 tb) := fun x => d_a_0 ⟨x.at, (z8.bel.trans (x.bel.mono z8.bel.size))⟩
          have f_a_1 : ∀ x : Wb z8.at, x.at.cell? ⟨w.heap.size, 1, none⟩ = some (.int .u64 va) := fun x => d_a_1 ⟨x.at, (z8.bel.trans (x.bel.mono z8.bel.size))⟩
          have f_a_2 : ∀ x : Wb z8.at, x.at.cell? ⟨w.heap.size, 2, none⟩ = some (.bool b) := fun x => d_a_2 ⟨x.at, (z8.bel.trans (x.bel.mono z8.bel.size))⟩
          have f_c_0 : ∀ x : Wb z8.at, x.at.cell? ⟨w.heap.size + 1, 0, none⟩ = some (.int .u64 ca) := fun x => d_c_0 ⟨x.at, (z8.bel.trans (x.bel.mono z8.bel.size))⟩
          have f_c_1 : ∀ x : Wb z8.at, x.at.cell? ⟨w.heap.size + 1, 1, none⟩ = some (.int .u64 cv) := fun x => d_c_1 ⟨x.at, (z8.bel.trans (x.bel.mono z8.bel.size))⟩
          have f_m_0 : ∀ x : Wb z8.at, x.at.cell? ⟨mA, 0, none⟩ = some (.pointer p) := fun x => d_m_0 ⟨x.at, (z8.bel.trans (x.bel.mono z8.bel.size))⟩
          have f_m_1 : ∀ x : Wb z8.at, x.at.cell? ⟨mA, 1, none⟩ = some (.int .i64 m) := fun x => d_m_1 ⟨x.at, (z8.bel.trans (x.bel.mono z8.bel.size))⟩
          have f_r_0 : ∀ x : Wb z8.at, x.at.cell? ⟨rA, 0, none⟩ = some (.int .i64 k) := fun x => d_r_0 ⟨x.at, (z8.bel.trans (x.bel.mono z8.bel.size))⟩
          have f_r_1 : ∀ x : Wb z8.at, x.at.cell? ⟨rA, 1, none⟩ = some (.int .i64 l) := fun x => d_r_1 ⟨x.at, (z8.bel.trans (x.bel.mono z8.bel.size))⟩
          have f_r_2 : ∀ x : Wb z8.at, x.at.cell? ⟨rA, 2, none⟩ = some (.bool cb) := fun x => d_r_2 ⟨x.at, (z8.bel.trans (x.bel.mono z8.bel.size))⟩
          have f_r_3 : ∀ x : Wb z8.at, x.at.cell? ⟨rA, 3, none⟩ = some (.int .u64 ad) := fun x => d_r_3 ⟨x.at, (z8.bel.trans (x.bel.mono z8.bel.size))⟩
          have f_r_4 : ∀ x : Wb z8.at, x.at.cell? ⟨rA, 4, none⟩ = some (.int .u64 F) := fun x => d_r_4 ⟨x.at, (z8.bel.trans (x.bel.mono z8.bel.size))⟩
          have f_r_5 : ∀ x : Wb z8.at, x.at.cell? ⟨rA, 5, none⟩ = some (.int .u64 S) := fun x => d_r_5 ⟨x.at, (z8.bel.trans (x.bel.mono z8.bel.size))⟩
          have f_r_6 : ∀ x : Wb z8.at, x.at.cell? ⟨rA, 6, none⟩ = some (.int .i64 n) := fun x => d_r_6 ⟨x.at, (z8.bel.trans (x.bel.mono z8.bel.size))⟩
          have f_n_0 : ∀ x : Wb z8.at, x.at.cell? ⟨nA, 0, none⟩ = some (.pointer p2) := fun x => d_n_0 ⟨x.at, (z8.bel.trans (x.bel.mono z8.bel.size))⟩
          have f_n_1 : ∀ x : Wb z8.at, x.at.cell? ⟨nA, 1, none⟩ = some (.int .i64 n2) := fun x => d_n_1 ⟨x.at, (z8.bel.trans (x.bel.mono z8.bel.size))⟩
          clear d_a_0 d_a_1 d_a_2 d_c_0 d_c_1 d_m_0 d_m_1 d_r_0 d_r_1 d_r_2 d_r_3 d_r_4 d_r_5 d_r_6 d_n_0 d_n_1
          refine wp_region_wb (by kernel_rfl) (by kernel_rfl) ?_
          repeat (go_big_quiet_step ((go_at_call 18; exact Calls.wb (WK.out _))))
          refine wpQuiet_nil ?_
          rintro _ ⟨x, rfl⟩
          go_wp2
          go_ret
          exact ⟨by first | rfl | simp, (KK.out z7).trans ((z8.bel.trans (x.bel.mono z8.bel.size)).mono (KK.out z7).size)⟩
    · have kb : (C != 0) = true := by simpa using cc
      clear cc R2
      have d_a_0 : ∀ y : Wb z7.at, y.at.cell? ⟨w.heap.size, 0, none⟩ = some (.int .u64 tb) := fun y => ((r_a z7).below y.bel).cell 0
      have d_a_1 : ∀ y : Wb z7.at, y.at.cell? ⟨w.heap.size, 1, none⟩ = some (.int .u64 va) := fun y => ((r_a z7).below y.bel).cell 1
      have d_a_2 : ∀ y : Wb z7.at, y.at.cell? ⟨w.heap.size, 2, none⟩ = some (.bool b) := fun y => ((r_a z7).below y.bel).cell 2
      have d_c_0 : ∀ y : Wb z7.at, y.at.cell? ⟨w.heap.size + 1, 0, none⟩ = some (.int .u64 ca) := fun y => ((r_c z7).below y.bel).cell 0
      have d_c_1 : ∀ y : Wb z7.at, y.at.cell? ⟨w.heap.size + 1, 1, none⟩ = some (.int .u64 cv) := fun y => ((r_c z7).below y.bel).cell 1
      have d_m_0 : ∀ y : Wb z7.at, y.at.cell? ⟨mA, 0, none⟩ = some (.pointer p) := fun y => ((r_m z7).below y.bel).cell 0
      have d_m_1 : ∀ y : Wb z7.at, y.at.cell? ⟨mA, 1, none⟩ = some (.int .i64 m) := fun y => ((r_m z7).below y.bel).cell 1
      have d_r_0 : ∀ y : Wb z7.at, y.at.cell? ⟨rA, 0, none⟩ = some (.int .i64 k) := fun y => ((r_r z7).below y.bel).cell 0
      have d_r_1 : ∀ y : Wb z7.at, y.at.cell? ⟨rA, 1, none⟩ = some (.int .i64 l) := fun y => ((r_r z7).below y.bel).cell 1
      have d_r_2 : ∀ y : Wb z7.at, y.at.cell? ⟨rA, 2, none⟩ = some (.bool cb) := fun y => ((r_r z7).below y.bel).cell 2
      have d_r_3 : ∀ y : Wb z7.at, y.at.cell? ⟨rA, 3, none⟩ = some (.int .u64 ad) := fun y => ((r_r z7).below y.bel).cell 3
      have d_r_4 : ∀ y : Wb z7.at, y.at.cell? ⟨rA, 4, none⟩ = some (.int .u64 F) := fun y => ((r_r z7).below y.bel).cell 4
      have d_r_5 : ∀ y : Wb z7.at, y.at.cell? ⟨rA, 5, none⟩ = some (.int .u64 S) := fun y => ((r_r z7).below y.bel).cell 5
      have d_r_6 : ∀ y : Wb z7.at, y.at.cell? ⟨rA, 6, none⟩ = some (.int .i64 n) := fun y => ((r_r z7).below y.bel).cell 6
      have d_n_0 : ∀ y : Wb z7.at, y.at.cell? ⟨nA, 0, none⟩ = some (.pointer p2) := fun y => ((r_n z7).below y.bel).cell 0
      have d_n_1 : ∀ y : Wb z7.at, y.at.cell? ⟨nA, 1, none⟩ = some (.int .i64 n2) := fun y => ((r_n z7).below y.bel).cell 1
      clear c_a_0 c_a_1 c_a_2 c_c_0 c_c_1 c_m_0 c_m_1 c_r_0 c_r_1 c_r_2 c_r_3 c_r_4 c_r_5 c_r_6 c_n_0 c_n_1
      refine wp_region_wb (by kernel_rfl) (by kernel_rfl) ?_
      repeat (go_big_quiet_step ((go_at_call 31; exact Calls.wb (SL.out _))))
      refine wpQuiet_nil ?_
      rintro _ ⟨y, rfl⟩
      go_wp2
      go_ret
      exact ⟨by first | rfl | simp, (KK.out z7).trans (y.bel.mono (KK.out z7).size)⟩

theorem WalkBeside_rows (v : Value) (n : Nat) (R : Nat → List Value) (tb va ca cv : Int) (b : Bool) (w : World) (s : SlAt w v 2 n ((List.range n).flatMap R)) (g : ∀ i, i < n → ∃ p : Int × Int, R i = [.int .u64 p.1, .int .u64 p.2] ∧ (0 ≤ p.1 ∧ p.1 < 18446744073709551616) ∧ 0 ≤ p.2 ∧ p.2 < 18446744073709551616) (t0 : 0 ≤ tb) (t1 : tb < 18446744073709551616) (h0 : 0 ≤ va) (h1 : va < 18446744073709551616) (c0 : 0 ≤ ca) (c1 : ca < 18446744073709551616) (v0 : 0 ≤ cv) (v1 : cv < 18446744073709551616) :
    Calls Try.prog 7 #[v, .agg #[.int .u64 tb, .int .u64 va, .bool b], .agg #[.int .u64 ca, .int .u64 cv]] w fun e w' => e = .returned (.bool true) ∧ Below w.heap.size w w' := by
  obtain ⟨L, hL, hB⟩ := slp_of_rows s g
  exact WalkBeside_walk v L tb va ca cv b w hL hB t0 t1 h0 h1 c0 c1 v0 v1
end Go.Proofs.Ytjmkkidlaebpmaa

namespace Go.Proofs.Ytjmkkidlaebpmaa
open Go.RowKit GrS

set_option maxRecDepth 100000 in
set_option maxHeartbeats 6400000 in
theorem rwalk_no (v : Value) (tb va : Int) (b : Bool) (w : World) (K : Int) (kb : (K != 0) = true) (kb2 : (K == 0) = false)
    (BE : RowKit.Hid (∀ w, Calls Try.prog 25 #[.int .u64 va, .bool b] w fun e w' => e = .returned (GrW.fv K 0 b) ∧ Below w.heap.size w w')) :
    Calls Try.prog 19 #[v, .int .u64 tb, .int .u64 va, .bool b] w fun e w' => e = .returned (.agg #[.int .i64 K, .int .i64 0, .bool b, .int .u64 0, .int .u64 0, .int .u64 0, .int .i64 0]) ∧ Below w.heap.size w w' := by
  have r_R : ∀ z : Wb (w.alloc (.cells #[.int .i64 0, .int .i64 0, .bool false, .int .u64 0, .int .u64 0, .int .u64 0, .int .i64 0] 40)), Row z.at (w.heap.size) [.int .i64 0, .int .i64 0, .bool false, .int .u64 0, .int .u64 0, .int .u64 0, .int .i64 0] 40 := Row.at (Row.new w _ _)
  have KK := KB.at (V := w.alloc (.cells #[.int .i64 0, .int .i64 0, .bool false, .int .u64 0, .int .u64 0, .int .u64 0, .int .i64 0] 40)) (KB.alloc (Below.refl _ _) _)
  have c_R_0 : ∀ z : Wb (w.alloc (.cells #[.int .i64 0, .int .i64 0, .bool false, .int .u64 0, .int .u64 0, .int .u64 0, .int .i64 0] 40)), z.at.cell? ⟨w.heap.size, 0, none⟩ = some (.int .i64 0) := fun z => (r_R z).cell 0
  have c_R_1 : ∀ z : Wb (w.alloc (.cells #[.int .i64 0, .int .i64 0, .bool false, .int .u64 0, .int .u64 0, .int .u64 0, .int .i64 0] 40)), z.at.cell? ⟨w.heap.size, 1, none⟩ = some (.int .i64 0) := fun z => (r_R z).cell 1
  have c_R_2 : ∀ z : Wb (w.alloc (.cells #[.int .i64 0, .int .i64 0, .bool false, .int .u64 0, .int .u64 0, .int .u64 0, .int .i64 0] 40)), z.at.cell? ⟨w.heap.size, 2, none⟩ = some (.bool false) := fun z => (r_R z).cell 2
  have c_R_3 : ∀ z : Wb (w.alloc (.cells #[.int .i64 0, .int .i64 0, .bool false, .int .u64 0, .int .u64 0, .int .u64 0, .int .i64 0] 40)), z.at.cell? ⟨w.heap.size, 3, none⟩ = some (.int .u64 0) := fun z => (r_R z).cell 3
  have c_R_4 : ∀ z : Wb (w.alloc (.cells #[.int .i64 0, .int .i64 0, .bool false, .int .u64 0, .int .u64 0, .int .u64 0, .int .i64 0] 40)), z.at.cell? ⟨w.heap.size, 4, none⟩ = some (.int .u64 0) := fun z => (r_R z).cell 4
  have c_R_5 : ∀ z : Wb (w.alloc (.cells #[.int .i64 0, .int .i64 0, .bool false, .int .u64 0, .int .u64 0, .int .u64 0, .int .i64 0] 40)), z.at.cell? ⟨w.heap.size, 5, none⟩ = some (.int .u64 0) := fun z => (r_R z).cell 5
  have c_R_6 : ∀ z : Wb (w.alloc (.cells #[.int .i64 0, .int .i64 0, .bool false, .int .u64 0, .int .u64 0, .int .u64 0, .int .i64 0] 40)), z.at.cell? ⟨w.heap.size, 6, none⟩ = some (.int .i64 0) := fun z => (r_R z).cell 6
  have f_R : ∀ (z : Wb (w.alloc (.cells #[.int .i64 0, .int .i64 0, .bool false, .int .u64 0, .int .u64 0, .int .u64 0, .int .i64 0] 40))) (i : Nat), z.at.frozen? ⟨w.heap.size, i, none⟩ = false := fun z i => (r_R z).free i
  go_enter Try.func19, Try.ntmps19
  go_wp2_with fail
  refine (BE.out _).mono ?_
  rintro e w1 ⟨rfl, g⟩
  obtain ⟨x0, rfl⟩ := Wb.start g
  clear g
  unfold GrW.fv
  go_upto_region 2 with fail
  have ne : w.heap.size ≠ x0.at.heap.size := by have := (r_R x0).lt; omega
  have hp : w.heap.size ≤ x0.at.heap.size := by have := (r_R x0).lt; omega
  clear c_R_0 c_R_1 c_R_2 c_R_3 c_R_4 c_R_5 c_R_6 f_R
  refine to_cls ?_
  intro U0 hU0 z0
  have r_R : ∀ z : Wb U0, Row z.at (w.heap.size) [.int .i64 0, .int .i64 0, .bool false, .int .u64 0, .int .u64 0, .int .u64 0, .int .i64 0] 40 := Row.next ((r_R x0).old _) hU0
  have r_r : ∀ z : Wb U0, Row z.at (x0.at.heap.size) [.int .i64 K, .int .i64 0, .bool b, .int .u64 0, .int .u64 0, .int .u64 0, .int .i64 0] 40 := Row.next (Row.new _ _ _) hU0
  have KK := KB.next (KB.alloc (KK x0) _) hU0
  have c_R_0 : ∀ z : Wb U0, z.at.cell? ⟨w.heap.size, 0, none⟩ = some (.int .i64 0) := fun z => (r_R z).cell 0
  have c_R_1 : ∀ z : Wb U0, z.at.cell? ⟨w.heap.size, 1, none⟩ = some (.int .i64 0) := fun z => (r_R z).cell 1
  have c_R_2 : ∀ z : Wb U0, z.at.cell? ⟨w.heap.size, 2, none⟩ = some (.bool false) := fun z => (r_R z).cell 2
  have c_R_3 : ∀ z : Wb U0, z.at.cell? ⟨w.heap.size, 3, none⟩ = some (.int .u64 0) := fun z => (r_R z).cell 3
  have c_R_4 : ∀ z : Wb U0, z.at.cell? ⟨w.heap.size, 4, none⟩ = some (.int .u64 0) := fun z => (r_R z).cell 4
  have c_R_5 : ∀ z : Wb U0, z.at.cell? ⟨w.heap.size, 5, none⟩ = some (.int .u64 0) := fun z => (r_R z).cell 5
  have c_R_6 : ∀ z : Wb U0, z.at.cell? ⟨w.heap.size, 6, none⟩ = some (.int .i64 0) := fun z => (r_R z).cell 6
  have f_R : ∀ (z : Wb U0) (i : Nat), z.at.frozen? ⟨w.heap.size, i, none⟩ = false := fun z i => (r_R z).free i
  have c_r_0 : ∀ z : Wb U0, z.at.cell? ⟨x0.at.heap.size, 0, none⟩ = some (.int .i64 K) := fun z => (r_r z).cell 0
  have c_r_1 : ∀ z : Wb U0, z.at.cell? ⟨x0.at.heap.size, 1, none⟩ = some (.int .i64 0) := fun z => (r_r z).cell 1
  have c_r_2 : ∀ z : Wb U0, z.at.cell? ⟨x0.at.heap.size, 2, none⟩ = some (.bool b) := fun z => (r_r z).cell 2
  have c_r_3 : ∀ z : Wb U0, z.at.cell? ⟨x0.at.heap.size, 3, none⟩ = some (.int .u64 0) := fun z => (r_r z).cell 3
  have c_r_4 : ∀ z : Wb U0, z.at.cell? ⟨x0.at.heap.size, 4, none⟩ = some (.int .u64 0) := fun z => (r_r z).cell 4
  have c_r_5 : ∀ z : Wb U0, z.at.cell? ⟨x0.at.heap.size, 5, none⟩ = some (.int .u64 0) := fun z => (r_r z).cell 5
  have c_r_6 : ∀ z : Wb U0, z.at.cell? ⟨x0.at.heap.size, 6, none⟩ = some (.int .i64 0) := fun z => (r_r z).cell 6
  have f_r : ∀ (z : Wb U0) (i : Nat), z.at.frozen? ⟨x0.at.heap.size, i, none⟩ = false := fun z i => (r_r z).free i
  go_wp2
  refine bodyPost_ret (v := .agg #[.int .i64 K, .int .i64 0, .bool b, .int .u64 0, .int .u64 0, .int .u64 0, .int .i64 0]) (by simp [results, Try.results19, go_sem, *]) rfl ⟨rfl, ?_⟩
  repeat' (first | (with_reducible exact KK z0) | (with_reducible refine Below.setCell ?_ ?_ _) | (simp; done) | (simp; omega))

set_option maxRecDepth 100000 in
set_option maxHeartbeats 6400000 in
theorem rwalk_two (v : Value) (tb va : Int) (b : Bool) (w : World) (a1 a2 F S k l ad : Int) (c : Bool)
    (BE : RowKit.Hid (∀ w, Calls Try.prog 25 #[.int .u64 va, .bool b] w fun e w' => e = .returned (GrW.fv 0 0 false) ∧ Below w.heap.size w w'))
    (SL : RowKit.Hid (∀ w, Calls Try.prog 31 #[.int .u64 tb, .int .u64 va, .int .i64 1] w fun e w' => e = .returned (.int .u64 a1) ∧ Below w.heap.size w w'))
    (SE : RowKit.Hid (∀ w, Calls Try.prog 27 #[.int .u64 F, .int .u64 va] w fun e w' => e = .returned (.tuple #[.int .u64 a2, .bool true]) ∧ Below w.heap.size w w'))
    (TH : RowKit.Hid (∀ w, Calls Try.prog 21 #[.int .u64 F, .int .u64 S, .int .u64 va, .bool b] w fun e w' => e = .returned (.tuple #[.agg #[.int .i64 k, .int .i64 l, .bool c], .int .u64 ad]) ∧ Below w.heap.size w w'))
    (RA : RowKit.Hid (∀ w1, Below w.heap.size w w1 → Calls Try.prog 55 #[v, .int .u64 a1] w1 fun e w' => e = .returned (.int .u64 F) ∧ Below w1.heap.size w1 w')) (RB : RowKit.Hid (∀ w1, Below w.heap.size w w1 → Calls Try.prog 55 #[v, .int .u64 a2] w1 fun e w' => e = .returned (.int .u64 S) ∧ Below w1.heap.size w1 w')) :
    Calls Try.prog 19 #[v, .int .u64 tb, .int .u64 va, .bool b] w fun e w' => e = .returned (.agg #[.int .i64 k, .int .i64 l, .bool c, .int .u64 ad, .int .u64 F, .int .u64 S, .int .i64 2]) ∧ Below w.heap.size w w' := by
  have r_R : ∀ z : Wb (w.alloc (.cells #[.int .i64 0, .int .i64 0, .bool false, .int .u64 0, .int .u64 0, .int .u64 0, .int .i64 0] 40)), Row z.at (w.heap.size) [.int .i64 0, .int .i64 0, .bool false, .int .u64 0, .int .u64 0, .int .u64 0, .int .i64 0] 40 := Row.at (Row.new w _ _)
  have KK := KB.at (V := w.alloc (.cells #[.int .i64 0, .int .i64 0, .bool false, .int .u64 0, .int .u64 0, .int .u64 0, .int .i64 0] 40)) (KB.alloc (Below.refl _ _) _)
  have c_R_0 : ∀ z : Wb (w.alloc (.cells #[.int .i64 0, .int .i64 0, .bool false, .int .u64 0, .int .u64 0, .int .u64 0, .int .i64 0] 40)), z.at.cell? ⟨w.heap.size, 0, none⟩ = some (.int .i64 0) := fun z => (r_R z).cell 0
  have c_R_1 : ∀ z : Wb (w.alloc (.cells #[.int .i64 0, .int .i64 0, .bool false, .int .u64 0, .int .u64 0, .int .u64 0, .int .i64 0] 40)), z.at.cell? ⟨w.heap.size, 1, none⟩ = some (.int .i64 0) := fun z => (r_R z).cell 1
  have c_R_2 : ∀ z : Wb (w.alloc (.cells #[.int .i64 0, .int .i64 0, .bool false, .int .u64 0, .int .u64 0, .int .u64 0, .int .i64 0] 40)), z.at.cell? ⟨w.heap.size, 2, none⟩ = some (.bool false) := fun z => (r_R z).cell 2
  have c_R_3 : ∀ z : Wb (w.alloc (.cells #[.int .i64 0, .int .i64 0, .bool false, .int .u64 0, .int .u64 0, .int .u64 0, .int .i64 0] 40)), z.at.cell? ⟨w.heap.size, 3, none⟩ = some (.int .u64 0) := fun z => (r_R z).cell 3
  have c_R_4 : ∀ z : Wb (w.alloc (.cells #[.int .i64 0, .int .i64 0, .bool false, .int .u64 0, .int .u64 0, .int .u64 0, .int .i64 0] 40)), z.at.cell? ⟨w.heap.size, 4, none⟩ = some (.int .u64 0) := fun z => (r_R z).cell 4
  have c_R_5 : ∀ z : Wb (w.alloc (.cells #[.int .i64 0, .int .i64 0, .bool false, .int .u64 0, .int .u64 0, .int .u64 0, .int .i64 0] 40)), z.at.cell? ⟨w.heap.size, 5, none⟩ = some (.int .u64 0) := fun z => (r_R z).cell 5
  have c_R_6 : ∀ z : Wb (w.alloc (.cells #[.int .i64 0, .int .i64 0, .bool false, .int .u64 0, .int .u64 0, .int .u64 0, .int .i64 0] 40)), z.at.cell? ⟨w.heap.size, 6, none⟩ = some (.int .i64 0) := fun z => (r_R z).cell 6
  have f_R : ∀ (z : Wb (w.alloc (.cells #[.int .i64 0, .int .i64 0, .bool false, .int .u64 0, .int .u64 0, .int .u64 0, .int .i64 0] 40))) (i : Nat), z.at.frozen? ⟨w.heap.size, i, none⟩ = false := fun z i => (r_R z).free i
  go_enter Try.func19, Try.ntmps19
  go_wp2_with fail
  refine (BE.out _).mono ?_
  rintro e w1 ⟨rfl, g⟩
  obtain ⟨x0, rfl⟩ := Wb.start g
  clear g
  unfold GrW.fv
  go_upto_region 2 with fail
  have ne : w.heap.size ≠ x0.at.heap.size := by have := (r_R x0).lt; omega
  have hp : w.heap.size ≤ x0.at.heap.size := by have := (r_R x0).lt; omega
  clear c_R_0 c_R_1 c_R_2 c_R_3 c_R_4 c_R_5 c_R_6 f_R
  refine to_cls ?_
  intro U0 hU0 z0
  have r_R : ∀ z : Wb U0, Row z.at (w.heap.size) [.int .i64 0, .int .i64 0, .bool false, .int .u64 0, .int .u64 0, .int .u64 0, .int .i64 0] 40 := Row.next ((r_R x0).old _) hU0
  have r_r : ∀ z : Wb U0, Row z.at (x0.at.heap.size) [.int .i64 0, .int .i64 0, .bool false, .int .u64 0, .int .u64 0, .int .u64 0, .int .i64 0] 40 := Row.next (Row.new _ _ _) hU0
  have KK := KB.next (KB.alloc (KK x0) _) hU0
  have c_R_0 : ∀ z : Wb U0, z.at.cell? ⟨w.heap.size, 0, none⟩ = some (.int .i64 0) := fun z => (r_R z).cell 0
  have c_R_1 : ∀ z : Wb U0, z.at.cell? ⟨w.heap.size, 1, none⟩ = some (.int .i64 0) := fun z => (r_R z).cell 1
  have c_R_2 : ∀ z : Wb U0, z.at.cell? ⟨w.heap.size, 2, none⟩ = some (.bool false) := fun z => (r_R z).cell 2
  have c_R_3 : ∀ z : Wb U0, z.at.cell? ⟨w.heap.size, 3, none⟩ = some (.int .u64 0) := fun z => (r_R z).cell 3
  have c_R_4 : ∀ z : Wb U0, z.at.cell? ⟨w.heap.size, 4, none⟩ = some (.int .u64 0) := fun z => (r_R z).cell 4
  have c_R_5 : ∀ z : Wb U0, z.at.cell? ⟨w.heap.size, 5, none⟩ = some (.int .u64 0) := fun z => (r_R z).cell 5
  have c_R_6 : ∀ z : Wb U0, z.at.cell? ⟨w.heap.size, 6, none⟩ = some (.int .i64 0) := fun z => (r_R z).cell 6
  have f_R : ∀ (z : Wb U0) (i : Nat), z.at.frozen? ⟨w.heap.size, i, none⟩ = false := fun z i => (r_R z).free i
  have c_r_0 : ∀ z : Wb U0, z.at.cell? ⟨x0.at.heap.size, 0, none⟩ = some (.int .i64 0) := fun z => (r_r z).cell 0
  have c_r_1 : ∀ z : Wb U0, z.at.cell? ⟨x0.at.heap.size, 1, none⟩ = some (.int .i64 0) := fun z => (r_r z).cell 1
  have c_r_2 : ∀ z : Wb U0, z.at.cell? ⟨x0.at.heap.size, 2, none⟩ = some (.bool false) := fun z => (r_r z).cell 2
  have c_r_3 : ∀ z : Wb U0, z.at.cell? ⟨x0.at.heap.size, 3, none⟩ = some (.int .u64 0) := fun z => (r_r z).cell 3
  have c_r_4 : ∀ z : Wb U0, z.at.cell? ⟨x0.at.heap.size, 4, none⟩ = some (.int .u64 0) := fun z => (r_r z).cell 4
  have c_r_5 : ∀ z : Wb U0, z.at.cell? ⟨x0.at.heap.size, 5, none⟩ = some (.int .u64 0) := fun z => (r_r z).cell 5
  have c_r_6 : ∀ z : Wb U0, z.at.cell? ⟨x0.at.heap.size, 6, none⟩ = some (.int .i64 0) := fun z => (r_r z).cell 6
  have f_r : ∀ (z : Wb U0) (i : Nat), z.at.frozen? ⟨x0.at.heap.size, i, none⟩ = false := fun z i => (r_r z).free i
  go_wp2_with fail
  refine (SL.out _).mono ?_
  rintro e w1 ⟨rfl, g⟩
  obtain ⟨x1, rfl⟩ := Wb.next (x := z0) g
  clear g
  go_wp2_with fail
  refine (RA.out _ (KK x1)).mono ?_
  rintro e w1 ⟨rfl, g⟩
  obtain ⟨x2, rfl⟩ := Wb.next (x := x1) g
  clear g
  go_upto_region 6 with fail
  clear c_R_0 c_R_1 c_R_2 c_R_3 c_R_4 c_R_5 c_R_6 f_R c_r_0 c_r_1 c_r_2 c_r_3 c_r_4 c_r_5 c_r_6 f_r
  refine to_cls ?_
  intro U3 hU3 z3
  have r_R : ∀ z : Wb U3, Row z.at (w.heap.size) [.int .i64 0, .int .i64 0, .bool false, .int .u64 0, .int .u64 0, .int .u64 0, .int .i64 0] 40 := Row.next (Row.oth (Row.oth (r_R x2) ne 4 _) ne 6 _) hU3
  have r_r : ∀ z : Wb U3, Row z.at (x0.at.heap.size) [.int .i64 0, .int .i64 0, .bool false, .int .u64 0, .int .u64 F, .int .u64 0, .int .i64 1] 40 := Row.next (Row.set (Row.set (r_r x2) 4 _) 6 _) hU3
  have KK := KB.next (KB.put (KB.put (KK x2) hp 4 _) hp 6 _) hU3
  have c_R_0 : ∀ z : Wb U3, z.at.cell? ⟨w.heap.size, 0, none⟩ = some (.int .i64 0) := fun z => (r_R z).cell 0
  have c_R_1 : ∀ z : Wb U3, z.at.cell? ⟨w.heap.size, 1, none⟩ = some (.int .i64 0) := fun z => (r_R z).cell 1
  have c_R_2 : ∀ z : Wb U3, z.at.cell? ⟨w.heap.size, 2, none⟩ = some (.bool false) := fun z => (r_R z).cell 2
  have c_R_3 : ∀ z : Wb U3, z.at.cell? ⟨w.heap.size, 3, none⟩ = some (.int .u64 0) := fun z => (r_R z).cell 3
  have c_R_4 : ∀ z : Wb U3, z.at.cell? ⟨w.heap.size, 4, none⟩ = some (.int .u64 0) := fun z => (r_R z).cell 4
  have c_R_5 : ∀ z : Wb U3, z.at.cell? ⟨w.heap.size, 5, none⟩ = some (.int .u64 0) := fun z => (r_R z).cell 5
  have c_R_6 : ∀ z : Wb U3, z.at.cell? ⟨w.heap.size, 6, none⟩ = some (.int .i64 0) := fun z => (r_R z).cell 6
  have f_R : ∀ (z : Wb U3) (i : Nat), z.at.frozen? ⟨w.heap.size, i, none⟩ = false := fun z i => (r_R z).free i
  have c_r_0 : ∀ z : Wb U3, z.at.cell? ⟨x0.at.heap.size, 0, none⟩ = some (.int .i64 0) := fun z => (r_r z).cell 0
  have c_r_1 : ∀ z : Wb U3, z.at.cell? ⟨x0.at.heap.size, 1, none⟩ = some (.int .i64 0) := fun z => (r_r z).cell 1
  have c_r_2 : ∀ z : Wb U3, z.at.cell? ⟨x0.at.heap.size, 2, none⟩ = some (.bool false) := fun z => (r_r z).cell 2
  have c_r_3 : ∀ z : Wb U3, z.at.cell? ⟨x0.at.heap.size, 3, none⟩ = some (.int .u64 0) := fun z => (r_r z).cell 3
  have c_r_4 : ∀ z : Wb U3, z.at.cell? ⟨x0.at.heap.size, 4, none⟩ = some (.int .u64 F) := fun z => (r_r z).cell 4
  have c_r_5 : ∀ z : Wb U3, z.at.cell? ⟨x0.at.heap.size, 5, none⟩ = some (.int .u64 0) := fun z => (r_r z).cell 5
  have c_r_6 : ∀ z : Wb U3, z.at.cell? ⟨x0.at.heap.size, 6, none⟩ = some (.int .i64 1) := fun z => (r_r z).cell 6
  have f_r : ∀ (z : Wb U3) (i : Nat), z.at.frozen? ⟨x0.at.heap.size, i, none⟩ = false := fun z i => (r_r z).free i
  go_wp2_with fail
  refine (SE.out _).mono ?_
  rintro e w1 ⟨rfl, g⟩
  obtain ⟨x4, rfl⟩ := Wb.next (x := z3) g
  clear g
  go_wp2_with fail
  refine (RB.out _ (KK x4)).mono ?_
  rintro e w1 ⟨rfl, g⟩
  obtain ⟨x5, rfl⟩ := Wb.next (x := x4) g
  clear g
  go_upto_region 10 with fail
  clear c_R_0 c_R_1 c_R_2 c_R_3 c_R_4 c_R_5 c_R_6 f_R c_r_0 c_r_1 c_r_2 c_r_3 c_r_4 c_r_5 c_r_6 f_r
  refine to_cls ?_
  intro U6 hU6 z6
  have r_R : ∀ z : Wb U6, Row z.at (w.heap.size) [.int .i64 0, .int .i64 0, .bool false, .int .u64 0, .int .u64 0, .int .u64 0, .int .i64 0] 40 := Row.next (Row.oth (Row.oth (r_R x5) ne 5 _) ne 6 _) hU6
  have r_r : ∀ z : Wb U6, Row z.at (x0.at.heap.size) [.int .i64 0, .int .i64 0, .bool false, .int .u64 0, .int .u64 F, .int .u64 S, .int .i64 2] 40 := Row.next (Row.set (Row.set (r_r x5) 5 _) 6 _) hU6
  have KK := KB.next (KB.put (KB.put (KK x5) hp 5 _) hp 6 _) hU6
  have c_R_0 : ∀ z : Wb U6, z.at.cell? ⟨w.heap.size, 0, none⟩ = some (.int .i64 0) := fun z => (r_R z).cell 0
  have c_R_1 : ∀ z : Wb U6, z.at.cell? ⟨w.heap.size, 1, none⟩ = some (.int .i64 0) := fun z => (r_R z).cell 1
  have c_R_2 : ∀ z : Wb U6, z.at.cell? ⟨w.heap.size, 2, none⟩ = some (.bool false) := fun z => (r_R z).cell 2
  have c_R_3 : ∀ z : Wb U6, z.at.cell? ⟨w.heap.size, 3, none⟩ = some (.int .u64 0) := fun z => (r_R z).cell 3
  have c_R_4 : ∀ z : Wb U6, z.at.cell? ⟨w.heap.size, 4, none⟩ = some (.int .u64 0) := fun z => (r_R z).cell 4
  have c_R_5 : ∀ z : Wb U6, z.at.cell? ⟨w.heap.size, 5, none⟩ = some (.int .u64 0) := fun z => (r_R z).cell 5
  have c_R_6 : ∀ z : Wb U6, z.at.cell? ⟨w.heap.size, 6, none⟩ = some (.int .i64 0) := fun z => (r_R z).cell 6
  have f_R : ∀ (z : Wb U6) (i : Nat), z.at.frozen? ⟨w.heap.size, i, none⟩ = false := fun z i => (r_R z).free i
  have c_r_0 : ∀ z : Wb U6, z.at.cell? ⟨x0.at.heap.size, 0, none⟩ = some (.int .i64 0) := fun z => (r_r z).cell 0
  have c_r_1 : ∀ z : Wb U6, z.at.cell? ⟨x0.at.heap.size, 1, none⟩ = some (.int .i64 0) := fun z => (r_r z).cell 1
  have c_r_2 : ∀ z : Wb U6, z.at.cell? ⟨x0.at.heap.size, 2, none⟩ = some (.bool false) := fun z => (r_r z).cell 2
  have c_r_3 : ∀ z : Wb U6, z.at.cell? ⟨x0.at.heap.size, 3, none⟩ = some (.int .u64 0) := fun z => (r_r z).cell 3
  have c_r_4 : ∀ z : Wb U6, z.at.cell? ⟨x0.at.heap.size, 4, none⟩ = some (.int .u64 F) := fun z => (r_r z).cell 4
  have c_r_5 : ∀ z : Wb U6, z.at.cell? ⟨x0.at.heap.size, 5, none⟩ = some (.int .u64 S) := fun z => (r_r z).cell 5
  have c_r_6 : ∀ z : Wb U6, z.at.cell? ⟨x0.at.heap.size, 6, none⟩ = some (.int .i64 2) := fun z => (r_r z).cell 6
  have f_r : ∀ (z : Wb U6) (i : Nat), z.at.frozen? ⟨x0.at.heap.size, i, none⟩ = false := fun z i => (r_r z).free i
  go_wp2_with fail
  refine (TH.out _).mono ?_
  rintro e w1 ⟨rfl, g⟩
  obtain ⟨x7, rfl⟩ := Wb.next (x := z6) g
  clear g
  go_upto_region 11 with fail
  clear c_R_0 c_R_1 c_R_2 c_R_3 c_R_4 c_R_5 c_R_6 f_R c_r_0 c_r_1 c_r_2 c_r_3 c_r_4 c_r_5 c_r_6 f_r
  refine to_cls ?_
  intro U8 hU8 z8
  have r_R : ∀ z : Wb U8, Row z.at (w.heap.size) [.int .i64 0, .int .i64 0, .bool false, .int .u64 0, .int .u64 0, .int .u64 0, .int .i64 0] 40 := Row.next (Row.oth (Row.oth (Row.oth (Row.oth (r_R x7) ne 0 _) ne 1 _) ne 2 _) ne 3 _) hU8
  have r_r : ∀ z : Wb U8, Row z.at (x0.at.heap.size) [.int .i64 k, .int .i64 l, .bool c, .int .u64 ad, .int .u64 F, .int .u64 S, .int .i64 2] 40 := Row.next (Row.set (Row.set (Row.set (Row.set (r_r x7) 0 _) 1 _) 2 _) 3 _) hU8
  have KK := KB.next (KB.put (KB.put (KB.put (KB.put (KK x7) hp 0 _) hp 1 _) hp 2 _) hp 3 _) hU8
  have c_R_0 : ∀ z : Wb U8, z.at.cell? ⟨w.heap.size, 0, none⟩ = some (.int .i64 0) := fun z => (r_R z).cell 0
  have c_R_1 : ∀ z : Wb U8, z.at.cell? ⟨w.heap.size, 1, none⟩ = some (.int .i64 0) := fun z => (r_R z).cell 1
  have c_R_2 : ∀ z : Wb U8, z.at.cell? ⟨w.heap.size, 2, none⟩ = some (.bool false) := fun z => (r_R z).cell 2
  have c_R_3 : ∀ z : Wb U8, z.at.cell? ⟨w.heap.size, 3, none⟩ = some (.int .u64 0) := fun z => (r_R z).cell 3
  have c_R_4 : ∀ z : Wb U8, z.at.cell? ⟨w.heap.size, 4, none⟩ = some (.int .u64 0) := fun z => (r_R z).cell 4
  have c_R_5 : ∀ z : Wb U8, z.at.cell? ⟨w.heap.size, 5, none⟩ = some (.int .u64 0) := fun z => (r_R z).cell 5
  have c_R_6 : ∀ z : Wb U8, z.at.cell? ⟨w.heap.size, 6, none⟩ = some (.int .i64 0) := fun z => (r_R z).cell 6
  have f_R : ∀ (z : Wb U8) (i : Nat), z.at.frozen? ⟨w.heap.size, i, none⟩ = false := fun z i => (r_R z).free i
  have c_r_0 : ∀ z : Wb U8, z.at.cell? ⟨x0.at.heap.size, 0, none⟩ = some (.int .i64 k) := fun z => (r_r z).cell 0
  have c_r_1 : ∀ z : Wb U8, z.at.cell? ⟨x0.at.heap.size, 1, none⟩ = some (.int .i64 l) := fun z => (r_r z).cell 1
  have c_r_2 : ∀ z : Wb U8, z.at.cell? ⟨x0.at.heap.size, 2, none⟩ = some (.bool c) := fun z => (r_r z).cell 2
  have c_r_3 : ∀ z : Wb U8, z.at.cell? ⟨x0.at.heap.size, 3, none⟩ = some (.int .u64 ad) := fun z => (r_r z).cell 3
  have c_r_4 : ∀ z : Wb U8, z.at.cell? ⟨x0.at.heap.size, 4, none⟩ = some (.int .u64 F) := fun z => (r_r z).cell 4
  have c_r_5 : ∀ z : Wb U8, z.at.cell? ⟨x0.at.heap.size, 5, none⟩ = some (.int .u64 S) := fun z => (r_r z).cell 5
  have c_r_6 : ∀ z : Wb U8, z.at.cell? ⟨x0.at.heap.size, 6, none⟩ = some (.int .i64 2) := fun z => (r_r z).cell 6
  have f_r : ∀ (z : Wb U8) (i : Nat), z.at.frozen? ⟨x0.at.heap.size, i, none⟩ = false := fun z i => (r_r z).free i
  go_wp2
  refine bodyPost_ret (v := .agg #[.int .i64 k, .int .i64 l, .bool c, .int .u64 ad, .int .u64 F, .int .u64 S, .int .i64 2]) (by simp [results, Try.results19, go_sem, *]) rfl ⟨rfl, ?_⟩
  repeat' (first | (with_reducible exact KK z8) | (with_reducible refine Below.setCell ?_ ?_ _) | (simp; done) | (simp; omega))

set_option maxRecDepth 100000 in
set_option maxHeartbeats 6400000 in
theorem rwalk_one (v : Value) (tb va : Int) (b : Bool) (w : World) (a1 a2 F S k l ad : Int) (c : Bool)
    (BE : RowKit.Hid (∀ w, Calls Try.prog 25 #[.int .u64 va, .bool b] w fun e w' => e = .returned (GrW.fv 0 0 false) ∧ Below w.heap.size w w'))
    (SL : RowKit.Hid (∀ w, Calls Try.prog 31 #[.int .u64 tb, .int .u64 va, .int .i64 1] w fun e w' => e = .returned (.int .u64 a1) ∧ Below w.heap.size w w'))
    (SE : RowKit.Hid (∀ w, Calls Try.prog 27 #[.int .u64 F, .int .u64 va] w fun e w' => e = .returned (.tuple #[.int .u64 a2, .bool false]) ∧ Below w.heap.size w w'))
    (TH : RowKit.Hid (∀ w, Calls Try.prog 21 #[.int .u64 F, .int .u64 0, .int .u64 va, .bool b] w fun e w' => e = .returned (.tuple #[.agg #[.int .i64 k, .int .i64 l, .bool c], .int .u64 ad]) ∧ Below w.heap.size w w'))
    (RA : RowKit.Hid (∀ w1, Below w.heap.size w w1 → Calls Try.prog 55 #[v, .int .u64 a1] w1 fun e w' => e = .returned (.int .u64 F) ∧ Below w1.heap.size w1 w')) :
    Calls Try.prog 19 #[v, .int .u64 tb, .int .u64 va, .bool b] w fun e w' => e = .returned (.agg #[.int .i64 k, .int .i64 l, .bool c, .int .u64 ad, .int .u64 F, .int .u64 0, .int .i64 1]) ∧ Below w.heap.size w w' := by
  have r_R : ∀ z : Wb (w.alloc (.cells #[.int .i64 0, .int .i64 0, .bool false, .int .u64 0, .int .u64 0, .int .u64 0, .int .i64 0] 40)), Row z.at (w.heap.size) [.int .i64 0, .int .i64 0, .bool false, .int .u64 0, .int .u64 0, .int .u64 0, .int .i64 0] 40 := Row.at (Row.new w _ _)
  have KK := KB.at (V := w.alloc (.cells #[.int .i64 0, .int .i64 0, .bool false, .int .u64 0, .int .u64 0, .int .u64 0, .int .i64 0] 40)) (KB.alloc (Below.refl _ _) _)
  have c_R_0 : ∀ z : Wb (w.alloc (.cells #[.int .i64 0, .int .i64 0, .bool false, .int .u64 0, .int .u64 0, .int .u64 0, .int .i64 0] 40)), z.at.cell? ⟨w.heap.size, 0, none⟩ = some (.int .i64 0) := fun z => (r_R z).cell 0
  have c_R_1 : ∀ z : Wb (w.alloc (.cells #[.int .i64 0, .int .i64 0, .bool false, .int .u64 0, .int .u64 0, .int .u64 0, .int .i64 0] 40)), z.at.cell? ⟨w.heap.size, 1, none⟩ = some (.int .i64 0) := fun z => (r_R z).cell 1
  have c_R_2 : ∀ z : Wb (w.alloc (.cells #[.int .i64 0, .int .i64 0, .bool false, .int .u64 0, .int .u64 0, .int .u64 0, .int .i64 0] 40)), z.at.cell? ⟨w.heap.size, 2, none⟩ = some (.bool false) := fun z => (r_R z).cell 2
  have c_R_3 : ∀ z : Wb (w.alloc (.cells #[.int .i64 0, .int .i64 0, .bool false, .int .u64 0, .int .u64 0, .int .u64 0, .int .i64 0] 40)), z.at.cell? ⟨w.heap.size, 3, none⟩ = some (.int .u64 0) := fun z => (r_R z).cell 3
  have c_R_4 : ∀ z : Wb (w.alloc (.cells #[.int .i64 0, .int .i64 0, .bool false, .int .u64 0, .int .u64 0, .int .u64 0, .int .i64 0] 40)), z.at.cell? ⟨w.heap.size, 4, none⟩ = some (.int .u64 0) := fun z => (r_R z).cell 4
  have c_R_5 : ∀ z : Wb (w.alloc (.cells #[.int .i64 0, .int .i64 0, .bool false, .int .u64 0, .int .u64 0, .int .u64 0, .int .i64 0] 40)), z.at.cell? ⟨w.heap.size, 5, none⟩ = some (.int .u64 0) := fun z => (r_R z).cell 5
  have c_R_6 : ∀ z : Wb (w.alloc (.cells #[.int .i64 0, .int .i64 0, .bool false, .int .u64 0, .int .u64 0, .int .u64 0, .int .i64 0] 40)), z.at.cell? ⟨w.heap.size, 6, none⟩ = some (.int .i64 0) := fun z => (r_R z).cell 6
  have f_R : ∀ (z : Wb (w.alloc (.cells #[.int .i64 0, .int .i64 0, .bool false, .int .u64 0, .int .u64 0, .int .u64 0, .int .i64 0] 40))) (i : Nat), z.at.frozen? ⟨w.heap.size, i, none⟩ = false := fun z i => (r_R z).free i
  go_enter Try.func19, Try.ntmps19
  go_wp2_with fail
  refine (BE.out _).mono ?_
  rintro e w1 ⟨rfl, g⟩
  obtain ⟨x0, rfl⟩ := Wb.start g
  clear g
  unfold GrW.fv
  go_upto_region 2 with fail
  have ne : w.heap.size ≠ x0.at.heap.size := by have := (r_R x0).lt; omega
  have hp : w.heap.size ≤ x0.at.heap.size := by have := (r_R x0).lt; omega
  clear c_R_0 c_R_1 c_R_2 c_R_3 c_R_4 c_R_5 c_R_6 f_R
  refine to_cls ?_
  intro U0 hU0 z0
  have r_R : ∀ z : Wb U0, Row z.at (w.heap.size) [.int .i64 0, .int .i64 0, .bool false, .int .u64 0, .int .u64 0, .int .u64 0, .int .i64 0] 40 := Row.next ((r_R x0).old _) hU0
  have r_r : ∀ z : Wb U0, Row z.at (x0.at.heap.size) [.int .i64 0, .int .i64 0, .bool false, .int .u64 0, .int .u64 0, .int .u64 0, .int .i64 0] 40 := Row.next (Row.new _ _ _) hU0
  have KK := KB.next (KB.alloc (KK x0) _) hU0
  have c_R_0 : ∀ z : Wb U0, z.at.cell? ⟨w.heap.size, 0, none⟩ = some (.int .i64 0) := fun z => (r_R z).cell 0
  have c_R_1 : ∀ z : Wb U0, z.at.cell? ⟨w.heap.size, 1, none⟩ = some (.int .i64 0) := fun z => (r_R z).cell 1
  have c_R_2 : ∀ z : Wb U0, z.at.cell? ⟨w.heap.size, 2, none⟩ = some (.bool false) := fun z => (r_R z).cell 2
  have c_R_3 : ∀ z : Wb U0, z.at.cell? ⟨w.heap.size, 3, none⟩ = some (.int .u64 0) := fun z => (r_R z).cell 3
  have c_R_4 : ∀ z : Wb U0, z.at.cell? ⟨w.heap.size, 4, none⟩ = some (.int .u64 0) := fun z => (r_R z).cell 4
  have c_R_5 : ∀ z : Wb U0, z.at.cell? ⟨w.heap.size, 5, none⟩ = some (.int .u64 0) := fun z => (r_R z).cell 5
  have c_R_6 : ∀ z : Wb U0, z.at.cell? ⟨w.heap.size, 6, none⟩ = some (.int .i64 0) := fun z => (r_R z).cell 6
  have f_R : ∀ (z : Wb U0) (i : Nat), z.at.frozen? ⟨w.heap.size, i, none⟩ = false := fun z i => (r_R z).free i
  have c_r_0 : ∀ z : Wb U0, z.at.cell? ⟨x0.at.heap.size, 0, none⟩ = some (.int .i64 0) := fun z => (r_r z).cell 0
  have c_r_1 : ∀ z : Wb U0, z.at.cell? ⟨x0.at.heap.size, 1, none⟩ = some (.int .i64 0) := fun z => (r_r z).cell 1
  have c_r_2 : ∀ z : Wb U0, z.at.cell? ⟨x0.at.heap.size, 2, none⟩ = some (.bool false) := fun z => (r_r z).cell 2
  have c_r_3 : ∀ z : Wb U0, z.at.cell? ⟨x0.at.heap.size, 3, none⟩ = some (.int .u64 0) := fun z => (r_r z).cell 3
  have c_r_4 : ∀ z : Wb U0, z.at.cell? ⟨x0.at.heap.size, 4, none⟩ = some (.int .u64 0) := fun z => (r_r z).cell 4
  have c_r_5 : ∀ z : Wb U0, z.at.cell? ⟨x0.at.heap.size, 5, none⟩ = some (.int .u64 0) := fun z => (r_r z).cell 5
  have c_r_6 : ∀ z : Wb U0, z.at.cell? ⟨x0.at.heap.size, 6, none⟩ = some (.int .i64 0) := fun z => (r_r z).cell 6
  have f_r : ∀ (z : Wb U0) (i : Nat), z.at.frozen? ⟨x0.at.heap.size, i, none⟩ = false := fun z i => (r_r z).free i
  go_wp2_with fail
  refine (SL.out _).mono ?_
  rintro e w1 ⟨rfl, g⟩
  obtain ⟨x1, rfl⟩ := Wb.next (x := z0) g
  clear g
  go_wp2_with fail
  refine (RA.out _ (KK x1)).mono ?_
  rintro e w1 ⟨rfl, g⟩
  obtain ⟨x2, rfl⟩ := Wb.next (x := x1) g
  clear g
  go_upto_region 6 with fail
  clear c_R_0 c_R_1 c_R_2 c_R_3 c_R_4 c_R_5 c_R_6 f_R c_r_0 c_r_1 c_r_2 c_r_3 c_r_4 c_r_5 c_r_6 f_r
  refine to_cls ?_
  intro U3 hU3 z3
  have r_R : ∀ z : Wb U3, Row z.at (w.heap.size) [.int .i64 0, .int .i64 0, .bool false, .int .u64 0, .int .u64 0, .int .u64 0, .int .i64 0] 40 := Row.next (Row.oth (Row.oth (r_R x2) ne 4 _) ne 6 _) hU3
  have r_r : ∀ z : Wb U3, Row z.at (x0.at.heap.size) [.int .i64 0, .int .i64 0, .bool false, .int .u64 0, .int .u64 F, .int .u64 0, .int .i64 1] 40 := Row.next (Row.set (Row.set (r_r x2) 4 _) 6 _) hU3
  have KK := KB.next (KB.put (KB.put (KK x2) hp 4 _) hp 6 _) hU3
  have c_R_0 : ∀ z : Wb U3, z.at.cell? ⟨w.heap.size, 0, none⟩ = some (.int .i64 0) := fun z => (r_R z).cell 0
  have c_R_1 : ∀ z : Wb U3, z.at.cell? ⟨w.heap.size, 1, none⟩ = some (.int .i64 0) := fun z => (r_R z).cell 1
  have c_R_2 : ∀ z : Wb U3, z.at.cell? ⟨w.heap.size, 2, none⟩ = some (.bool false) := fun z => (r_R z).cell 2
  have c_R_3 : ∀ z : Wb U3, z.at.cell? ⟨w.heap.size, 3, none⟩ = some (.int .u64 0) := fun z => (r_R z).cell 3
  have c_R_4 : ∀ z : Wb U3, z.at.cell? ⟨w.heap.size, 4, none⟩ = some (.int .u64 0) := fun z => (r_R z).cell 4
  have c_R_5 : ∀ z : Wb U3, z.at.cell? ⟨w.heap.size, 5, none⟩ = some (.int .u64 0) := fun z => (r_R z).cell 5
  have c_R_6 : ∀ z : Wb U3, z.at.cell? ⟨w.heap.size, 6, none⟩ = some (.int .i64 0) := fun z => (r_R z).cell 6
  have f_R : ∀ (z : Wb U3) (i : Nat), z.at.frozen? ⟨w.heap.size, i, none⟩ = false := fun z i => (r_R z).free i
  have c_r_0 : ∀ z : Wb U3, z.at.cell? ⟨x0.at.heap.size, 0, none⟩ = some (.int .i64 0) := fun z => (r_r z).cell 0
  have c_r_1 : ∀ z : Wb U3, z.at.cell? ⟨x0.at.heap.size, 1, none⟩ = some (.int .i64 0) := fun z => (r_r z).cell 1
  have c_r_2 : ∀ z : Wb U3, z.at.cell? ⟨x0.at.heap.size, 2, none⟩ = some (.bool false) := fun z => (r_r z).cell 2
  have c_r_3 : ∀ z : Wb U3, z.at.cell? ⟨x0.at.heap.size, 3, none⟩ = some (.int .u64 0) := fun z => (r_r z).cell 3
  have c_r_4 : ∀ z : Wb U3, z.at.cell? ⟨x0.at.heap.size, 4, none⟩ = some (.int .u64 F) := fun z => (r_r z).cell 4
  have c_r_5 : ∀ z : Wb U3, z.at.cell? ⟨x0.at.heap.size, 5, none⟩ = some (.int .u64 0) := fun z => (r_r z).cell 5
  have c_r_6 : ∀ z : Wb U3, z.at.cell? ⟨x0.at.heap.size, 6, none⟩ = some (.int .i64 1) := fun z => (r_r z).cell 6
  have f_r : ∀ (z : Wb U3) (i : Nat), z.at.frozen? ⟨x0.at.heap.size, i, none⟩ = false := fun z i => (r_r z).free i
  go_wp2_with fail
  refine (SE.out _).mono ?_
  rintro e w1 ⟨rfl, g⟩
  obtain ⟨x4, rfl⟩ := Wb.next (x := z3) g
  clear g
  go_wp2_with fail
  refine (TH.out _).mono ?_
  rintro e w1 ⟨rfl, g⟩
  obtain ⟨x5, rfl⟩ := Wb.next (x := x4) g
  clear g
  go_upto_region 11 with fail
  clear c_R_0 c_R_1 c_R_2 c_R_3 c_R_4 c_R_5 c_R_6 f_R c_r_0 c_r_1 c_r_2 c_r_3 c_r_4 c_r_5 c_r_6 f_r
  refine to_cls ?_
  intro U6 hU6 z6
  have r_R : ∀ z : Wb U6, Row z.at (w.heap.size) [.int .i64 0, .int .i64 0, .bool false, .int .u64 0, .int .u64 0, .int .u64 0, .int .i64 0] 40 := Row.next (Row.oth (Row.oth (Row.oth (Row.oth (r_R x5) ne 0 _) ne 1 _) ne 2 _) ne 3 _) hU6
  have r_r : ∀ z : Wb U6, Row z.at (x0.at.heap.size) [.int .i64 k, .int .i64 l, .bool c, .int .u64 ad, .int .u64 F, .int .u64 0, .int .i64 1] 40 := Row.next (Row.set (Row.set (Row.set (Row.set (r_r x5) 0 _) 1 _) 2 _) 3 _) hU6
  have KK := KB.next (KB.put (KB.put (KB.put (KB.put (KK x5) hp 0 _) hp 1 _) hp 2 _) hp 3 _) hU6
  have c_R_0 : ∀ z : Wb U6, z.at.cell? ⟨w.heap.size, 0, none⟩ = some (.int .i64 0) := fun z => (r_R z).cell 0
  have c_R_1 : ∀ z : Wb U6, z.at.cell? ⟨w.heap.size, 1, none⟩ = some (.int .i64 0) := fun z => (r_R z).cell 1
  have c_R_2 : ∀ z : Wb U6, z.at.cell? ⟨w.heap.size, 2, none⟩ = some (.bool false) := fun z => (r_R z).cell 2
  have c_R_3 : ∀ z : Wb U6, z.at.cell? ⟨w.heap.size, 3, none⟩ = some (.int .u64 0) := fun z => (r_R z).cell 3
  have c_R_4 : ∀ z : Wb U6, z.at.cell? ⟨w.heap.size, 4, none⟩ = some (.int .u64 0) := fun z => (r_R z).cell 4
  have c_R_5 : ∀ z : Wb U6, z.at.cell? ⟨w.heap.size, 5, none⟩ = some (.int .u64 0) := fun z => (r_R z).cell 5
  have c_R_6 : ∀ z : Wb U6, z.at.cell? ⟨w.heap.size, 6, none⟩ = some (.int .i64 0) := fun z => (r_R z).cell 6
  have f_R : ∀ (z : Wb U6) (i : Nat), z.at.frozen? ⟨w.heap.size, i, none⟩ = false := fun z i => (r_R z).free i
  have c_r_0 : ∀ z : Wb U6, z.at.cell? ⟨x0.at.heap.size, 0, none⟩ = some (.int .i64 k) := fun z => (r_r z).cell 0
  have c_r_1 : ∀ z : Wb U6, z.at.cell? ⟨x0.at.heap.size, 1, none⟩ = some (.int .i64 l) := fun z => (r_r z).cell 1
  have c_r_2 : ∀ z : Wb U6, z.at.cell? ⟨x0.at.heap.size, 2, none⟩ = some (.bool c) := fun z => (r_r z).cell 2
  have c_r_3 : ∀ z : Wb U6, z.at.cell? ⟨x0.at.heap.size, 3, none⟩ = some (.int .u64 ad) := fun z => (r_r z).cell 3
  have c_r_4 : ∀ z : Wb U6, z.at.cell? ⟨x0.at.heap.size, 4, none⟩ = some (.int .u64 F) := fun z => (r_r z).cell 4
  have c_r_5 : ∀ z : Wb U6, z.at.cell? ⟨x0.at.heap.size, 5, none⟩ = some (.int .u64 0) := fun z => (r_r z).cell 5
  have c_r_6 : ∀ z : Wb U6, z.at.cell? ⟨x0.at.heap.size, 6, none⟩ = some (.int .i64 1) := fun z => (r_r z).cell 6
  have f_r : ∀ (z : Wb U6) (i : Nat), z.at.frozen? ⟨x0.at.heap.size, i, none⟩ = false := fun z i => (r_r z).free i
  go_wp2
  refine bodyPost_ret (v := .agg #[.int .i64 k, .int .i64 l, .bool c, .int .u64 ad, .int .u64 F, .int .u64 0, .int .i64 1]) (by simp [results, Try.results19, go_sem, *]) rfl ⟨rfl, ?_⟩
  repeat' (first | (with_reducible exact KK z6) | (with_reducible refine Below.setCell ?_ ?_ _) | (simp; done) | (simp; omega))

theorem rwalk_any (v : Value) (L : List (Int × Int)) (tb va : Int) (b : Bool) (w : World) (h : SlP w v L) (hb : Bd L) (hn : L.length ≤ 1000000) (t0 : 0 ≤ tb) (t1 : tb < 18446744073709551616) (h0 : 0 ≤ va) (h1 : va < 18446744073709551616) :
    Calls Try.prog 19 #[v, .int .u64 tb, .int .u64 va, .bool b] w fun e w' => e = .returned (.agg (GrW.walkL (readL L) tb va b).toArray) ∧ Below w.heap.size w w' := by
  have hR := readL_bd hb
  have BE := Lib.hid (fun w => rbefore_any va b w h0 h1)
  have SL := Lib.hid (fun w => rdslot_any tb va 1 w h0 h1 t0 t1)
  obtain ⟨F0, F1⟩ : 0 ≤ GrW.wF (readL L) tb va ∧ GrW.wF (readL L) tb va < 18446744073709551616 := hR _
  have SE := Lib.hid (fun w => second_any (GrW.wF (readL L) tb va) va w F0 F1 h0 h1)
  have eb : GrW.befV va b = if GrW.befK va = 0 then GrW.fv 0 0 false else GrW.fv (GrW.befK va) 0 b := rfl
  rw [eb] at BE
  have RD : ∀ (w1 : World), Below w.heap.size w w1 → ∀ a, Calls Try.prog 55 #[v, .int .u64 a] w1 fun e w' => e = .returned (.int .u64 (readL L a)) ∧ Below w1.heap.size w1 w' := fun w1 k a => rread_any v L a w1 (h.below k) hn
  have RA := Lib.hid (fun (w1 : World) (k : Below w.heap.size w w1) => RD w1 k (IntKind.u64.wrap (tb + 8 * GrF.slot va 1)))
  unfold GrW.walkL
  by_cases c : GrW.befK va = 0
  · rw [if_pos c] at BE
    rw [if_pos c]
    cases t : GrW.isTable (GrW.wF (readL L) tb va) with
    | true =>
      have eS : GrW.wS (readL L) tb va = readL L (GrW.secondA (GrW.wF (readL L) tb va) va) := by unfold GrW.wS; rw [if_pos t]
      have RB := Lib.hid (fun (w1 : World) (k : Below w.heap.size w w1) => RD w1 k (GrW.secondA (GrW.wF (readL L) tb va) va))
      rw [← eS] at RB
      obtain ⟨S0, S1⟩ : 0 ≤ GrW.wS (readL L) tb va ∧ GrW.wS (readL L) tb va < 18446744073709551616 := by rw [eS]; exact hR _
      have TH := Lib.hid (fun w => rthrough_any (GrW.wF (readL L) tb va) (GrW.wS (readL L) tb va) va b w F0 F1 S0 S1 h0 h1)
      rw [GrW.thV_in _ _ _ _ c] at TH
      rw [t] at SE
      have eN : GrW.wN (readL L) tb va = 2 := by unfold GrW.wN; rw [if_pos t]
      rw [eN]
      exact rwalk_two v tb va b w _ _ _ _ _ _ _ _ BE SL SE TH RA RB
    | false =>
      have eS : GrW.wS (readL L) tb va = 0 := by unfold GrW.wS; rw [if_neg (by rw [t]; decide)]
      have TH := Lib.hid (fun w => rthrough_any (GrW.wF (readL L) tb va) 0 va b w F0 F1 (by omega) (by omega) h0 h1)
      rw [GrW.thV_in _ _ _ _ c] at TH
      rw [t] at SE
      have eN : GrW.wN (readL L) tb va = 1 := by unfold GrW.wN; rw [if_neg (by rw [t]; decide)]
      rw [eN, eS]
      exact rwalk_one v tb va b w _ _ _ 0 _ _ _ _ BE SL SE TH RA
  · rw [if_neg c] at BE
    rw [if_neg c]
    exact rwalk_no v tb va b w _ (by simpa using c) (by simpa using c) BE
end Go.Proofs.Ytjmkkidlaebpmaa

namespace Go.Proofs.Ytjmkkidlaebpmaa
open Go.RowKit GrS

set_option maxRecDepth 100000 in
set_option maxHeartbeats 3200000 in
theorem is_same (k l ad F S n : Int) (c : Bool) (w : World) :
    Calls Try.prog 17 #[.agg #[.int .i64 k, .int .i64 l, .bool c, .int .u64 ad, .int .u64 F, .int .u64 S, .int .i64 n], .agg #[.int .i64 k, .int .i64 l, .bool c, .int .u64 ad, .int .u64 F, .int .u64 S, .int .i64 n]] w fun e w' => e = .returned (.bool true) ∧ Below w.heap.size w w' := by
  go_enter Try.func17, Try.ntmps17
  go_upto_region 1 with fail
  refine to_cls ?_
  intro U hU z
  have r_a : ∀ z : Wb U, Row z.at (w.heap.size) [.int .i64 k, .int .i64 l, .bool c, .int .u64 ad, .int .u64 F, .int .u64 S, .int .i64 n] 38 := Row.next (Row.old (Row.new' _ [.int .i64 k, .int .i64 l, .bool c, .int .u64 ad, .int .u64 F, .int .u64 S, .int .i64 n] _ _ (by simp)) _) hU
  have r_b : ∀ z : Wb U, Row z.at (w.heap.size + 1) [.int .i64 k, .int .i64 l, .bool c, .int .u64 ad, .int .u64 F, .int .u64 S, .int .i64 n] 40 := Row.next (Row.new' _ [.int .i64 k, .int .i64 l, .bool c, .int .u64 ad, .int .u64 F, .int .u64 S, .int .i64 n] _ _ (by simp)) hU
  have KK := Lib.hid (KB.next (KB.alloc (KB.alloc (Below.refl _ _) _) _) hU)
  clear hU
  have a0 : ∀ z : Wb U, z.at.cell? ⟨w.heap.size, 0, none⟩ = some (.int .i64 k) := fun z => (r_a z).cell 0
  have a1 : ∀ z : Wb U, z.at.cell? ⟨w.heap.size, 1, none⟩ = some (.int .i64 l) := fun z => (r_a z).cell 1
  have a2 : ∀ z : Wb U, z.at.cell? ⟨w.heap.size, 2, none⟩ = some (.bool c) := fun z => (r_a z).cell 2
  have a3 : ∀ z : Wb U, z.at.cell? ⟨w.heap.size, 3, none⟩ = some (.int .u64 ad) := fun z => (r_a z).cell 3
  have a4 : ∀ z : Wb U, z.at.cell? ⟨w.heap.size, 4, none⟩ = some (.int .u64 F) := fun z => (r_a z).cell 4
  have a5 : ∀ z : Wb U, z.at.cell? ⟨w.heap.size, 5, none⟩ = some (.int .u64 S) := fun z => (r_a z).cell 5
  have a6 : ∀ z : Wb U, z.at.cell? ⟨w.heap.size, 6, none⟩ = some (.int .i64 n) := fun z => (r_a z).cell 6
  have b0 : ∀ z : Wb U, z.at.cell? ⟨w.heap.size + 1, 0, none⟩ = some (.int .i64 k) := fun z => (r_b z).cell 0
  have b1 : ∀ z : Wb U, z.at.cell? ⟨w.heap.size + 1, 1, none⟩ = some (.int .i64 l) := fun z => (r_b z).cell 1
  have b2 : ∀ z : Wb U, z.at.cell? ⟨w.heap.size + 1, 2, none⟩ = some (.bool c) := fun z => (r_b z).cell 2
  have b3 : ∀ z : Wb U, z.at.cell? ⟨w.heap.size + 1, 3, none⟩ = some (.int .u64 ad) := fun z => (r_b z).cell 3
  have b4 : ∀ z : Wb U, z.at.cell? ⟨w.heap.size + 1, 4, none⟩ = some (.int .u64 F) := fun z => (r_b z).cell 4
  have b5 : ∀ z : Wb U, z.at.cell? ⟨w.heap.size + 1, 5, none⟩ = some (.int .u64 S) := fun z => (r_b z).cell 5
  have b6 : ∀ z : Wb U, z.at.cell? ⟨w.heap.size + 1, 6, none⟩ = some (.int .i64 n) := fun z => (r_b z).cell 6
  go_wp2
  go_ret
  exact ⟨by first | rfl | simp, KK.out z⟩

set_option maxRecDepth 100000 in
set_option maxHeartbeats 3200000 in
theorem mem_long (a : Addr) (n cp : Nat) (w : World) (c0 : 200 < (n : Int)) :
    Calls Try.prog 16 #[.slice (some a) n cp] w fun e w' => e = .returned (.tuple #[.agg #[.pointer none, .int .i64 0], .bool false]) ∧ Below w.heap.size w w' := by
  have d0 : decide (200 < (n : Int)) = true := by simpa using c0
  clear c0
  go_enter Try.func16, Try.ntmps16
  go_upto_region 1 with fail
  refine to_cls ?_
  intro U hU z
  have r_r : ∀ z : Wb U, Row z.at w.heap.size [.pointer none, .int .i64 0] 31 := Row.next (Row.new _ [.pointer none, .int .i64 0] _) hU
  have bU := Lib.hid (show Below w.heap.size w U from (KB.alloc (Below.refl _ _) _).trans (hU.mono (by simp)))
  clear hU
  obtain ⟨R, hR⟩ : ∃ R, R = w.heap.size := ⟨_, rfl⟩
  rw [← hR] at r_r
  simp only [← hR]
  have wR := Lib.hid (show w.heap.size ≤ R by omega)
  clear hR
  have s0 : ∀ z : Wb U, z.at.cell? ⟨R, 0, none⟩ = some (.pointer none) := fun z => (r_r z).cell 0
  have s1 : ∀ z : Wb U, z.at.cell? ⟨R, 1, none⟩ = some (.int .i64 0) := fun z => (r_r z).cell 1
  have fs : ∀ (z : Wb U) (i : Nat), z.at.frozen? ⟨R, i, none⟩ = false := fun z i => (r_r z).free i
  go_wp2
  refine bodyPost_ret (v := .tuple #[.agg #[.pointer none, .int .i64 0], .bool false]) (by simp [results, Try.results16, go_sem, *]) rfl ⟨rfl, KB.put (KB.put (bU.out.trans (z.bel.mono bU.out.size)) wR.out 0 _) wR.out 1 _⟩
theorem mem_tell (v : Value) (L : List (Int × Int)) (w : World) (h : SlP w v L) (hb : Bd L) :
    Calls Try.prog 16 #[v] w fun e w' => ∃ p m ok t, e = .returned (.tuple #[.agg #[.pointer p, .int .i64 m], .bool ok]) ∧ Below w.heap.size w w' ∧ MAt w' p m t ∧ m ≤ 256 ∧ (ok = true → RelT t L ∧ L.length ≤ 200) := by
  by_cases c : L.length ≤ 200
  · refine (mem_any v L w h hb).mono ?_
    rintro e w1 ⟨p, m, ok, t, h1, h2, h3, h4, h5⟩
    exact ⟨p, m, ok, t, h1, h2, h3, h4, fun k => ⟨h5 k, c⟩⟩
  · have h' := h
    obtain ⟨_, ⟨rfl, h0⟩ | ⟨a, cp, rfl, _⟩⟩ := h'
    · exact absurd (by omega) c
    · refine (mem_long a _ cp w (by omega)).mono ?_
      rintro e w1 ⟨rfl, k⟩
      exact ⟨none, 0, false, none, rfl, k, ⟨rfl, rfl, trivial⟩, by omega, fun e => by cases e⟩

set_option maxRecDepth 100000 in
set_option maxHeartbeats 6400000 in
theorem WalkGoes_walk (v : Value) (L : List (Int × Int)) (tb va : Int) (b : Bool) (w : World) (h : SlP w v L) (hb : Bd L) (t0 : 0 ≤ tb) (t1 : tb < 18446744073709551616) (h0 : 0 ≤ va) (h1 : va < 18446744073709551616) :
    Calls Try.prog 3 #[v, .agg #[.int .u64 tb, .int .u64 va, .bool b]] w fun e w' => e = .returned (.bool true) ∧ Below w.heap.size w w' := by
  have AW := Lib.hid (fun w => wawake_any w)
  have HS := Lib.hid h
  have HB := Lib.hid hb
  clear h hb
  go_enter Try.func3, Try.ntmps3
  go_upto_region 1 with fail
  refine to_cls ?_
  intro U0 hU0 z0
  have r_a : ∀ z : Wb U0, Row z.at (w.heap.size) [.int .u64 tb, .int .u64 va, .bool b] 25 := Row.next (Row.new' _ [.int .u64 tb, .int .u64 va, .bool b] _ _ (by simp)) hU0
  have KK := Lib.hid (KB.next (KB.alloc (Below.refl _ _) _) hU0)
  clear hU0
  have c_a_0 : ∀ z : Wb U0, z.at.cell? ⟨w.heap.size, 0, none⟩ = some (.int .u64 tb) := fun z => (r_a z).cell 0
  have c_a_1 : ∀ z : Wb U0, z.at.cell? ⟨w.heap.size, 1, none⟩ = some (.int .u64 va) := fun z => (r_a z).cell 1
  have c_a_2 : ∀ z : Wb U0, z.at.cell? ⟨w.heap.size, 2, none⟩ = some (.bool b) := fun z => (r_a z).cell 2
  go_wp2_with fail
  refine (AW.out _).mono ?_
  rintro e w1 ⟨rfl, g⟩
  obtain ⟨z1, rfl⟩ := Wb.next (x := z0) g
  clear g
  go_wp2_with fail
  refine (mem_tell v L z1.at (HS.out.below (KK.out z1)) HB.out).mono ?_
  rintro e w1 ⟨p, m, ok, t, rfl, g, ma, m256, rt⟩
  obtain ⟨z2, rfl⟩ := Wb.next (x := z1) g
  have MA := Lib.hid (fun (U : World) (k : Below z2.at.heap.size z2.at U) => ma.below k)
  have M2 := Lib.hid m256
  have RT := Lib.hid rt
  clear g ma m256 rt
  go_upto_region 4 with fail
  refine to_cls ?_
  intro U3 hU3 z3
  clear c_a_0 c_a_1 c_a_2
  have r_a : ∀ z : Wb U3, Row z.at (w.heap.size) [.int .u64 tb, .int .u64 va, .bool b] 25 := Row.next ((r_a z2).old _) hU3
  have r_m : ∀ z : Wb U3, Row z.at (z2.at.heap.size) [.pointer p, .int .i64 m] 31 := Row.next (Row.new _ [.pointer p, .int .i64 m] _) hU3
  have KK := Lib.hid (KB.next (KB.alloc (KK.out z2) _) hU3)
  have MB := Lib.hid (fun z : Wb U3 => MAt.below (MAt.below (MA.out _ (KB.alloc (Below.refl _ _) _ : Below z2.at.heap.size z2.at _)) hU3) z.bel)
  clear hU3
  have c_a_0 : ∀ z : Wb U3, z.at.cell? ⟨w.heap.size, 0, none⟩ = some (.int .u64 tb) := fun z => (r_a z).cell 0
  have c_a_1 : ∀ z : Wb U3, z.at.cell? ⟨w.heap.size, 1, none⟩ = some (.int .u64 va) := fun z => (r_a z).cell 1
  have c_a_2 : ∀ z : Wb U3, z.at.cell? ⟨w.heap.size, 2, none⟩ = some (.bool b) := fun z => (r_a z).cell 2
  have c_m_0 : ∀ z : Wb U3, z.at.cell? ⟨z2.at.heap.size, 0, none⟩ = some (.pointer p) := fun z => (r_m z).cell 0
  have c_m_1 : ∀ z : Wb U3, z.at.cell? ⟨z2.at.heap.size, 1, none⟩ = some (.int .i64 m) := fun z => (r_m z).cell 1
  obtain ⟨mA, hmA⟩ : ∃ b, b = z2.at.heap.size := ⟨_, rfl⟩
  rw [← hmA] at r_m c_m_0 c_m_1
  simp only [← hmA]
  clear hmA
  have d_a_0 : ∀ y : Wb z3.at, y.at.cell? ⟨w.heap.size, 0, none⟩ = some (.int .u64 tb) := fun y => ((r_a z3).below y.bel).cell 0
  have d_a_1 : ∀ y : Wb z3.at, y.at.cell? ⟨w.heap.size, 1, none⟩ = some (.int .u64 va) := fun y => ((r_a z3).below y.bel).cell 1
  have d_a_2 : ∀ y : Wb z3.at, y.at.cell? ⟨w.heap.size, 2, none⟩ = some (.bool b) := fun y => ((r_a z3).below y.bel).cell 2
  have d_m_0 : ∀ y : Wb z3.at, y.at.cell? ⟨mA, 0, none⟩ = some (.pointer p) := fun y => ((r_m z3).below y.bel).cell 0
  have d_m_1 : ∀ y : Wb z3.at, y.at.cell? ⟨mA, 1, none⟩ = some (.int .i64 m) := fun y => ((r_m z3).below y.bel).cell 1
  clear c_a_0 c_a_1 c_a_2 c_m_0 c_m_1
  cases ok with
  | false =>
    refine wp_region_wb (by kernel_rfl) (by kernel_rfl) ?_
    repeat (go_big_quiet_step (fail))
    refine wpQuiet_nil ?_
    rintro _ ⟨y, rfl⟩
    go_wp2
    go_ret
    exact ⟨by first | rfl | simp, (KK.out z3).trans (y.bel.mono (KK.out z3).size)⟩
  | true =>
    have RX := Lib.hid (RT.out rfl)
    have WK := Lib.hid (fun y : Wb z3.at => walk_mem p m t L tb va b y.at ((MB.out z3).below y.bel) RX.out.1 HB.out h0 h1)
    have RW := Lib.hid (fun y : Wb z3.at => rwalk_any v L tb va b y.at ((HS.out.below (KK.out z3)).below y.bel) HB.out (by have := RX.out.2; omega) t0 t1 h0 h1)
    obtain ⟨k, l, cb, ad, F, S, n, eW, _, _, _⟩ := walkL_form (readL L) (readL_bd HB.out) tb va b
    rw [eW] at WK RW
    clear eW
    have IS := Lib.hid (fun w => is_same k l ad F S n cb w)
    refine wp_region_wb (by kernel_rfl) (by kernel_rfl) ?_
    repeat (go_big_quiet_step (first | (go_at_call 18; exact Calls.wb (WK.out _)) | (go_at_call 19; exact Calls.wb (RW.out _)) | (go_at_call 17; exact Calls.wb (IS.out _))))
    refine wpQuiet_nil ?_
    rintro _ ⟨y, rfl⟩
    go_wp2
    go_ret
    exact ⟨by first | rfl | simp, (KK.out z3).trans (y.bel.mono (KK.out z3).size)⟩

theorem WalkGoes_rows (v : Value) (n : Nat) (R : Nat → List Value) (tb va : Int) (b : Bool) (w : World) (s : SlAt w v 2 n ((List.range n).flatMap R)) (g : ∀ i, i < n → ∃ p : Int × Int, R i = [.int .u64 p.1, .int .u64 p.2] ∧ (0 ≤ p.1 ∧ p.1 < 18446744073709551616) ∧ 0 ≤ p.2 ∧ p.2 < 18446744073709551616) (t0 : 0 ≤ tb) (t1 : tb < 18446744073709551616) (h0 : 0 ≤ va) (h1 : va < 18446744073709551616) :
    Calls Try.prog 3 #[v, .agg #[.int .u64 tb, .int .u64 va, .bool b]] w fun e w' => e = .returned (.bool true) ∧ Below w.heap.size w w' := by
  obtain ⟨L, hL, hB⟩ := slp_of_rows s g
  exact WalkGoes_walk v L tb va b w hL hB t0 t1 h0 h1
end Go.Proofs.Ytjmkkidlaebpmaa
