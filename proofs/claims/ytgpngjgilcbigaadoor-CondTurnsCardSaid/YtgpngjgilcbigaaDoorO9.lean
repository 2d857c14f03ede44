/-
  Layer 11, the laws: CondTurns.
-/
import Derived.Test.YtgpngjgilcbigaaDoorOh
import Derived.Test.YtgpngjgilcbigaaDoorOo
import Derived.Test.YtgpngjgilcbigaaDoorOu
import Derived.Deep.RegionHeld3
set_option linter.unusedSimpArgs false
set_option linter.unusedVariables false
namespace GrC
theorem turn_and (c d : Cnd) (o : Out) : (Cnd.node 4 0 0 0 0 [c, d]).holds o = (c.holds o && d.holds o) := by
  simp [Cnd.holds, allL]
theorem turn_not (c : Cnd) (o : Out) : (Cnd.node 6 0 0 0 0 [c]).holds o = !c.holds o := by
  simp [Cnd.holds, anyL]
theorem turn_or (c d : Cnd) (o : Out) : (Cnd.node 5 0 0 0 0 [c, d]).holds o = (c.holds o || d.holds o) := by
  simp [Cnd.holds, anyL]
end GrC
namespace Go.Proofs.YtgpngjgilcbigaaDoor
open Go.RowKit GrP GrL GrC
theorem region_cut4 {P : Program} {c : Code} {K : Act → World → Prop} {Q : Exit → Act → World → Prop} {a : Act} {V : World} (F : Act → Nat → Nat → Nat → Nat → Act) (G : Nat → Nat → Nat → Nat → World → Prop)
    (h : c.wp P (fun e a' w' => e = .normal ∧ ∃ i j k l, a' = F a i j k l ∧ G i j k l w') a V) (k : ∀ i j m l w', G i j m l w' → K (F a i j m l) w') : c.wp P (Exit.then K Q) a V :=
  wp_mono h fun e a' w' ⟨he, i, j, m, l, ha, hg⟩ => by
    subst he
    subst ha
    exact k i j m l w' hg

set_option maxRecDepth 100000 in
set_option maxHeartbeats 12800000 in
theorem condTurns_call (c d : Cnd) (p : Option Addr) (n q : Nat) (p2 : Option Addr) (n2 q2 : Nat) (o : Out) (pr : Option Addr) (nr cr : Nat) (pf : Option Addr) (nf cf : Nat) (pc : Option Addr) (nc cc : Nat) (w : World) (hn : n = c.args.length) (hl : LAt w c.args p 0) (hn2 : n2 = d.args.length) (hl2 : LAt w d.args p2 0) (ho : OAt w o pr nr cr pf nf cf pc nc cc) (ht : TB w) :
    Calls Tryd.prog 7 #[.agg #[.int .i64 c.k, .int .i64 c.co, .int .i64 c.r, .int .u64 c.ad, .int .u64 c.va, .slice p n q], .agg #[.int .i64 d.k, .int .i64 d.co, .int .i64 d.r, .int .u64 d.ad, .int .u64 d.va, .slice p2 n2 q2], .agg #[.slice pr nr cr, .slice pf nf cf, .slice pc nc cc]] w fun e w' => e = .returned (.bool true) ∧ Below w.heap.size w w' := by
  have AW := Lib.hid (fun (U : World) (k : Below w.heap.size w U) => awake_any U (ht.below k))
  have SM1 := Lib.hid (fun (U : World) (k : Below w.heap.size w U) => csmall_any 8 c p n q U hn (hl.below k) (by decide))
  have SM2 := Lib.hid (fun (U : World) (k : Below w.heap.size w U) => csmall_any 8 d p2 n2 q2 U hn2 (hl2.below k) (by decide))
  have HH := Lib.hid (fun (e : Cnd) (N : Nat) (m : Nat) (hm : m = e.args.length) (U : World) (k : Below w.heap.size w U) (hl : LAt U e.args (some ⟨N, 0, none⟩) 0) => holds_any o pr nr cr pf nf cf pc nc cc e.cnt e (some ⟨N, 0, none⟩) m m U (Nat.le_refl _) hm hl (ho.below k))
  have PA := Lib.hid (fun (N : Nat) (U : World) (k : Below w.heap.size w U) (T : TypeId) (hR : Row U N (cellsC c p n q ++ cellsC d p2 n2 q2) T) => pair_at hR hn (hl.below k) hn2 (hl2.below k))
  have PB := Lib.hid (fun (N : Nat) (U : World) (k : Below w.heap.size w U) (T : TypeId) (hR : Row U N (cellsC d p2 n2 q2 ++ cellsC c p n q) T) => pair_at hR hn2 (hl2.below k) hn (hl.below k))
  have O1 := Lib.hid (fun (N : Nat) (U : World) (k : Below w.heap.size w U) (T : TypeId) (hR : Row U N (cellsC c p n q) T) => one_at hR hn (hl.below k))
  have O2 := Lib.hid (fun (N : Nat) (U : World) (k : Below w.heap.size w U) (T : TypeId) (hR : Row U N (cellsC d p2 n2 q2) T) => one_at hR hn2 (hl2.below k))
  obtain ⟨s1, hs1⟩ : ∃ b, b = c.small 8 := ⟨_, rfl⟩
  obtain ⟨s2, hs2⟩ : ∃ b, b = d.small 8 := ⟨_, rfl⟩
  rw [← hs1] at SM1
  rw [← hs2] at SM2
  obtain ⟨kk, hkk⟩ : ∃ k, k = c.k := ⟨_, rfl⟩
  obtain ⟨co, hco⟩ : ∃ k, k = c.co := ⟨_, rfl⟩
  obtain ⟨rr, hrr⟩ : ∃ k, k = c.r := ⟨_, rfl⟩
  obtain ⟨aa, haa⟩ : ∃ k, k = c.ad := ⟨_, rfl⟩
  obtain ⟨vv, hvv⟩ : ∃ k, k = c.va := ⟨_, rfl⟩
  obtain ⟨kk2, hkk2⟩ : ∃ k, k = d.k := ⟨_, rfl⟩
  obtain ⟨co2, hco2⟩ : ∃ k, k = d.co := ⟨_, rfl⟩
  obtain ⟨rr2, hrr2⟩ : ∃ k, k = d.r := ⟨_, rfl⟩
  obtain ⟨aa2, haa2⟩ : ∃ k, k = d.ad := ⟨_, rfl⟩
  obtain ⟨vv2, hvv2⟩ : ∃ k, k = d.va := ⟨_, rfl⟩
  rw [← hkk, ← hco, ← hrr, ← haa, ← hvv] at SM1
  rw [← hkk2, ← hco2, ← hrr2, ← haa2, ← hvv2] at SM2
  rw [← hkk, ← hco, ← hrr, ← haa, ← hvv, ← hkk2, ← hco2, ← hrr2, ← haa2, ← hvv2]
  have EA := Lib.hid (show cellsC c p n q = [.int .i64 kk, .int .i64 co, .int .i64 rr, .int .u64 aa, .int .u64 vv, .slice p n q] by unfold cellsC; rw [← hkk, ← hco, ← hrr, ← haa, ← hvv])
  have EB := Lib.hid (show cellsC d p2 n2 q2 = [.int .i64 kk2, .int .i64 co2, .int .i64 rr2, .int .u64 aa2, .int .u64 vv2, .slice p2 n2 q2] by unfold cellsC; rw [← hkk2, ← hco2, ← hrr2, ← haa2, ← hvv2])
  rw [EA.out, EB.out] at PA PB
  rw [EA.out] at O1
  rw [EB.out] at O2
  clear hs1 hs2 hkk hco hrr haa hvv hkk2 hco2 hrr2 haa2 hvv2 hn hl hn2 hl2 ho ht EA EB
  go_enter Tryd.func7, Tryd.ntmps7
  go_upto_region 1 with fail
  refine to_cls ?_
  intro U0 hU0 y0
  have RA0 := Lib.hid (show Row y0.at w.heap.size [.int .i64 kk, .int .i64 co, .int .i64 rr, .int .u64 aa, .int .u64 vv, .slice p n q] 25 from (((Row.new _ [.int .i64 kk, .int .i64 co, .int .i64 rr, .int .u64 aa, .int .u64 vv, .slice p n q] _).old _).old _ |>.below hU0).below y0.bel)
  have RB0 := Lib.hid (show Row y0.at (w.heap.size + 1) [.int .i64 kk2, .int .i64 co2, .int .i64 rr2, .int .u64 aa2, .int .u64 vv2, .slice p2 n2 q2] 25 from ((Row.new' _ [.int .i64 kk2, .int .i64 co2, .int .i64 rr2, .int .u64 aa2, .int .u64 vv2, .slice p2 n2 q2] _ _ (by simp)).old _ |>.below hU0).below y0.bel)
  have RO0 := Lib.hid (show Row y0.at (w.heap.size + 1 + 1) [.slice pr nr cr, .slice pf nf cf, .slice pc nc cc] 50 from ((Row.new' _ [.slice pr nr cr, .slice pf nf cf, .slice pc nc cc] _ _ (by simp)).below hU0).below y0.bel)
  have K0 := Lib.hid (KB.next (KB.alloc (KB.alloc (KB.alloc (Below.refl w.heap.size w) _) _) _) hU0 y0)
  clear hU0
  obtain ⟨pA, hpA⟩ : ∃ b, b = w.heap.size := ⟨_, rfl⟩
  obtain ⟨pB, hpB⟩ : ∃ b, b = pA + 1 := ⟨_, rfl⟩
  obtain ⟨pO, hpO⟩ : ∃ b, b = pB + 1 := ⟨_, rfl⟩
  rw [← hpA] at RA0 RB0 RO0
  rw [← hpB] at RB0 RO0
  rw [← hpO] at RO0
  simp only [← hpA]
  simp only [← hpB]
  simp only [← hpO]
  clear hpA hpB hpO
  go_upto_region 3 with (go_at_call 8; refine (AW.out _ K0.out).mono ?_; rintro e w4 ⟨rfl, g⟩; obtain ⟨x4, rfl⟩ := Wb.start (W := y0.at) g; clear g)
  have K4 := Lib.hid (K0.out.trans (x4.bel.mono K0.out.size))
  have RA := Lib.hid (fun z : Wb y0.at => RA0.out.below z.bel)
  have RB := Lib.hid (fun z : Wb y0.at => RB0.out.below z.bel)
  have RO := Lib.hid (fun z : Wb y0.at => RO0.out.below z.bel)
  have SN1 := Lib.hid (fun z : Wb y0.at => show Calls Tryd.prog 9 #[.agg #[.int .i64 kk, .int .i64 co, .int .i64 rr, .int .u64 aa, .int .u64 vv, .slice p n q], .int .i64 8] z.at fun e w' => e = .returned (.bool s1) ∧ Below z.at.heap.size z.at w' from SM1.out z.at (K0.out.trans (z.bel.mono K0.out.size)))
  have SN2 := Lib.hid (fun z : Wb y0.at => show Calls Tryd.prog 9 #[.agg #[.int .i64 kk2, .int .i64 co2, .int .i64 rr2, .int .u64 aa2, .int .u64 vv2, .slice p2 n2 q2], .int .i64 8] z.at fun e w' => e = .returned (.bool s2) ∧ Below z.at.heap.size z.at w' from SM2.out z.at (K0.out.trans (z.bel.mono K0.out.size)))
  have a_0 := fun z : Wb y0.at => (RA.out z).cell 0
  have b_0 := fun z : Wb y0.at => (RB.out z).cell 0
  have a_1 := fun z : Wb y0.at => (RA.out z).cell 1
  have b_1 := fun z : Wb y0.at => (RB.out z).cell 1
  have a_2 := fun z : Wb y0.at => (RA.out z).cell 2
  have b_2 := fun z : Wb y0.at => (RB.out z).cell 2
  have a_3 := fun z : Wb y0.at => (RA.out z).cell 3
  have b_3 := fun z : Wb y0.at => (RB.out z).cell 3
  have a_4 := fun z : Wb y0.at => (RA.out z).cell 4
  have b_4 := fun z : Wb y0.at => (RB.out z).cell 4
  have a_5 := fun z : Wb y0.at => (RA.out z).cell 5
  have b_5 := fun z : Wb y0.at => (RB.out z).cell 5
  simp only [List.getElem?_cons_zero, List.getElem?_cons_succ] at a_0 b_0 a_1 b_1 a_2 b_2 a_3 b_3 a_4 b_4 a_5 b_5
  clear AW SM1 SM2 RA0 RB0 RO0 K4
  cases s1 with
  | false =>
    skip
    go_wp2_with (go_at_call 9; refine (SN1.out x4).mono ?_; rintro e w5 ⟨rfl, g⟩; obtain ⟨x5, rfl⟩ := Wb.next (x := x4) g; clear g)
    go_ret
    exact ⟨rfl, K0.out.trans (x5.bel.mono K0.out.size)⟩
  | true =>
    cases s2 with
    | false =>
      go_wp2_with (first | (go_at_call 9; (with_reducible refine (SN1.out x4).mono ?_); rintro e w5 ⟨rfl, g⟩; obtain ⟨x5, rfl⟩ := Wb.next (x := x4) g; clear g) | (go_at_call 9; (with_reducible refine (SN2.out x5).mono ?_); rintro e w6 ⟨rfl, g⟩; obtain ⟨x6, rfl⟩ := Wb.next g; clear g))
      go_ret
      exact ⟨rfl, K0.out.trans (x6.bel.mono K0.out.size)⟩
    | true =>
      go_upto_region 5 with (first | (go_at_call 9; (with_reducible refine (SN1.out x4).mono ?_); rintro e w5 ⟨rfl, g⟩; obtain ⟨x5, rfl⟩ := Wb.next (x := x4) g; clear g) | (go_at_call 9; (with_reducible refine (SN2.out x5).mono ?_); rintro e w6 ⟨rfl, g⟩; obtain ⟨x6, rfl⟩ := Wb.next g; clear g))
      have K6 := Lib.hid (K0.out.trans (x6.bel.mono K0.out.size))
      have RA6 := Lib.hid (RA.out x6)
      have RB6 := Lib.hid (RB.out x6)
      have RO6 := Lib.hid (RO.out x6)
      clear a_0 b_0 a_1 b_1 a_2 b_2 a_3 b_3 a_4 b_4 a_5 b_5 SN1 SN2 RA RB RO
      have a_0 := (RA6.out).cell 0
      have b_0 := (RB6.out).cell 0
      have a_1 := (RA6.out).cell 1
      have b_1 := (RB6.out).cell 1
      have a_2 := (RA6.out).cell 2
      have b_2 := (RB6.out).cell 2
      have a_3 := (RA6.out).cell 3
      have b_3 := (RB6.out).cell 3
      have a_4 := (RA6.out).cell 4
      have b_4 := (RB6.out).cell 4
      have a_5 := (RA6.out).cell 5
      have b_5 := (RB6.out).cell 5
      simp only [List.getElem?_cons_zero, List.getElem?_cons_succ] at a_0 b_0 a_1 b_1 a_2 b_2 a_3 b_3 a_4 b_4 a_5 b_5
      go_upto_region 6 with fail
      refine to_cls ?_
      intro U1 hU1 y1
      obtain ⟨i1, hi1⟩ : ∃ b, b = x6.at.heap.size := ⟨_, rfl⟩
      obtain ⟨m1, hm1⟩ : ∃ b, b = i1 + 1 := ⟨_, rfl⟩
      have B1 := Lib.hid (show Below x6.at.heap.size x6.at y1.at from (KB.alloc (KB.alloc (Below.refl x6.at.heap.size x6.at) _) _).trans ((hU1.trans (y1.bel.mono hU1.size)).mono (by simp; omega)))
      have R11 := Lib.hid (show Row y1.at i1 [.int .i64 kk, .int .i64 co, .int .i64 rr, .int .u64 aa, .int .u64 vv, .slice p n q, .int .i64 kk2, .int .i64 co2, .int .i64 rr2, .int .u64 aa2, .int .u64 vv2, .slice p2 n2 q2] 25 from hi1 ▸ (((Row.new x6.at [.int .i64 kk, .int .i64 co, .int .i64 rr, .int .u64 aa, .int .u64 vv, .slice p n q, .int .i64 kk2, .int .i64 co2, .int .i64 rr2, .int .u64 aa2, .int .u64 vv2, .slice p2 n2 q2] _).old _).below hU1).below y1.bel)
      have R12 := Lib.hid (show Row y1.at m1 [.int .i64 4, .int .i64 0, .int .i64 0, .int .u64 0, .int .u64 0, .slice (some ⟨i1, 0, none⟩) 2 2] 25 from Row.below (Row.below (by rw [hm1, hi1]; exact Row.new' _ [.int .i64 4, .int .i64 0, .int .i64 0, .int .u64 0, .int .u64 0, .slice (some ⟨x6.at.heap.size, 0, none⟩) 2 2] _ _ (by simp)) hU1) y1.bel)
      have RA1 := Lib.hid (RA6.out.below B1.out)
      have RB1 := Lib.hid (RB6.out.below B1.out)
      have RO1 := Lib.hid (RO6.out.below B1.out)
      have K7 := Lib.hid (K6.out.trans (B1.out.mono K6.out.size))
      simp only [← hi1]
      simp only [← hm1]
      clear hU1 hi1 hm1 a_0 b_0 a_1 b_1 a_2 b_2 a_3 b_3 a_4 b_4 a_5 b_5 RA6 RB6 RO6 B1 K6
      have a_0 := (RA1.out).cell 0
      have b_0 := (RB1.out).cell 0
      have a_1 := (RA1.out).cell 1
      have b_1 := (RB1.out).cell 1
      have a_2 := (RA1.out).cell 2
      have b_2 := (RB1.out).cell 2
      have a_3 := (RA1.out).cell 3
      have b_3 := (RB1.out).cell 3
      have a_4 := (RA1.out).cell 4
      have b_4 := (RB1.out).cell 4
      have a_5 := (RA1.out).cell 5
      have b_5 := (RB1.out).cell 5
      simp only [List.getElem?_cons_zero, List.getElem?_cons_succ] at a_0 b_0 a_1 b_1 a_2 b_2 a_3 b_3 a_4 b_4 a_5 b_5
      go_upto_region 7 with fail
      refine to_cls ?_
      intro U2 hU2 y2
      obtain ⟨i2, hi2⟩ : ∃ b, b = y1.at.heap.size := ⟨_, rfl⟩
      obtain ⟨m2, hm2⟩ : ∃ b, b = i2 + 1 := ⟨_, rfl⟩
      have B2 := Lib.hid (show Below y1.at.heap.size y1.at y2.at from (KB.alloc (KB.alloc (Below.refl y1.at.heap.size y1.at) _) _).trans ((hU2.trans (y2.bel.mono hU2.size)).mono (by simp; omega)))
      have R21 := Lib.hid (show Row y2.at i2 [.int .i64 kk2, .int .i64 co2, .int .i64 rr2, .int .u64 aa2, .int .u64 vv2, .slice p2 n2 q2, .int .i64 kk, .int .i64 co, .int .i64 rr, .int .u64 aa, .int .u64 vv, .slice p n q] 25 from hi2 ▸ (((Row.new y1.at [.int .i64 kk2, .int .i64 co2, .int .i64 rr2, .int .u64 aa2, .int .u64 vv2, .slice p2 n2 q2, .int .i64 kk, .int .i64 co, .int .i64 rr, .int .u64 aa, .int .u64 vv, .slice p n q] _).old _).below hU2).below y2.bel)
      have R22 := Lib.hid (show Row y2.at m2 [.int .i64 4, .int .i64 0, .int .i64 0, .int .u64 0, .int .u64 0, .slice (some ⟨i2, 0, none⟩) 2 2] 25 from Row.below (Row.below (by rw [hm2, hi2]; exact Row.new' _ [.int .i64 4, .int .i64 0, .int .i64 0, .int .u64 0, .int .u64 0, .slice (some ⟨y1.at.heap.size, 0, none⟩) 2 2] _ _ (by simp)) hU2) y2.bel)
      have RA2 := Lib.hid (RA1.out.below B2.out)
      have RB2 := Lib.hid (RB1.out.below B2.out)
      have RO2 := Lib.hid (RO1.out.below B2.out)
      have R11 := Lib.hid (R11.out.below B2.out)
      have R12 := Lib.hid (R12.out.below B2.out)
      have K8 := Lib.hid (K7.out.trans (B2.out.mono K7.out.size))
      simp only [← hi2]
      simp only [← hm2]
      clear hU2 hi2 hm2 a_0 b_0 a_1 b_1 a_2 b_2 a_3 b_3 a_4 b_4 a_5 b_5 RA1 RB1 RO1 B2 K7
      have SS := Lib.hid (fun (V : World) (h : Below y2.at.heap.size y2.at V) => (show V.cell? ⟨pA, 0, none⟩ = some (.int .i64 kk) ∧ V.cell? ⟨pA, 1, none⟩ = some (.int .i64 co) ∧ V.cell? ⟨pA, 2, none⟩ = some (.int .i64 rr) ∧ V.cell? ⟨pA, 3, none⟩ = some (.int .u64 aa) ∧ V.cell? ⟨pA, 4, none⟩ = some (.int .u64 vv) ∧ V.cell? ⟨pA, 5, none⟩ = some (.slice p n q) ∧ V.cell? ⟨pB, 0, none⟩ = some (.int .i64 kk2) ∧ V.cell? ⟨pB, 1, none⟩ = some (.int .i64 co2) ∧ V.cell? ⟨pB, 2, none⟩ = some (.int .i64 rr2) ∧ V.cell? ⟨pB, 3, none⟩ = some (.int .u64 aa2) ∧ V.cell? ⟨pB, 4, none⟩ = some (.int .u64 vv2) ∧ V.cell? ⟨pB, 5, none⟩ = some (.slice p2 n2 q2) from ⟨(RA2.out.below h).cell 0, (RA2.out.below h).cell 1, (RA2.out.below h).cell 2, (RA2.out.below h).cell 3, (RA2.out.below h).cell 4, (RA2.out.below h).cell 5, (RB2.out.below h).cell 0, (RB2.out.below h).cell 1, (RB2.out.below h).cell 2, (RB2.out.below h).cell 3, (RB2.out.below h).cell 4, (RB2.out.below h).cell 5⟩))
      refine region_cut4 (fun x i j m l => (((((((x.put (some 30) (.agg #[.int .i64 kk, .int .i64 co, .int .i64 rr, .int .u64 aa, .int .u64 vv, .slice p n q])).put (some 31) (.slice (some ⟨i, 0, none⟩) 1 1)).put (some 32) (.agg #[.int .i64 6, .int .i64 0, .int .i64 0, .int .u64 0, .int .u64 0, .slice (some ⟨i, 0, none⟩) 1 1])).put (some 33) (.agg #[.int .i64 kk2, .int .i64 co2, .int .i64 rr2, .int .u64 aa2, .int .u64 vv2, .slice p2 n2 q2])).put (some 34) (.slice (some ⟨j, 0, none⟩) 1 1)).put (some 35) (.agg #[.int .i64 6, .int .i64 0, .int .i64 0, .int .u64 0, .int .u64 0, .slice (some ⟨j, 0, none⟩) 1 1])).put (some 9) (.pointer (some ⟨m, 0, none⟩))).put (some 10) (.pointer (some ⟨l, 0, none⟩))) (fun i j m l V => Row V i [.int .i64 kk, .int .i64 co, .int .i64 rr, .int .u64 aa, .int .u64 vv, .slice p n q] 25 ∧ Row V j [.int .i64 kk2, .int .i64 co2, .int .i64 rr2, .int .u64 aa2, .int .u64 vv2, .slice p2 n2 q2] 25 ∧ Row V m [.int .i64 6, .int .i64 0, .int .i64 0, .int .u64 0, .int .u64 0, .slice (some ⟨i, 0, none⟩) 1 1] 25 ∧ Row V l [.int .i64 6, .int .i64 0, .int .i64 0, .int .u64 0, .int .u64 0, .slice (some ⟨j, 0, none⟩) 1 1] 25 ∧ Below y2.at.heap.size y2.at V) ?_ ?_
      · go_region_held3 (fun V => V.cell? ⟨pA, 0, none⟩ = some (.int .i64 kk) ∧ V.cell? ⟨pA, 1, none⟩ = some (.int .i64 co) ∧ V.cell? ⟨pA, 2, none⟩ = some (.int .i64 rr) ∧ V.cell? ⟨pA, 3, none⟩ = some (.int .u64 aa) ∧ V.cell? ⟨pA, 4, none⟩ = some (.int .u64 vv) ∧ V.cell? ⟨pA, 5, none⟩ = some (.slice p n q) ∧ V.cell? ⟨pB, 0, none⟩ = some (.int .i64 kk2) ∧ V.cell? ⟨pB, 1, none⟩ = some (.int .i64 co2) ∧ V.cell? ⟨pB, 2, none⟩ = some (.int .i64 rr2) ∧ V.cell? ⟨pB, 3, none⟩ = some (.int .u64 aa2) ∧ V.cell? ⟨pB, 4, none⟩ = some (.int .u64 vv2) ∧ V.cell? ⟨pB, 5, none⟩ = some (.slice p2 n2 q2))
          (first | (refine SS.out _ ?_; repeat' (first | (with_reducible exact Below.refl _ _) | (with_reducible refine KB.alloc ?_ _) | (with_reducible refine Below.drew ?_) | (with_reducible refine KB.put ?_ (by omega) _ _))))
          (fail)
        all_goals
          refine ⟨rfl, ?_⟩
          apply Exists.intro
          apply Exists.intro
          apply Exists.intro
          apply Exists.intro
          refine ⟨rfl, ?_, ?_, ?_, ?_, ?_⟩
          · refine Row.drew ?_
            repeat' (first | exact Row.new' _ _ _ _ (by simp; done) | refine Row.old ?_ _)
          · refine Row.drew ?_
            repeat' (first | exact Row.new' _ _ _ _ (by simp; done) | refine Row.old ?_ _)
          · refine Row.drew ?_
            repeat' (first | exact Row.new' _ _ _ _ (by simp; done) | refine Row.old ?_ _)
          · refine Row.drew ?_
            repeat' (first | exact Row.new' _ _ _ _ (by simp; done) | refine Row.old ?_ _)
          · repeat' (first | (with_reducible exact Below.refl _ _) | (with_reducible refine KB.alloc ?_ _) | (with_reducible refine Below.drew ?_) | (with_reducible refine KB.put ?_ (by omega) _ _))
      · intro i3 i4 m3 m4 V hG
        obtain ⟨h31, h32, h33, h34, h35⟩ := hG
        obtain ⟨y3, rfl⟩ : ∃ y : Wb y2.at, V = y.at := ⟨⟨V, h35⟩, rfl⟩
        have R31 := Lib.hid h31
        have R32 := Lib.hid h32
        have R33 := Lib.hid h33
        have R34 := Lib.hid h34
        have RO3 := Lib.hid (RO2.out.below y3.bel)
        have R11 := Lib.hid (R11.out.below y3.bel)
        have R12 := Lib.hid (R12.out.below y3.bel)
        have R21 := Lib.hid (R21.out.below y3.bel)
        have R22 := Lib.hid (R22.out.below y3.bel)
        have K9 := Lib.hid (K8.out.trans (y3.bel.mono K8.out.size))
        clear h31 h32 h33 h34 h35 SS RA2 RB2 RO2 K8
        have s_0 := R33.out.cell 0
        have t_0 := R34.out.cell 0
        have s_1 := R33.out.cell 1
        have t_1 := R34.out.cell 1
        have s_2 := R33.out.cell 2
        have t_2 := R34.out.cell 2
        have s_3 := R33.out.cell 3
        have t_3 := R34.out.cell 3
        have s_4 := R33.out.cell 4
        have t_4 := R34.out.cell 4
        have s_5 := R33.out.cell 5
        have t_5 := R34.out.cell 5
        simp only [List.getElem?_cons_zero, List.getElem?_cons_succ] at s_0 t_0 s_1 t_1 s_2 t_2 s_3 t_3 s_4 t_4 s_5 t_5
        simp only [Act.put, List.setIfInBounds_toArray, List.set_cons_zero, List.set_cons_succ]
        go_upto_region 9 with fail
        refine to_cls ?_
        intro U4 hU4 y4
        obtain ⟨i5, hi5⟩ : ∃ b, b = y3.at.heap.size := ⟨_, rfl⟩
        obtain ⟨m5, hm5⟩ : ∃ b, b = i5 + 1 := ⟨_, rfl⟩
        have B4 := Lib.hid (show Below y3.at.heap.size y3.at y4.at from (KB.alloc (KB.alloc (Below.refl y3.at.heap.size y3.at) _) _).trans ((hU4.trans (y4.bel.mono hU4.size)).mono (by simp; omega)))
        have R51 := Lib.hid (show Row y4.at i5 [.int .i64 6, .int .i64 0, .int .i64 0, .int .u64 0, .int .u64 0, .slice (some ⟨i3, 0, none⟩) 1 1, .int .i64 6, .int .i64 0, .int .i64 0, .int .u64 0, .int .u64 0, .slice (some ⟨i4, 0, none⟩) 1 1] 25 from hi5 ▸ (((Row.new y3.at [.int .i64 6, .int .i64 0, .int .i64 0, .int .u64 0, .int .u64 0, .slice (some ⟨i3, 0, none⟩) 1 1, .int .i64 6, .int .i64 0, .int .i64 0, .int .u64 0, .int .u64 0, .slice (some ⟨i4, 0, none⟩) 1 1] _).old _).below hU4).below y4.bel)
        have R52 := Lib.hid (show Row y4.at m5 [.int .i64 5, .int .i64 0, .int .i64 0, .int .u64 0, .int .u64 0, .slice (some ⟨i5, 0, none⟩) 2 2] 25 from Row.below (Row.below (by rw [hm5, hi5]; exact Row.new' _ [.int .i64 5, .int .i64 0, .int .i64 0, .int .u64 0, .int .u64 0, .slice (some ⟨y3.at.heap.size, 0, none⟩) 2 2] _ _ (by simp)) hU4) y4.bel)
        have RO4 := Lib.hid (RO3.out.below B4.out)
        have R11 := Lib.hid (R11.out.below B4.out)
        have R12 := Lib.hid (R12.out.below B4.out)
        have R21 := Lib.hid (R21.out.below B4.out)
        have R22 := Lib.hid (R22.out.below B4.out)
        have R31 := Lib.hid (R31.out.below B4.out)
        have R32 := Lib.hid (R32.out.below B4.out)
        have K10 := Lib.hid (show Below w.heap.size w y4.at from K9.out.trans (B4.out.mono K9.out.size))
        simp only [← hi5]
        simp only [← hm5]
        have L1 := Lib.hid (show LAt y4.at [c, d] (some ⟨i1, 0, none⟩) 0 from PA.out i1 y4.at K10.out _ R11.out)
        have L2 := Lib.hid (show LAt y4.at [d, c] (some ⟨i2, 0, none⟩) 0 from PB.out i2 y4.at K10.out _ R21.out)
        have L5 := Lib.hid (show LAt y4.at [.node 6 0 0 0 0 [c], .node 6 0 0 0 0 [d]] (some ⟨i5, 0, none⟩) 0 from
          pair_at (c := .node 6 0 0 0 0 [c]) (d := .node 6 0 0 0 0 [d]) (p := some ⟨i3, 0, none⟩) (p2 := some ⟨i4, 0, none⟩) (n := 1) (q := 1) (n2 := 1) (q2 := 1) R51.out rfl (O1.out i3 y4.at K10.out _ R31.out) rfl (O2.out i4 y4.at K10.out _ R32.out))
        obtain ⟨A, hA⟩ : ∃ b, b = c.holds o := ⟨_, rfl⟩
        obtain ⟨B, hB⟩ : ∃ b, b = d.holds o := ⟨_, rfl⟩
        have H1 := Lib.hid (fun z : Wb y4.at => show Calls Tryd.prog 22 #[.agg #[.int .i64 4, .int .i64 0, .int .i64 0, .int .u64 0, .int .u64 0, .slice (some ⟨i1, 0, none⟩) 2 2], .agg #[.slice pr nr cr, .slice pf nf cf, .slice pc nc cc]] z.at fun e w' => e = .returned (.bool (A && B)) ∧ Below z.at.heap.size z.at w' from
          (HH.out (.node 4 0 0 0 0 [c, d]) i1 2 rfl z.at (K10.out.trans (z.bel.mono K10.out.size)) (L1.out.below z.bel)).mono (fun e w' h => ⟨h.1.trans (by rw [turn_and, hA, hB]), h.2⟩))
        have H2 := Lib.hid (fun z : Wb y4.at => show Calls Tryd.prog 22 #[.agg #[.int .i64 4, .int .i64 0, .int .i64 0, .int .u64 0, .int .u64 0, .slice (some ⟨i2, 0, none⟩) 2 2], .agg #[.slice pr nr cr, .slice pf nf cf, .slice pc nc cc]] z.at fun e w' => e = .returned (.bool (B && A)) ∧ Below z.at.heap.size z.at w' from
          (HH.out (.node 4 0 0 0 0 [d, c]) i2 2 rfl z.at (K10.out.trans (z.bel.mono K10.out.size)) (L2.out.below z.bel)).mono (fun e w' h => ⟨h.1.trans (by rw [turn_and, hA, hB]), h.2⟩))
        have H5 := Lib.hid (fun z : Wb y4.at => show Calls Tryd.prog 22 #[.agg #[.int .i64 5, .int .i64 0, .int .i64 0, .int .u64 0, .int .u64 0, .slice (some ⟨i5, 0, none⟩) 2 2], .agg #[.slice pr nr cr, .slice pf nf cf, .slice pc nc cc]] z.at fun e w' => e = .returned (.bool (!A || !B)) ∧ Below z.at.heap.size z.at w' from
          (HH.out (.node 5 0 0 0 0 [.node 6 0 0 0 0 [c], .node 6 0 0 0 0 [d]]) i5 2 rfl z.at (K10.out.trans (z.bel.mono K10.out.size)) (L5.out.below z.bel)).mono (fun e w' h => ⟨h.1.trans (by rw [turn_or, turn_not, turn_not, hA, hB]), h.2⟩))
        have u_0 := fun z : Wb y4.at => (R12.out.below z.bel).cell 0
        have v_0 := fun z : Wb y4.at => (R22.out.below z.bel).cell 0
        have x_0 := fun z : Wb y4.at => (R52.out.below z.bel).cell 0
        have u_1 := fun z : Wb y4.at => (R12.out.below z.bel).cell 1
        have v_1 := fun z : Wb y4.at => (R22.out.below z.bel).cell 1
        have x_1 := fun z : Wb y4.at => (R52.out.below z.bel).cell 1
        have u_2 := fun z : Wb y4.at => (R12.out.below z.bel).cell 2
        have v_2 := fun z : Wb y4.at => (R22.out.below z.bel).cell 2
        have x_2 := fun z : Wb y4.at => (R52.out.below z.bel).cell 2
        have u_3 := fun z : Wb y4.at => (R12.out.below z.bel).cell 3
        have v_3 := fun z : Wb y4.at => (R22.out.below z.bel).cell 3
        have x_3 := fun z : Wb y4.at => (R52.out.below z.bel).cell 3
        have u_4 := fun z : Wb y4.at => (R12.out.below z.bel).cell 4
        have v_4 := fun z : Wb y4.at => (R22.out.below z.bel).cell 4
        have x_4 := fun z : Wb y4.at => (R52.out.below z.bel).cell 4
        have u_5 := fun z : Wb y4.at => (R12.out.below z.bel).cell 5
        have v_5 := fun z : Wb y4.at => (R22.out.below z.bel).cell 5
        have x_5 := fun z : Wb y4.at => (R52.out.below z.bel).cell 5
        have o_0 := fun z : Wb y4.at => (RO4.out.below z.bel).cell 0
        have o_1 := fun z : Wb y4.at => (RO4.out.below z.bel).cell 1
        have o_2 := fun z : Wb y4.at => (RO4.out.below z.bel).cell 2
        simp only [List.getElem?_cons_zero, List.getElem?_cons_succ] at u_0 v_0 x_0 u_1 v_1 x_1 u_2 v_2 x_2 u_3 v_3 x_3 u_4 v_4 x_4 u_5 v_5 x_5 o_0 o_1 o_2
        clear hU4 hi5 hm5 hA hB PA PB O1 O2 HH s_0 t_0 s_1 t_1 s_2 t_2 s_3 t_3 s_4 t_4 s_5 t_5
        cases A <;> cases B
        all_goals
          refine wp_region_wb (by kernel_rfl) (by kernel_rfl) ?_
          repeat (go_big_quiet_step (fail))
          go_big_quiet_step ((go_at_call 22; exact Calls.wb (H1.out _)))
          repeat (go_big_quiet_step (fail))
          go_big_quiet_step ((go_at_call 22; exact Calls.wb (H5.out _)))
          repeat (go_big_quiet_step (fail))
          go_big_quiet_step ((go_at_call 22; exact Calls.wb (H1.out _)))
          repeat (go_big_quiet_step (fail))
          go_big_quiet_step ((go_at_call 22; exact Calls.wb (H2.out _)))
          repeat (go_big_quiet_step (fail))
          refine wpQuiet_nil ?_
          rintro _ ⟨x9, rfl⟩
          go_wp2
          go_ret
          exact ⟨rfl, K10.out.trans (x9.bel.mono K10.out.size)⟩
end Go.Proofs.YtgpngjgilcbigaaDoor
