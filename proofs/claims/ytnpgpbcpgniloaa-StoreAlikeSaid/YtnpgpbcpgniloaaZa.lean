/-
  Layer 6, the laws' example.
  Layer 6, the laws' walks: StoreMemory.
  Layer 6, the laws' walks: StoreWrites.
  Layer 6, the laws' walks: StoreTurns.
  Layer 6, the laws' walks over rows of cells.
-/
import Derived.Test.YtnpgpbcpgniloaaSv
import Derived.Test.YtnpgpbcpgniloaaSs
set_option linter.unusedSimpArgs false
set_option linter.unusedVariables false
namespace Go.Proofs.Ytnpgpbcpgniloaa
open Go.RowKit GrS

theorem own_len {w : World} {base : Nat} {e : TypeId} {K : Nat} {p : Option Addr} {n c m : Nat} {xs : List Value} (h : w.ownsRow base e K (.slice p n c) m xs) : n = m := by
  rcases own_open h with ⟨e1, h0⟩ | ⟨g, cap, e1, _⟩
  · injection e1 with a b d; omega
  · injection e1 with a b d
theorem bd_two : Bd [((8 : Int), (1 : Int)), (16, 0)] := by
  intro p hp
  simp only [List.mem_cons, List.not_mem_nil, or_false] at hp
  rcases hp with rfl | rfl <;> simp
theorem len_one {t : Option Tr} (h : RelT t [((8 : Int), (1 : Int)), (16, 0)]) (hw : WFO t) : (toLO t).length = 1 := by
  have e := cells_tree hw bd_two h
  rw [← up_len, ← e]
  decide +kernel
theorem slp_two (w : World) (T : TypeId) : SlP (w.alloc (.cells #[.int .u64 8, .int .u64 1, .int .u64 16, .int .u64 0] T)) (.slice (some ⟨w.heap.size, 0, none⟩) 2 2) [((8 : Int), (1 : Int)), (16, 0)] := by
  refine ⟨rfl, .inr ⟨⟨w.heap.size, 0, none⟩, 2, rfl, by simp, by unfold maxLen; simp, fun j u h => ?_⟩⟩
  match j, h with
  | 0, h => simp [cellsL] at h; subst h; simp [Addr.add, World.cell?_alloc_new]
  | 1, h => simp [cellsL] at h; subst h; simp [Addr.add, World.cell?_alloc_new]
  | 2, h => simp [cellsL] at h; subst h; simp [Addr.add, World.cell?_alloc_new]
  | 3, h => simp [cellsL] at h; subst h; simp [Addr.add, World.cell?_alloc_new]
  | j + 4, h => simp [cellsL] at h
theorem of_two (w : World) (T : TypeId) :
    Calls Try.prog 19 #[.slice (some ⟨w.heap.size, 0, none⟩) 2 2] (w.alloc (.cells #[.int .u64 8, .int .u64 1, .int .u64 16, .int .u64 0] T)) fun e w' => ∃ p t, e = .returned (.tuple #[.agg #[.pointer p, .int .i64 1], .int .i64 0]) ∧ Below w.heap.size w w' ∧ MAt w' p 1 t ∧ RelT t [((8 : Int), (1 : Int)), (16, 0)] := by
  refine (ofS_any _ _ _ (slp_two w T) bd_two (by simp)).mono ?_
  rintro e w1 ⟨p, m, t, rfl, g, ma, _, rt⟩
  have e0 : ofC [((8 : Int), (1 : Int)), (16, 0)] [((8 : Int), (1 : Int)), (16, 0)].length = 0 := by decide +kernel
  have ef : fin [((8 : Int), (1 : Int)), (16, 0)] = [((8 : Int), (1 : Int)), (16, 0)] := fin_ok e0
  rw [ef] at rt
  obtain rfl : m = 1 := by rw [ma.n, len_one rt ma.wf]; rfl
  exact ⟨p, t, by rw [e0], ((Below.refl _ _).alloc (Nat.le_refl _) _).trans (g.mono (by simp)), ma, rt⟩
theorem write_bad (p : Option Addr) (n : Int) (t : Option Tr) (a v c : Int) (w : World) (h : MAt w p n t) (a0 : 0 ≤ a) (a1 : a < 18446744073709551616) (hn : n ≤ 1000) (e : codeA a = c) (hc : c ≠ 0) :
    Calls Try.prog 28 #[.agg #[.pointer p, .int .i64 n], .int .u64 a, .int .u64 v] w fun e w' => ∃ p2 n2, e = .returned (.tuple #[.agg #[.pointer p2, .int .i64 n2], .int .i64 c]) ∧ Below w.heap.size w w' := by
  refine (Write_any p n t a v w h a0 a1 hn).mono ?_
  rintro e2 w1 ⟨p2, n2, rfl, g, _⟩
  have ea : (a.toNat : Int) = a := by omega
  exact ⟨p2, n2, by unfold wrM; rw [ea, if_neg (by rw [e]; exact hc), e], g⟩

set_option maxRecDepth 100000 in
set_option maxHeartbeats 6400000 in
theorem awake6_any (w : World) : Calls Try.prog 18 #[] w fun e w' => e = .returned (.bool true) ∧ Below w.heap.size w w' := by
  go_enter Try.func18, Try.ntmps18
  go_wp2_with fail
  refine (of_two w _).mono ?_
  rintro e w1 ⟨p, t, rfl, g, ma, rt⟩
  obtain ⟨x0, rfl⟩ := Wb.start g
  clear g
  have MA := Lib.hid (fun (U : World) (k : Below x0.at.heap.size x0.at U) => ma.below k)
  have RT := Lib.hid rt
  have KK := Lib.hid (KB.at (Below.refl w.heap.size w))
  clear ma rt
  go_upto_region 2 with fail
  refine to_cls ?_
  intro U0 hU0 z0
  have r_m : ∀ z : Wb U0, Row z.at (x0.at.heap.size) [.pointer p, .int .i64 1] 38 := Row.next (Row.new _ [.pointer p, .int .i64 1] _) hU0
  have KK := Lib.hid (KB.next (KB.alloc (KK.out x0) _) hU0)
  have MB := Lib.hid (fun z : Wb U0 => MAt.below (MAt.below (MA.out _ (KB.alloc (Below.refl _ _) _ : Below x0.at.heap.size x0.at _)) hU0) z.bel)
  clear hU0
  have c_m_0 : ∀ z : Wb U0, z.at.cell? ⟨x0.at.heap.size, 0, none⟩ = some (.pointer p) := fun z => (r_m z).cell 0
  have c_m_1 : ∀ z : Wb U0, z.at.cell? ⟨x0.at.heap.size, 1, none⟩ = some (.int .i64 1) := fun z => (r_m z).cell 1
  obtain ⟨mA, hmA⟩ : ∃ b, b = x0.at.heap.size := ⟨_, rfl⟩
  rw [← hmA] at r_m c_m_0 c_m_1
  simp only [← hmA]
  clear hmA
  go_wp2_with fail
  refine (write_bad p 1 t 4 1 60 z0.at (MB.out z0) (by omega) (by omega) (by omega) (by decide +kernel) (by omega)).mono ?_
  rintro e w1 ⟨p2, m2, rfl, g⟩
  obtain ⟨z1, rfl⟩ := Wb.next (x := z0) g
  clear g
  go_upto_region 3 with fail
  refine to_cls ?_
  intro U2 hU2 z2
  clear c_m_0 c_m_1
  have r_m : ∀ z : Wb U2, Row z.at (mA) [.pointer p, .int .i64 1] 38 := Row.next ((r_m z1).old _) hU2
  have r_n : ∀ z : Wb U2, Row z.at (z1.at.heap.size) [.pointer p2, .int .i64 m2] 38 := Row.next (Row.new _ [.pointer p2, .int .i64 m2] _) hU2
  have KK := Lib.hid (KB.next (KB.alloc (KK.out z1) _) hU2)
  have MB := Lib.hid (fun z : Wb U2 => MAt.below (MAt.below ((MB.out z1).below (KB.alloc (Below.refl _ _) _ : Below z1.at.heap.size z1.at _)) hU2) z.bel)
  clear hU2
  have c_m_0 : ∀ z : Wb U2, z.at.cell? ⟨mA, 0, none⟩ = some (.pointer p) := fun z => (r_m z).cell 0
  have c_m_1 : ∀ z : Wb U2, z.at.cell? ⟨mA, 1, none⟩ = some (.int .i64 1) := fun z => (r_m z).cell 1
  have c_n_0 : ∀ z : Wb U2, z.at.cell? ⟨z1.at.heap.size, 0, none⟩ = some (.pointer p2) := fun z => (r_n z).cell 0
  have c_n_1 : ∀ z : Wb U2, z.at.cell? ⟨z1.at.heap.size, 1, none⟩ = some (.int .i64 m2) := fun z => (r_n z).cell 1
  obtain ⟨nA, hnA⟩ : ∃ b, b = z1.at.heap.size := ⟨_, rfl⟩
  rw [← hnA] at r_n c_n_0 c_n_1
  simp only [← hnA]
  clear hnA
  go_wp2_with fail
  refine (memcells_any p 1 t z2.at (MB.out z2) (by omega)).mono ?_
  rintro e w1 ⟨v, rfl, ow, g⟩
  obtain ⟨z3, rfl⟩ := Wb.next (x := z2) g
  clear g
  rw [len_one RT.out (MB.out z2).wf] at ow
  obtain ⟨pv, nv, cv, rfl⟩ := SlAt.form (SlAt.own ow)
  obtain rfl : nv = 1 := own_len ow
  clear ow
  go_wp2_with fail
  refine (RT.out.reads (MB.out z3) 8 (by omega) (by omega) _ (Below.refl _ _)).mono ?_
  rintro e w1 ⟨rfl, g⟩
  obtain ⟨z4, rfl⟩ := Wb.next (x := z3) g
  clear g
  have r8 : readL [((8 : Int), (1 : Int)), (16, 0)] 8 = 1 := by decide +kernel
  simp only [r8]
  go_wp2
  go_ret
  exact ⟨by first | rfl | simp, KK.out z4⟩
end Go.Proofs.Ytnpgpbcpgniloaa

namespace Go.Proofs.Ytnpgpbcpgniloaa
open Go.RowKit GrS

set_option maxRecDepth 100000 in
set_option maxHeartbeats 12800000 in
theorem StoreMemory_walk (v : Value) (L : List (Int × Int)) (a : Int) (w : World) (h : SlP w v L) (hb : Bd L) (a0 : 0 ≤ a) (a1 : a < 18446744073709551616) :
    Calls Try.prog 4 #[v, .int .u64 a] w fun e w' => e = .returned (.bool true) ∧ Below w.heap.size w w' := by
  obtain ⟨pv, n, cv, rfl⟩ := SlAt.form h
  have HN := Lib.hid h.len
  have AW := Lib.hid (fun w => awake6_any w)
  have HS := Lib.hid h
  have HB := Lib.hid hb
  have FL := Lib.hid (show (fin L).length = if ofC L L.length = 0 then L.length else 0 by unfold fin; split <;> rfl)
  clear h hb
  have HA := Lib.hid (show 0 ≤ a ∧ a < 18446744073709551616 from ⟨a0, a1⟩)
  clear a0 a1
  go_enter Try.func4, Try.ntmps4
  go_upto_region 1 with fail
  refine to_cls ?_
  intro U0 hU0 z0
  have KK := Lib.hid (KB.next (Below.refl _ _) hU0)
  clear hU0
  go_wp2_with fail
  refine (AW.out _).mono ?_
  rintro e w1 ⟨rfl, g⟩
  obtain ⟨z1, rfl⟩ := Wb.next (x := z0) g
  clear g
  by_cases c3 : n ≤ 300
  · have d3 : decide (300 < (n : Int)) = false := by simp; omega
    go_wp2_with fail
    refine (ofS_any _ L z1.at (HS.out.below (KK.out z1)) HB.out (by have := HN.out; omega)).mono ?_
    rintro e w1 ⟨p, m, t, rfl, g, ma, m2, rt⟩
    obtain ⟨z2, rfl⟩ := Wb.next (x := z1) g
    have M2 := Lib.hid m2
    have RT := Lib.hid rt
    have m3 := m2
    have MA := Lib.hid (ma)
    clear g ma m2 rt
    go_upto_region 6 with fail
    refine to_cls ?_
    intro U3 hU3 z3
    have r_m : ∀ z : Wb U3, Row z.at (z2.at.heap.size) [.pointer p, .int .i64 m] 38 := Row.next (Row.new _ [.pointer p, .int .i64 m] _) hU3
    have MA := Lib.hid (fun z : Wb U3 => MAt.below (MAt.below (MAt.below MA.out (KB.alloc (Below.refl _ _) _ : Below z2.at.heap.size z2.at _)) hU3) z.bel)
    have KK := Lib.hid (KB.next (KB.alloc (KK.out z2) _) hU3)
    clear hU3
    have c_m_0 : ∀ z : Wb U3, z.at.cell? ⟨z2.at.heap.size, 0, none⟩ = some (.pointer p) := fun z => (r_m z).cell 0
    have c_m_1 : ∀ z : Wb U3, z.at.cell? ⟨z2.at.heap.size, 1, none⟩ = some (.int .i64 m) := fun z => (r_m z).cell 1
    obtain ⟨mA, hmA⟩ : ∃ b, b = z2.at.heap.size := ⟨_, rfl⟩
    rw [← hmA] at r_m c_m_0 c_m_1
    simp only [← hmA]
    clear hmA
    go_wp2_with fail
    refine (rofS_any _ L z3.at (HS.out.below (KK.out z3)) HB.out (by have := HN.out; omega)).mono ?_
    rintro e w1 ⟨v2, rfl, g, s2⟩
    obtain ⟨z4, rfl⟩ := Wb.next (x := z3) g
    have S2 := Lib.hid (s2)
    clear g s2
    obtain ⟨C, hC⟩ : ∃ C, C = ofC L L.length := ⟨_, rfl⟩
    simp only [← hC]
    have cc : (C != C) = false := by simp
    clear hC
    go_wp2_with fail
    refine (check_any a _ HA.out.1 HA.out.2).mono ?_
    rintro e w1 ⟨rfl, rfl⟩
    go_wp2_with fail
    refine (rcheck_any a _ HA.out.1 HA.out.2).mono ?_
    rintro e w1 ⟨rfl, rfl⟩
    obtain ⟨D, hD⟩ : ∃ D, D = codeA a := ⟨_, rfl⟩
    simp only [← hD]
    have dd : (D != D) = false := by simp
    clear hD
    go_wp2_with fail
    refine (memcells_any p m t z4.at (MA.out z4) (by omega)).mono ?_
    rintro e w1 ⟨v3, rfl, ow, g⟩
    obtain ⟨z5, rfl⟩ := Wb.next (x := z4) g
    have S2 := Lib.hid (SlAt.below S2.out g)
    have S3 := Lib.hid (show SlP _ v3 (up (toLO t)) by have := SlAt.own ow; rw [show (toLO t).length = (up (toLO t)).length by rw [up_len]] at this; exact this)
    clear g ow
    go_wp2_with fail
    refine (rcells_any v2 (fin L) z5.at S2.out (by rw [FL.out]; have := HN.out; split <;> simp <;> omega)).mono ?_
    rintro e w1 ⟨v4, rfl, g, ow⟩
    obtain ⟨z6, rfl⟩ := Wb.next (x := z5) g
    have S2 := Lib.hid (SlAt.below S2.out g)
    have S3 := Lib.hid (SlAt.below S3.out g)
    have S4 := Lib.hid (show SlP _ v4 (cellsTo (fin L) (fin L).length) from SlAt.own ow)
    clear g ow
    go_wp2_with fail
    refine (rsame_any v3 v4 _ _ z6.at S3.out S4.out (by rw [up_len]; have := (MA.out z6).n; omega)).mono ?_
    rintro e w1 ⟨rfl, g⟩
    obtain ⟨z7, rfl⟩ := Wb.next (x := z6) g
    have S2 := Lib.hid (SlAt.below S2.out g)
    have S3 := Lib.hid (SlAt.below S3.out g)
    have S4 := Lib.hid (SlAt.below S4.out g)
    clear g
    have EQ : decide (up (toLO t) = cellsTo (fin L) (fin L).length) = true := decide_eq_true (cells_tree (MA.out z7).wf (Bd.fin HB.out) RT.out).symm
    simp only [EQ]
    clear EQ
    go_wp2_with fail
    refine (RT.out.reads (MA.out z7) a HA.out.1 HA.out.2 _ (Below.refl _ _)).mono ?_
    rintro e w1 ⟨rfl, g⟩
    obtain ⟨z8, rfl⟩ := Wb.next (x := z7) g
    have S2 := Lib.hid (SlAt.below S2.out g)
    have S3 := Lib.hid (SlAt.below S3.out g)
    have S4 := Lib.hid (SlAt.below S4.out g)
    clear g
    go_wp2_with fail
    refine (rread_any v2 (fin L) a z8.at S2.out (by rw [FL.out]; have := HN.out; split <;> simp <;> omega)).mono ?_
    rintro e w1 ⟨rfl, g⟩
    obtain ⟨z9, rfl⟩ := Wb.next (x := z8) g
    have S2 := Lib.hid (SlAt.below S2.out g)
    have S3 := Lib.hid (SlAt.below S3.out g)
    have S4 := Lib.hid (SlAt.below S4.out g)
    clear g
    go_wp2
    go_ret
    exact ⟨by first | rfl | simp, KK.out z9⟩
  · have d3 : decide (300 < (n : Int)) = true := by simp; omega
    go_wp2
    go_ret
    exact ⟨by first | rfl | simp, KK.out z1⟩
end Go.Proofs.Ytnpgpbcpgniloaa

namespace Go.Proofs.Ytnpgpbcpgniloaa
open Go.RowKit GrS

theorem wr_both {t : Option Tr} {L : List (Int × Int)} {a v : Int} (h : RelT t L) (hw : WFO t) (hb : Bd L) (a0 : 0 ≤ a) (a1 : a < 18446744073709551616) (v0 : 0 ≤ v) (v1 : v < 18446744073709551616) (hl : (toLO t).length ≤ 256) :
    (wrM t a.toNat v).2 = (wrL L a v).2 ∧ RelT (wrM t a.toNat v).1 (wrL L a v).1 ∧ Bd (wrL L a v).1 ∧ (wrL L a v).1.length ≤ L.length + 1 ∧ (toLO (wrM t a.toNat v).1).length ≤ 256 := by
  obtain ⟨e1, e2, e3⟩ := wr_code h hw hb a0 a1 v0 v1 hl
  refine ⟨e1, ?_⟩
  by_cases c : (wrM t a.toNat v).2 = 0
  · obtain ⟨r1, r2⟩ := wrM_rel h hw a0 a1 hl c
    rw [e2 c]
    refine ⟨r1, fun p hp => ?_, by simp, r2⟩
    rcases List.mem_append.1 hp with hp | hp
    · exact hb p hp
    · rw [List.mem_singleton] at hp; subst hp; exact ⟨⟨a0, a1⟩, v0, v1⟩
  · obtain ⟨r1, r2⟩ := e3 c
    rw [r1, r2]
    exact ⟨h, hb, by omega, hl⟩

set_option maxRecDepth 100000 in
set_option maxHeartbeats 12800000 in
theorem StoreWrites_walk (v : Value) (L : List (Int × Int)) (a x : Int) (w : World) (h : SlP w v L) (hb : Bd L) (a0 : 0 ≤ a) (a1 : a < 18446744073709551616) (x0 : 0 ≤ x) (x1 : x < 18446744073709551616) :
    Calls Try.prog 5 #[v, .int .u64 a, .int .u64 x] w fun e w' => e = .returned (.bool true) ∧ Below w.heap.size w w' := by
  obtain ⟨pv, n, cv, rfl⟩ := SlAt.form h
  have HN := Lib.hid h.len
  have AW := Lib.hid (fun w => awake6_any w)
  have HS := Lib.hid h
  have HB := Lib.hid hb
  have FL := Lib.hid (show (fin L).length = if ofC L L.length = 0 then L.length else 0 by unfold fin; split <;> rfl)
  clear h hb
  have HA := Lib.hid (show 0 ≤ a ∧ a < 18446744073709551616 from ⟨a0, a1⟩)
  have HX := Lib.hid (show 0 ≤ x ∧ x < 18446744073709551616 from ⟨x0, x1⟩)
  clear a0 a1 x0 x1
  go_enter Try.func5, Try.ntmps5
  go_upto_region 1 with fail
  refine to_cls ?_
  intro U0 hU0 z0
  have KK := Lib.hid (KB.next (Below.refl _ _) hU0)
  clear hU0
  go_wp2_with fail
  refine (AW.out _).mono ?_
  rintro e w1 ⟨rfl, g⟩
  obtain ⟨z1, rfl⟩ := Wb.next (x := z0) g
  clear g
  by_cases c3 : n ≤ 300
  · have d3 : decide (300 < (n : Int)) = false := by simp; omega
    go_wp2_with fail
    refine (ofS_any _ L z1.at (HS.out.below (KK.out z1)) HB.out (by have := HN.out; omega)).mono ?_
    rintro e w1 ⟨p, m, t, rfl, g, ma, m2, rt⟩
    obtain ⟨z2, rfl⟩ := Wb.next (x := z1) g
    have M2 := Lib.hid m2
    have RT := Lib.hid rt
    have m3 := m2
    have MA := Lib.hid (ma)
    clear g ma m2 rt
    go_upto_region 6 with fail
    refine to_cls ?_
    intro U3 hU3 z3
    have r_m : ∀ z : Wb U3, Row z.at (z2.at.heap.size) [.pointer p, .int .i64 m] 38 := Row.next (Row.new _ [.pointer p, .int .i64 m] _) hU3
    have MA := Lib.hid (fun z : Wb U3 => MAt.below (MAt.below (MAt.below MA.out (KB.alloc (Below.refl _ _) _ : Below z2.at.heap.size z2.at _)) hU3) z.bel)
    have KK := Lib.hid (KB.next (KB.alloc (KK.out z2) _) hU3)
    clear hU3
    have c_m_0 : ∀ z : Wb U3, z.at.cell? ⟨z2.at.heap.size, 0, none⟩ = some (.pointer p) := fun z => (r_m z).cell 0
    have c_m_1 : ∀ z : Wb U3, z.at.cell? ⟨z2.at.heap.size, 1, none⟩ = some (.int .i64 m) := fun z => (r_m z).cell 1
    obtain ⟨mA, hmA⟩ : ∃ b, b = z2.at.heap.size := ⟨_, rfl⟩
    rw [← hmA] at r_m c_m_0 c_m_1
    simp only [← hmA]
    clear hmA
    go_wp2_with fail
    refine (rofS_any _ L z3.at (HS.out.below (KK.out z3)) HB.out (by have := HN.out; omega)).mono ?_
    rintro e w1 ⟨v2, rfl, g, s2⟩
    obtain ⟨z4, rfl⟩ := Wb.next (x := z3) g
    have S2 := Lib.hid (s2)
    clear g s2
    have FO := Lib.hid (fun h : ofC L L.length = 0 => fin_ok h)
    obtain ⟨C, hC⟩ : ∃ C, C = ofC L L.length := ⟨_, rfl⟩
    rw [← hC] at FO
    simp only [← hC]
    have cc : (C != C) = false := by simp
    have ce : (C == C) = true := by simp
    clear hC
    by_cases c0 : C = 0
    · have fl := FO.out c0
      subst c0
      rw [fl] at S2 RT
      clear fl cc ce
      have WB := Lib.hid (wr_both (a := a) (v := x) RT.out (MA.out z4).wf HB.out HA.out.1 HA.out.2 HX.out.1 HX.out.2 (by have := (MA.out z4).n; have := M2.out; omega))
      go_wp2_with fail
      refine (Write_any p m t a x z4.at (MA.out z4) HA.out.1 HA.out.2 (by omega)).mono ?_
      rintro e w1 ⟨p2, m5, rfl, g, mb⟩
      obtain ⟨z5, rfl⟩ := Wb.next (x := z4) g
      have S2 := Lib.hid (SlAt.below S2.out g)
      have M5 := Lib.hid (mb)
      clear g mb
      obtain ⟨c1, hc1⟩ : ∃ c, c = (wrM t a.toNat x).2 := ⟨_, rfl⟩
      obtain ⟨t5, ht5⟩ : ∃ c, c = (wrM t a.toNat x).1 := ⟨_, rfl⟩
      rw [← hc1, ← ht5] at WB
      rw [← ht5] at M5
      simp only [← hc1]
      clear hc1 ht5
      go_upto_region 10 with fail
      refine to_cls ?_
      intro U6 hU6 z6
      clear c_m_0 c_m_1
      have r_m : ∀ z : Wb U6, Row z.at (mA) [.pointer p, .int .i64 m] 38 := Row.next ((r_m z5).old _) hU6
      have r_n : ∀ z : Wb U6, Row z.at (z5.at.heap.size) [.pointer p2, .int .i64 m5] 38 := Row.next (Row.new _ [.pointer p2, .int .i64 m5] _) hU6
      have MA := Lib.hid (fun z : Wb U6 => MAt.below (MAt.below (MAt.below (MA.out z5) (KB.alloc (Below.refl _ _) _ : Below z5.at.heap.size z5.at _)) hU6) z.bel)
      have S2 := Lib.hid (fun z : Wb U6 => SlAt.below (SlAt.below (SlAt.below S2.out (KB.alloc (Below.refl _ _) _ : Below z5.at.heap.size z5.at _)) hU6) z.bel)
      have M5 := Lib.hid (fun z : Wb U6 => MAt.below (MAt.below (MAt.below M5.out (KB.alloc (Below.refl _ _) _ : Below z5.at.heap.size z5.at _)) hU6) z.bel)
      have KK := Lib.hid (KB.next (KB.alloc (KK.out z5) _) hU6)
      clear hU6
      have c_m_0 : ∀ z : Wb U6, z.at.cell? ⟨mA, 0, none⟩ = some (.pointer p) := fun z => (r_m z).cell 0
      have c_m_1 : ∀ z : Wb U6, z.at.cell? ⟨mA, 1, none⟩ = some (.int .i64 m) := fun z => (r_m z).cell 1
      have c_n_0 : ∀ z : Wb U6, z.at.cell? ⟨z5.at.heap.size, 0, none⟩ = some (.pointer p2) := fun z => (r_n z).cell 0
      have c_n_1 : ∀ z : Wb U6, z.at.cell? ⟨z5.at.heap.size, 1, none⟩ = some (.int .i64 m5) := fun z => (r_n z).cell 1
      obtain ⟨nA, hnA⟩ : ∃ b, b = z5.at.heap.size := ⟨_, rfl⟩
      rw [← hnA] at r_n c_n_0 c_n_1
      simp only [← hnA]
      clear hnA
      go_wp2_with fail
      refine (rwrite_any v2 L a x z6.at (S2.out z6) HA.out.1 HA.out.2 (by have := HN.out; omega)).mono ?_
      rintro e w1 ⟨v5, rfl, g, s5⟩
      obtain ⟨z7, rfl⟩ := Wb.next (x := z6) g
      have S5 := Lib.hid (s5)
      clear g s5
      obtain ⟨c2, hc2⟩ : ∃ c, c = (wrL L a x).2 := ⟨_, rfl⟩
      obtain ⟨L5, hL5⟩ : ∃ c, c = (wrL L a x).1 := ⟨_, rfl⟩
      rw [← hc2, ← hL5] at WB
      rw [← hL5] at S5
      simp only [← hc2]
      clear hc2 hL5
      obtain rfl : c1 = c2 := WB.out.1
      have e1 : (c1 == c1) = true := by simp
      go_wp2_with fail
      refine (memcells_any p2 m5 t5 z7.at (M5.out z7) (by have := (M5.out z7).n; have := WB.out.2.2.2.2; omega)).mono ?_
      rintro e w1 ⟨v3, rfl, ow, g⟩
      obtain ⟨z8, rfl⟩ := Wb.next (x := z7) g
      have S5 := Lib.hid (SlAt.below S5.out g)
      have S3 := Lib.hid (show SlP _ v3 (up (toLO t5)) by have := SlAt.own ow; rw [show (toLO t5).length = (up (toLO t5)).length by rw [up_len]] at this; exact this)
      clear g ow
      go_wp2_with fail
      refine (rcells_any v5 L5 z8.at S5.out (by have := HN.out; have := WB.out.2.2.2.1; omega)).mono ?_
      rintro e w1 ⟨v4, rfl, g, ow⟩
      obtain ⟨z9, rfl⟩ := Wb.next (x := z8) g
      have S5 := Lib.hid (SlAt.below S5.out g)
      have S3 := Lib.hid (SlAt.below S3.out g)
      have S4 := Lib.hid (show SlP _ v4 (cellsTo L5 L5.length) from SlAt.own ow)
      clear g ow
      go_wp2_with fail
      refine (rsame_any v3 v4 _ _ z9.at S3.out S4.out (by rw [up_len]; have := WB.out.2.2.2.2; omega)).mono ?_
      rintro e w1 ⟨rfl, g⟩
      obtain ⟨z10, rfl⟩ := Wb.next (x := z9) g
      have S5 := Lib.hid (SlAt.below S5.out g)
      have S3 := Lib.hid (SlAt.below S3.out g)
      have S4 := Lib.hid (SlAt.below S4.out g)
      clear g
      have EQ : decide (up (toLO t5) = cellsTo L5 L5.length) = true := decide_eq_true (cells_tree (M5.out z10).wf WB.out.2.2.1 WB.out.2.1).symm
      simp only [EQ]
      clear EQ
      go_wp2_with fail
      refine (memcells_any p m t z10.at (MA.out z10) (by omega)).mono ?_
      rintro e w1 ⟨v6, rfl, ow, g⟩
      obtain ⟨z11, rfl⟩ := Wb.next (x := z10) g
      have S5 := Lib.hid (SlAt.below S5.out g)
      have S3 := Lib.hid (SlAt.below S3.out g)
      have S4 := Lib.hid (SlAt.below S4.out g)
      have S6 := Lib.hid (show SlP _ v6 (up (toLO t)) by have := SlAt.own ow; rw [show (toLO t).length = (up (toLO t)).length by rw [up_len]] at this; exact this)
      clear g ow
      go_wp2_with fail
      refine (rcells_any v2 L z11.at (S2.out z11) (by have := HN.out; omega)).mono ?_
      rintro e w1 ⟨v7, rfl, g, ow⟩
      obtain ⟨z12, rfl⟩ := Wb.next (x := z11) g
      have S5 := Lib.hid (SlAt.below S5.out g)
      have S3 := Lib.hid (SlAt.below S3.out g)
      have S4 := Lib.hid (SlAt.below S4.out g)
      have S6 := Lib.hid (SlAt.below S6.out g)
      have S7 := Lib.hid (show SlP _ v7 (cellsTo L L.length) from SlAt.own ow)
      clear g ow
      go_wp2_with fail
      refine (rsame_any v6 v7 _ _ z12.at S6.out S7.out (by rw [up_len]; have := (MA.out z12).n; omega)).mono ?_
      rintro e w1 ⟨rfl, g⟩
      obtain ⟨z13, rfl⟩ := Wb.next (x := z12) g
      have S5 := Lib.hid (SlAt.below S5.out g)
      have S3 := Lib.hid (SlAt.below S3.out g)
      have S4 := Lib.hid (SlAt.below S4.out g)
      have S6 := Lib.hid (SlAt.below S6.out g)
      have S7 := Lib.hid (SlAt.below S7.out g)
      clear g
      have EQ : decide (up (toLO t) = cellsTo L L.length) = true := decide_eq_true (cells_tree (MA.out z13).wf HB.out RT.out).symm
      simp only [EQ]
      clear EQ
      go_wp2
      go_ret
      exact ⟨by first | rfl | simp, KK.out z13⟩
    · have cb : (C != 0) = true := by simpa using c0
      clear c0
      go_wp2
      go_ret
      exact ⟨by first | rfl | simp, KK.out z4⟩
  · have d3 : decide (300 < (n : Int)) = true := by simp; omega
    go_wp2
    go_ret
    exact ⟨by first | rfl | simp, KK.out z1⟩
end Go.Proofs.Ytnpgpbcpgniloaa

namespace Go.Proofs.Ytnpgpbcpgniloaa
open Go.RowKit GrS

theorem wrM_len {t : Option Tr} {a v : Int} (hl : (toLO t).length ≤ 256) (a0 : 0 ≤ a) (hw : WFO t) : (toLO (wrM t a.toNat v).1).length ≤ 256 := by
  unfold wrM
  split
  · split
    · have := (delO_ok (t := t) (k := a.toNat) hw).2.2
      show (toLO (delO t a.toNat)).length ≤ 256
      omega
    · split
      · exact hl
      · rename_i c
        show (insO t a.toNat v).toL.length ≤ 256
        omega
  · exact hl
theorem rel_same {t s : Option Tr} {L M : List (Int × Int)} (ht : WFO t) (hs : WFO s) (h : RelT t L) (k : RelT s M) (e : ∀ x : Nat, readL L (x : Int) = readL M (x : Int)) : up (toLO t) = up (toLO s) := by
  congr 1
  have r : ∀ {t : Option Tr}, WFO t → Rises (toLO t) := fun {t} h => by
    cases t with
    | none => exact List.Pairwise.nil
    | some t => exact rises h
  have l : ∀ {t : Option Tr}, WFO t → ∀ x, assoc (toLO t) x = lookO t x := fun {t} h x => by
    cases t with
    | none => rfl
    | some t => exact (look_toL h x).symm
  refine rises_eq (r ht) (r hs) fun x => ?_
  rw [l ht, l hs, h x, k x, e x]
theorem wrM_wf {t : Option Tr} {a v : Int} (hw : WFO t) (a1 : a < 18446744073709551616) : WFO (wrM t a.toNat v).1 := by
  unfold wrM
  split
  · split
    · exact (delO_ok hw).1
    · split
      · exact hw
      · exact (insO_ok hw (by omega)).1
  · exact hw
theorem turns_eq {t t1 t2 t4 t5 : Option Tr} {L : List (Int × Int)} {a x b y : Int} (h : RelT t L) (hw : WFO t) (hl : (toLO t).length ≤ 256) (ha : 0 ≤ a ∧ a < 18446744073709551616) (hx : 0 ≤ x ∧ x < 18446744073709551616) (hb : 0 ≤ b ∧ b < 18446744073709551616) (hy : 0 ≤ y ∧ y < 18446744073709551616) (ne : ¬ a = b)
    (e1 : (0 : Int) = (wrM t a.toNat x).2) (f1 : t1 = (wrM t a.toNat x).1) (e2 : (0 : Int) = (wrM t1 b.toNat y).2) (f2 : t2 = (wrM t1 b.toNat y).1) (e4 : (0 : Int) = (wrM t b.toNat y).2) (f4 : t4 = (wrM t b.toNat y).1) (e5 : (0 : Int) = (wrM t4 a.toNat x).2) (f5 : t5 = (wrM t4 a.toNat x).1) :
    up (toLO t2) = up (toLO t5) := by
  obtain ⟨r1, l1⟩ := wrM_rel h hw ha.1 ha.2 hl e1.symm
  have w1 := wrM_wf (t := t) (a := a) (v := x) hw ha.2
  rw [← f1] at r1 l1 w1
  obtain ⟨r2, l2⟩ := wrM_rel r1 w1 hb.1 hb.2 l1 e2.symm
  have w2 := wrM_wf (t := t1) (a := b) (v := y) w1 hb.2
  rw [← f2] at r2 l2 w2
  obtain ⟨r4, l4⟩ := wrM_rel h hw hb.1 hb.2 hl e4.symm
  have w4 := wrM_wf (t := t) (a := b) (v := y) hw hb.2
  rw [← f4] at r4 l4 w4
  obtain ⟨r5, l5⟩ := wrM_rel r4 w4 ha.1 ha.2 l4 e5.symm
  have w5 := wrM_wf (t := t4) (a := a) (v := x) w4 ha.2
  rw [← f5] at r5 l5 w5
  refine rel_same w2 w5 r2 r5 fun z => ?_
  rw [readL_app, readL_app, readL_app, readL_app]
  by_cases p : a = (z : Int)
  · by_cases q : b = (z : Int)
    · exact absurd (p.trans q.symm) ne
    · rw [if_neg q, if_pos p, if_pos p]
  · by_cases q : b = (z : Int)
    · rw [if_pos q, if_neg p, if_pos q]
    · rw [if_neg q, if_neg p, if_neg p, if_neg q]

set_option maxRecDepth 100000 in
set_option maxHeartbeats 25600000 in
theorem StoreTurns_walk (v : Value) (L : List (Int × Int)) (a x b y : Int) (w : World) (h : SlP w v L) (hb : Bd L) (a0 : 0 ≤ a) (a1 : a < 18446744073709551616) (x0 : 0 ≤ x) (x1 : x < 18446744073709551616) (b0 : 0 ≤ b) (b1 : b < 18446744073709551616) (y0 : 0 ≤ y) (y1 : y < 18446744073709551616) :
    Calls Try.prog 7 #[v, .agg #[.int .u64 a, .int .u64 x], .agg #[.int .u64 b, .int .u64 y]] w fun e w' => e = .returned (.bool true) ∧ Below w.heap.size w w' := by
  obtain ⟨pv, n, cv, rfl⟩ := SlAt.form h
  have HN := Lib.hid h.len
  have AW := Lib.hid (fun w => awake6_any w)
  have HS := Lib.hid h
  have HB := Lib.hid hb
  have FL := Lib.hid (show (fin L).length = if ofC L L.length = 0 then L.length else 0 by unfold fin; split <;> rfl)
  clear h hb
  have HA := Lib.hid (show 0 ≤ a ∧ a < 18446744073709551616 from ⟨a0, a1⟩)
  have HX := Lib.hid (show 0 ≤ x ∧ x < 18446744073709551616 from ⟨x0, x1⟩)
  have HP := Lib.hid (show 0 ≤ b ∧ b < 18446744073709551616 from ⟨b0, b1⟩)
  have HY := Lib.hid (show 0 ≤ y ∧ y < 18446744073709551616 from ⟨y0, y1⟩)
  clear a0 a1 x0 x1 b0 b1 y0 y1
  go_enter Try.func7, Try.ntmps7
  go_upto_region 1 with fail
  refine to_cls ?_
  intro U0 hU0 z0
  have r_a : ∀ z : Wb U0, Row z.at (w.heap.size) [.int .u64 a, .int .u64 x] 64 := Row.next (Row.old (Row.new' _ [.int .u64 a, .int .u64 x] _ _ (by simp)) _) hU0
  have r_b : ∀ z : Wb U0, Row z.at (w.heap.size + 1) [.int .u64 b, .int .u64 y] 64 := Row.next (Row.new' _ [.int .u64 b, .int .u64 y] _ _ (by simp)) hU0
  have KK := Lib.hid (KB.next (KB.alloc (KB.alloc (Below.refl _ _) _) _) hU0)
  clear hU0
  have c_a_0 : ∀ z : Wb U0, z.at.cell? ⟨w.heap.size, 0, none⟩ = some (.int .u64 a) := fun z => (r_a z).cell 0
  have c_a_1 : ∀ z : Wb U0, z.at.cell? ⟨w.heap.size, 1, none⟩ = some (.int .u64 x) := fun z => (r_a z).cell 1
  have c_b_0 : ∀ z : Wb U0, z.at.cell? ⟨w.heap.size + 1, 0, none⟩ = some (.int .u64 b) := fun z => (r_b z).cell 0
  have c_b_1 : ∀ z : Wb U0, z.at.cell? ⟨w.heap.size + 1, 1, none⟩ = some (.int .u64 y) := fun z => (r_b z).cell 1
  go_wp2_with fail
  refine (AW.out _).mono ?_
  rintro e w1 ⟨rfl, g⟩
  obtain ⟨z1, rfl⟩ := Wb.next (x := z0) g
  clear g
  by_cases c3 : n ≤ 200
  · have d3 : decide (200 < (n : Int)) = false := by simp; omega
    go_wp2_with fail
    refine (ofS_any _ L z1.at (HS.out.below (KK.out z1)) HB.out (by have := HN.out; omega)).mono ?_
    rintro e w1 ⟨p, m, t, rfl, g, ma, m2, rt⟩
    obtain ⟨z2, rfl⟩ := Wb.next (x := z1) g
    have M2 := Lib.hid m2
    have RT := Lib.hid rt
    have m3 := m2
    have MA := Lib.hid (ma)
    clear g ma m2 rt
    go_upto_region 6 with fail
    refine to_cls ?_
    intro U3 hU3 z3
    clear c_a_0 c_a_1 c_b_0 c_b_1
    have r_a : ∀ z : Wb U3, Row z.at (w.heap.size) [.int .u64 a, .int .u64 x] 64 := Row.next ((r_a z2).old _) hU3
    have r_b : ∀ z : Wb U3, Row z.at (w.heap.size + 1) [.int .u64 b, .int .u64 y] 64 := Row.next ((r_b z2).old _) hU3
    have r_m : ∀ z : Wb U3, Row z.at (z2.at.heap.size) [.pointer p, .int .i64 m] 38 := Row.next (Row.new _ [.pointer p, .int .i64 m] _) hU3
    have MA := Lib.hid (fun z : Wb U3 => MAt.below (MAt.below (MAt.below MA.out (KB.alloc (Below.refl _ _) _ : Below z2.at.heap.size z2.at _)) hU3) z.bel)
    have KK := Lib.hid (KB.next (KB.alloc (KK.out z2) _) hU3)
    clear hU3
    have c_a_0 : ∀ z : Wb U3, z.at.cell? ⟨w.heap.size, 0, none⟩ = some (.int .u64 a) := fun z => (r_a z).cell 0
    have c_a_1 : ∀ z : Wb U3, z.at.cell? ⟨w.heap.size, 1, none⟩ = some (.int .u64 x) := fun z => (r_a z).cell 1
    have c_b_0 : ∀ z : Wb U3, z.at.cell? ⟨w.heap.size + 1, 0, none⟩ = some (.int .u64 b) := fun z => (r_b z).cell 0
    have c_b_1 : ∀ z : Wb U3, z.at.cell? ⟨w.heap.size + 1, 1, none⟩ = some (.int .u64 y) := fun z => (r_b z).cell 1
    have c_m_0 : ∀ z : Wb U3, z.at.cell? ⟨z2.at.heap.size, 0, none⟩ = some (.pointer p) := fun z => (r_m z).cell 0
    have c_m_1 : ∀ z : Wb U3, z.at.cell? ⟨z2.at.heap.size, 1, none⟩ = some (.int .i64 m) := fun z => (r_m z).cell 1
    obtain ⟨mA, hmA⟩ : ∃ b, b = z2.at.heap.size := ⟨_, rfl⟩
    rw [← hmA] at r_m c_m_0 c_m_1
    simp only [← hmA]
    clear hmA
    obtain ⟨C, hC⟩ : ∃ C, C = ofC L L.length := ⟨_, rfl⟩
    simp only [← hC]
    have HC := Lib.hid hC
    clear hC
    by_cases c0 : C = 0
    · have FO0 := Lib.hid (show ofC L L.length = 0 from HC.out.symm.trans c0)
      clear HC
      subst c0
      by_cases cab : a = b
      · have eb : (a == b) = true := by simpa using cab
        clear cab
        go_wp2
        go_ret
        exact ⟨by first | rfl | simp, KK.out z3⟩
      · have eb : (a == b) = false := by simpa using cab
        have AB := Lib.hid cab
        clear cab
        have L0 := Lib.hid (show (toLO t).length ≤ 256 by have := ((MA.out z3)).n; have := M2.out; omega)
        go_wp2_with fail
        refine (Write_any p m t a x z3.at (MA.out z3) HA.out.1 HA.out.2 (by have := ((MA.out z3)).n; have := L0.out; omega)).mono ?_
        rintro e w1 ⟨p1, m5, rfl, g, mb⟩
        obtain ⟨z4, rfl⟩ := Wb.next (x := z3) g
        have M5 := Lib.hid (mb)
        clear g mb
        have W_t1 := Lib.hid (wrM_len (t := t) (a := a) (v := x) L0.out HA.out.1 ((MA.out z4)).wf)
        obtain ⟨c1, h1⟩ : ∃ c, c = (wrM t a.toNat x).2 := ⟨_, rfl⟩
        obtain ⟨t1, h2⟩ : ∃ c, c = (wrM t a.toNat x).1 := ⟨_, rfl⟩
        rw [← h2] at M5 W_t1
        simp only [← h1]
        have E_c1 := Lib.hid h1
        have E_t1 := Lib.hid h2
        clear h1 h2
        go_upto_region 9 with fail
        have LT_a := Lib.hid (r_a z4).lt
        have LT_b := Lib.hid (r_b z4).lt
        have LT_m := Lib.hid (r_m z4).lt
        have LE := Lib.hid (KK.out z4).size
        refine to_cls ?_
        intro U5 hU5 z5
        clear c_a_0 c_a_1 c_b_0 c_b_1 c_m_0 c_m_1
        have r_a : ∀ z : Wb U5, Row z.at (w.heap.size) [.int .u64 a, .int .u64 x] 64 := Row.next ((r_a z4).old _) hU5
        have r_b : ∀ z : Wb U5, Row z.at (w.heap.size + 1) [.int .u64 b, .int .u64 y] 64 := Row.next ((r_b z4).old _) hU5
        have r_m : ∀ z : Wb U5, Row z.at (mA) [.pointer p, .int .i64 m] 38 := Row.next ((r_m z4).old _) hU5
        have r_q : ∀ z : Wb U5, Row z.at (z4.at.heap.size) [.pointer p1, .int .i64 m5] 38 := Row.next (Row.new _ [.pointer p1, .int .i64 m5] _) hU5
        have MA := Lib.hid (fun z : Wb U5 => MAt.below (MAt.below (MAt.below (MA.out z4) (KB.alloc (Below.refl _ _) _ : Below z4.at.heap.size z4.at _)) hU5) z.bel)
        have M5 := Lib.hid (fun z : Wb U5 => MAt.below (MAt.below (MAt.below M5.out (KB.alloc (Below.refl _ _) _ : Below z4.at.heap.size z4.at _)) hU5) z.bel)
        have KK := Lib.hid (KB.next (KB.alloc (KK.out z4) _) hU5)
        clear hU5
        have c_a_0 : ∀ z : Wb U5, z.at.cell? ⟨w.heap.size, 0, none⟩ = some (.int .u64 a) := fun z => (r_a z).cell 0
        have c_a_1 : ∀ z : Wb U5, z.at.cell? ⟨w.heap.size, 1, none⟩ = some (.int .u64 x) := fun z => (r_a z).cell 1
        have c_b_0 : ∀ z : Wb U5, z.at.cell? ⟨w.heap.size + 1, 0, none⟩ = some (.int .u64 b) := fun z => (r_b z).cell 0
        have c_b_1 : ∀ z : Wb U5, z.at.cell? ⟨w.heap.size + 1, 1, none⟩ = some (.int .u64 y) := fun z => (r_b z).cell 1
        have c_m_0 : ∀ z : Wb U5, z.at.cell? ⟨mA, 0, none⟩ = some (.pointer p) := fun z => (r_m z).cell 0
        have c_m_1 : ∀ z : Wb U5, z.at.cell? ⟨mA, 1, none⟩ = some (.int .i64 m) := fun z => (r_m z).cell 1
        have c_q_0 : ∀ z : Wb U5, z.at.cell? ⟨z4.at.heap.size, 0, none⟩ = some (.pointer p1) := fun z => (r_q z).cell 0
        have c_q_1 : ∀ z : Wb U5, z.at.cell? ⟨z4.at.heap.size, 1, none⟩ = some (.int .i64 m5) := fun z => (r_q z).cell 1
        obtain ⟨qA, hqA⟩ : ∃ b, b = z4.at.heap.size := ⟨_, rfl⟩
        rw [← hqA] at r_q c_q_0 c_q_1 LE LT_a LT_b LT_m
        simp only [← hqA]
        clear hqA
        have LE_q := Lib.hid LE.out
        have NE_a_q := Lib.hid (fun (_ : Wb U5) => show w.heap.size ≠ qA from Nat.ne_of_lt LT_a.out)
        have NF_a_q := Lib.hid (fun (_ : Nat) => show w.heap.size ≠ qA from Nat.ne_of_lt LT_a.out)
        have NE_b_q := Lib.hid (fun (_ : Wb U5) => show w.heap.size + 1 ≠ qA from Nat.ne_of_lt LT_b.out)
        have NF_b_q := Lib.hid (fun (_ : Nat) => show w.heap.size + 1 ≠ qA from Nat.ne_of_lt LT_b.out)
        have NE_m_q := Lib.hid (fun (_ : Wb U5) => show mA ≠ qA from Nat.ne_of_lt LT_m.out)
        have NF_m_q := Lib.hid (fun (_ : Nat) => show mA ≠ qA from Nat.ne_of_lt LT_m.out)
        clear LE LT_a LT_b LT_m
        go_wp2_with fail
        refine (Write_any p1 m5 t1 b y z5.at (M5.out z5) HP.out.1 HP.out.2 (by have := ((M5.out z5)).n; have := W_t1.out; omega)).mono ?_
        rintro e w1 ⟨p2, m6, rfl, g, mb⟩
        obtain ⟨z6, rfl⟩ := Wb.next (x := z5) g
        have M6 := Lib.hid (mb)
        clear g mb
        have W_t2 := Lib.hid (wrM_len (t := t1) (a := b) (v := y) W_t1.out HP.out.1 ((M5.out z6)).wf)
        obtain ⟨c2, h1⟩ : ∃ c, c = (wrM t1 b.toNat y).2 := ⟨_, rfl⟩
        obtain ⟨t2, h2⟩ : ∃ c, c = (wrM t1 b.toNat y).1 := ⟨_, rfl⟩
        rw [← h2] at M6 W_t2
        simp only [← h1]
        have E_c2 := Lib.hid h1
        have E_t2 := Lib.hid h2
        clear h1 h2
        have fz : ∀ (z : Wb U5) (i : Nat), z.at.frozen? ⟨qA, i, none⟩ = false := fun z i => (r_q z).free i
        go_upto_region 10 with fail
        clear fz
        refine to_cls ?_
        intro U7 hU7 z7
        clear c_a_0 c_a_1 c_b_0 c_b_1 c_m_0 c_m_1 c_q_0 c_q_1
        have MA := Lib.hid (fun z : Wb U7 => MAt.below (MAt.below (((MA.out z6).set (r_q z6) (by simp) 0 _).set ((r_q z6).set 0 _) (by simp) 1 _) hU7) z.bel)
        have M5 := Lib.hid (fun z : Wb U7 => MAt.below (MAt.below (((M5.out z6).set (r_q z6) (by simp) 0 _).set ((r_q z6).set 0 _) (by simp) 1 _) hU7) z.bel)
        have M6 := Lib.hid (fun z : Wb U7 => MAt.below (MAt.below ((M6.out.set (r_q z6) (by simp) 0 _).set ((r_q z6).set 0 _) (by simp) 1 _) hU7) z.bel)
        have KK := Lib.hid (KB.next (KB.put (KB.put (KK.out z6) LE_q.out 0 _) LE_q.out 1 _) hU7)
        have r_a : ∀ z : Wb U7, Row z.at (w.heap.size) [.int .u64 a, .int .u64 x] 64 := Row.next (((r_a z6).oth (NE_a_q.out z6) 0 _).oth (NE_a_q.out z6) 1 _) hU7
        have r_b : ∀ z : Wb U7, Row z.at (w.heap.size + 1) [.int .u64 b, .int .u64 y] 64 := Row.next (((r_b z6).oth (NE_b_q.out z6) 0 _).oth (NE_b_q.out z6) 1 _) hU7
        have r_m : ∀ z : Wb U7, Row z.at (mA) [.pointer p, .int .i64 m] 38 := Row.next (((r_m z6).oth (NE_m_q.out z6) 0 _).oth (NE_m_q.out z6) 1 _) hU7
        have r_q : ∀ z : Wb U7, Row z.at (qA) [.pointer p2, .int .i64 m6] 38 := Row.next (((r_q z6).set 0 _).set 1 _) hU7
        clear hU7
        have c_a_0 : ∀ z : Wb U7, z.at.cell? ⟨w.heap.size, 0, none⟩ = some (.int .u64 a) := fun z => (r_a z).cell 0
        have c_a_1 : ∀ z : Wb U7, z.at.cell? ⟨w.heap.size, 1, none⟩ = some (.int .u64 x) := fun z => (r_a z).cell 1
        have c_b_0 : ∀ z : Wb U7, z.at.cell? ⟨w.heap.size + 1, 0, none⟩ = some (.int .u64 b) := fun z => (r_b z).cell 0
        have c_b_1 : ∀ z : Wb U7, z.at.cell? ⟨w.heap.size + 1, 1, none⟩ = some (.int .u64 y) := fun z => (r_b z).cell 1
        have c_m_0 : ∀ z : Wb U7, z.at.cell? ⟨mA, 0, none⟩ = some (.pointer p) := fun z => (r_m z).cell 0
        have c_m_1 : ∀ z : Wb U7, z.at.cell? ⟨mA, 1, none⟩ = some (.int .i64 m) := fun z => (r_m z).cell 1
        have c_q_0 : ∀ z : Wb U7, z.at.cell? ⟨qA, 0, none⟩ = some (.pointer p2) := fun z => (r_q z).cell 0
        have c_q_1 : ∀ z : Wb U7, z.at.cell? ⟨qA, 1, none⟩ = some (.int .i64 m6) := fun z => (r_q z).cell 1
        go_wp2_with fail
        refine (Write_any p m t b y z7.at (MA.out z7) HP.out.1 HP.out.2 (by have := ((MA.out z7)).n; have := L0.out; omega)).mono ?_
        rintro e w1 ⟨p4, m7, rfl, g, mb⟩
        obtain ⟨z8, rfl⟩ := Wb.next (x := z7) g
        have M7 := Lib.hid (mb)
        clear g mb
        have W_t4 := Lib.hid (wrM_len (t := t) (a := b) (v := y) L0.out HP.out.1 ((MA.out z8)).wf)
        obtain ⟨c4, h1⟩ : ∃ c, c = (wrM t b.toNat y).2 := ⟨_, rfl⟩
        obtain ⟨t4, h2⟩ : ∃ c, c = (wrM t b.toNat y).1 := ⟨_, rfl⟩
        rw [← h2] at M7 W_t4
        simp only [← h1]
        have E_c4 := Lib.hid h1
        have E_t4 := Lib.hid h2
        clear h1 h2
        go_upto_region 11 with fail
        have LT_a := Lib.hid (r_a z8).lt
        have LT_b := Lib.hid (r_b z8).lt
        have LT_m := Lib.hid (r_m z8).lt
        have LT_q := Lib.hid (r_q z8).lt
        have LE := Lib.hid (KK.out z8).size
        refine to_cls ?_
        intro U9 hU9 z9
        clear c_a_0 c_a_1 c_b_0 c_b_1 c_m_0 c_m_1 c_q_0 c_q_1
        have r_a : ∀ z : Wb U9, Row z.at (w.heap.size) [.int .u64 a, .int .u64 x] 64 := Row.next ((r_a z8).old _) hU9
        have r_b : ∀ z : Wb U9, Row z.at (w.heap.size + 1) [.int .u64 b, .int .u64 y] 64 := Row.next ((r_b z8).old _) hU9
        have r_m : ∀ z : Wb U9, Row z.at (mA) [.pointer p, .int .i64 m] 38 := Row.next ((r_m z8).old _) hU9
        have r_q : ∀ z : Wb U9, Row z.at (qA) [.pointer p2, .int .i64 m6] 38 := Row.next ((r_q z8).old _) hU9
        have r_s : ∀ z : Wb U9, Row z.at (z8.at.heap.size) [.pointer p4, .int .i64 m7] 38 := Row.next (Row.new _ [.pointer p4, .int .i64 m7] _) hU9
        have MA := Lib.hid (fun z : Wb U9 => MAt.below (MAt.below (MAt.below (MA.out z8) (KB.alloc (Below.refl _ _) _ : Below z8.at.heap.size z8.at _)) hU9) z.bel)
        have M5 := Lib.hid (fun z : Wb U9 => MAt.below (MAt.below (MAt.below (M5.out z8) (KB.alloc (Below.refl _ _) _ : Below z8.at.heap.size z8.at _)) hU9) z.bel)
        have M6 := Lib.hid (fun z : Wb U9 => MAt.below (MAt.below (MAt.below (M6.out z8) (KB.alloc (Below.refl _ _) _ : Below z8.at.heap.size z8.at _)) hU9) z.bel)
        have M7 := Lib.hid (fun z : Wb U9 => MAt.below (MAt.below (MAt.below M7.out (KB.alloc (Below.refl _ _) _ : Below z8.at.heap.size z8.at _)) hU9) z.bel)
        have KK := Lib.hid (KB.next (KB.alloc (KK.out z8) _) hU9)
        clear hU9
        have c_a_0 : ∀ z : Wb U9, z.at.cell? ⟨w.heap.size, 0, none⟩ = some (.int .u64 a) := fun z => (r_a z).cell 0
        have c_a_1 : ∀ z : Wb U9, z.at.cell? ⟨w.heap.size, 1, none⟩ = some (.int .u64 x) := fun z => (r_a z).cell 1
        have c_b_0 : ∀ z : Wb U9, z.at.cell? ⟨w.heap.size + 1, 0, none⟩ = some (.int .u64 b) := fun z => (r_b z).cell 0
        have c_b_1 : ∀ z : Wb U9, z.at.cell? ⟨w.heap.size + 1, 1, none⟩ = some (.int .u64 y) := fun z => (r_b z).cell 1
        have c_m_0 : ∀ z : Wb U9, z.at.cell? ⟨mA, 0, none⟩ = some (.pointer p) := fun z => (r_m z).cell 0
        have c_m_1 : ∀ z : Wb U9, z.at.cell? ⟨mA, 1, none⟩ = some (.int .i64 m) := fun z => (r_m z).cell 1
        have c_q_0 : ∀ z : Wb U9, z.at.cell? ⟨qA, 0, none⟩ = some (.pointer p2) := fun z => (r_q z).cell 0
        have c_q_1 : ∀ z : Wb U9, z.at.cell? ⟨qA, 1, none⟩ = some (.int .i64 m6) := fun z => (r_q z).cell 1
        have c_s_0 : ∀ z : Wb U9, z.at.cell? ⟨z8.at.heap.size, 0, none⟩ = some (.pointer p4) := fun z => (r_s z).cell 0
        have c_s_1 : ∀ z : Wb U9, z.at.cell? ⟨z8.at.heap.size, 1, none⟩ = some (.int .i64 m7) := fun z => (r_s z).cell 1
        obtain ⟨sA, hsA⟩ : ∃ b, b = z8.at.heap.size := ⟨_, rfl⟩
        rw [← hsA] at r_s c_s_0 c_s_1 LE LT_a LT_b LT_m LT_q
        simp only [← hsA]
        clear hsA
        have LE_s := Lib.hid LE.out
        have NE_a_s := Lib.hid (fun (_ : Wb U9) => show w.heap.size ≠ sA from Nat.ne_of_lt LT_a.out)
        have NF_a_s := Lib.hid (fun (_ : Nat) => show w.heap.size ≠ sA from Nat.ne_of_lt LT_a.out)
        have NE_b_s := Lib.hid (fun (_ : Wb U9) => show w.heap.size + 1 ≠ sA from Nat.ne_of_lt LT_b.out)
        have NF_b_s := Lib.hid (fun (_ : Nat) => show w.heap.size + 1 ≠ sA from Nat.ne_of_lt LT_b.out)
        have NE_m_s := Lib.hid (fun (_ : Wb U9) => show mA ≠ sA from Nat.ne_of_lt LT_m.out)
        have NF_m_s := Lib.hid (fun (_ : Nat) => show mA ≠ sA from Nat.ne_of_lt LT_m.out)
        have NE_q_s := Lib.hid (fun (_ : Wb U9) => show qA ≠ sA from Nat.ne_of_lt LT_q.out)
        have NF_q_s := Lib.hid (fun (_ : Nat) => show qA ≠ sA from Nat.ne_of_lt LT_q.out)
        clear LE LT_a LT_b LT_m LT_q
        go_wp2_with fail
        refine (Write_any p4 m7 t4 a x z9.at (M7.out z9) HA.out.1 HA.out.2 (by have := ((M7.out z9)).n; have := W_t4.out; omega)).mono ?_
        rintro e w1 ⟨p5, m8, rfl, g, mb⟩
        obtain ⟨z10, rfl⟩ := Wb.next (x := z9) g
        have M8 := Lib.hid (mb)
        clear g mb
        have W_t5 := Lib.hid (wrM_len (t := t4) (a := a) (v := x) W_t4.out HA.out.1 ((M7.out z10)).wf)
        obtain ⟨c5, h1⟩ : ∃ c, c = (wrM t4 a.toNat x).2 := ⟨_, rfl⟩
        obtain ⟨t5, h2⟩ : ∃ c, c = (wrM t4 a.toNat x).1 := ⟨_, rfl⟩
        rw [← h2] at M8 W_t5
        simp only [← h1]
        have E_c5 := Lib.hid h1
        have E_t5 := Lib.hid h2
        clear h1 h2
        have fz : ∀ (z : Wb U9) (i : Nat), z.at.frozen? ⟨sA, i, none⟩ = false := fun z i => (r_s z).free i
        go_upto_region 12 with fail
        clear fz
        refine to_cls ?_
        intro U11 hU11 z11
        clear c_a_0 c_a_1 c_b_0 c_b_1 c_m_0 c_m_1 c_q_0 c_q_1 c_s_0 c_s_1
        have MA := Lib.hid (fun z : Wb U11 => MAt.below (MAt.below (((MA.out z10).set (r_s z10) (by simp) 0 _).set ((r_s z10).set 0 _) (by simp) 1 _) hU11) z.bel)
        have M5 := Lib.hid (fun z : Wb U11 => MAt.below (MAt.below (((M5.out z10).set (r_s z10) (by simp) 0 _).set ((r_s z10).set 0 _) (by simp) 1 _) hU11) z.bel)
        have M6 := Lib.hid (fun z : Wb U11 => MAt.below (MAt.below (((M6.out z10).set (r_s z10) (by simp) 0 _).set ((r_s z10).set 0 _) (by simp) 1 _) hU11) z.bel)
        have M7 := Lib.hid (fun z : Wb U11 => MAt.below (MAt.below (((M7.out z10).set (r_s z10) (by simp) 0 _).set ((r_s z10).set 0 _) (by simp) 1 _) hU11) z.bel)
        have M8 := Lib.hid (fun z : Wb U11 => MAt.below (MAt.below ((M8.out.set (r_s z10) (by simp) 0 _).set ((r_s z10).set 0 _) (by simp) 1 _) hU11) z.bel)
        have KK := Lib.hid (KB.next (KB.put (KB.put (KK.out z10) LE_s.out 0 _) LE_s.out 1 _) hU11)
        have r_a : ∀ z : Wb U11, Row z.at (w.heap.size) [.int .u64 a, .int .u64 x] 64 := Row.next (((r_a z10).oth (NE_a_s.out z10) 0 _).oth (NE_a_s.out z10) 1 _) hU11
        have r_b : ∀ z : Wb U11, Row z.at (w.heap.size + 1) [.int .u64 b, .int .u64 y] 64 := Row.next (((r_b z10).oth (NE_b_s.out z10) 0 _).oth (NE_b_s.out z10) 1 _) hU11
        have r_m : ∀ z : Wb U11, Row z.at (mA) [.pointer p, .int .i64 m] 38 := Row.next (((r_m z10).oth (NE_m_s.out z10) 0 _).oth (NE_m_s.out z10) 1 _) hU11
        have r_q : ∀ z : Wb U11, Row z.at (qA) [.pointer p2, .int .i64 m6] 38 := Row.next (((r_q z10).oth (NE_q_s.out z10) 0 _).oth (NE_q_s.out z10) 1 _) hU11
        have r_s : ∀ z : Wb U11, Row z.at (sA) [.pointer p5, .int .i64 m8] 38 := Row.next (((r_s z10).set 0 _).set 1 _) hU11
        clear hU11
        have c_a_0 : ∀ z : Wb U11, z.at.cell? ⟨w.heap.size, 0, none⟩ = some (.int .u64 a) := fun z => (r_a z).cell 0
        have c_a_1 : ∀ z : Wb U11, z.at.cell? ⟨w.heap.size, 1, none⟩ = some (.int .u64 x) := fun z => (r_a z).cell 1
        have c_b_0 : ∀ z : Wb U11, z.at.cell? ⟨w.heap.size + 1, 0, none⟩ = some (.int .u64 b) := fun z => (r_b z).cell 0
        have c_b_1 : ∀ z : Wb U11, z.at.cell? ⟨w.heap.size + 1, 1, none⟩ = some (.int .u64 y) := fun z => (r_b z).cell 1
        have c_m_0 : ∀ z : Wb U11, z.at.cell? ⟨mA, 0, none⟩ = some (.pointer p) := fun z => (r_m z).cell 0
        have c_m_1 : ∀ z : Wb U11, z.at.cell? ⟨mA, 1, none⟩ = some (.int .i64 m) := fun z => (r_m z).cell 1
        have c_q_0 : ∀ z : Wb U11, z.at.cell? ⟨qA, 0, none⟩ = some (.pointer p2) := fun z => (r_q z).cell 0
        have c_q_1 : ∀ z : Wb U11, z.at.cell? ⟨qA, 1, none⟩ = some (.int .i64 m6) := fun z => (r_q z).cell 1
        have c_s_0 : ∀ z : Wb U11, z.at.cell? ⟨sA, 0, none⟩ = some (.pointer p5) := fun z => (r_s z).cell 0
        have c_s_1 : ∀ z : Wb U11, z.at.cell? ⟨sA, 1, none⟩ = some (.int .i64 m8) := fun z => (r_s z).cell 1
        have RT9 := Lib.hid (show RelT t L by have := RT.out; rw [fin_ok FO0.out] at this; exact this)
        by_cases kc1 : c1 = 0
        · subst kc1
          by_cases kc2 : c2 = 0
          · subst kc2
            by_cases kc4 : c4 = 0
            · subst kc4
              by_cases kc5 : c5 = 0
              · subst kc5
                have EQ : decide (up (toLO t2) = up (toLO t5)) = true := decide_eq_true (turns_eq RT9.out ((MA.out z11)).wf L0.out HA.out HX.out HP.out HY.out AB.out E_c1.out E_t1.out E_c2.out E_t2.out E_c4.out E_t4.out E_c5.out E_t5.out)
                go_wp2_with fail
                refine (same_any p2 p5 m6 m8 t2 t5 z11.at (M6.out z11) (M8.out z11) (by have := ((M6.out z11)).n; have := W_t2.out; omega) (by have := ((M8.out z11)).n; have := W_t5.out; omega)).mono ?_
                rintro e w1 ⟨rfl, g⟩
                obtain ⟨z12, rfl⟩ := Wb.next (x := z11) g
                clear g
                simp only [EQ]
                go_wp2
                go_ret
                exact ⟨by first | rfl | simp, KK.out z12⟩
              · have kb : (c5 != 0) = true := by simpa using kc5
                clear kc5
                go_wp2
                go_ret
                exact ⟨by first | rfl | simp, KK.out z11⟩
            · have kb : (c4 != 0) = true := by simpa using kc4
              clear kc4
              go_wp2
              go_ret
              exact ⟨by first | rfl | simp, KK.out z11⟩
          · have kb : (c2 != 0) = true := by simpa using kc2
            clear kc2
            go_wp2
            go_ret
            exact ⟨by first | rfl | simp, KK.out z11⟩
        · have kb : (c1 != 0) = true := by simpa using kc1
          clear kc1
          go_wp2
          go_ret
          exact ⟨by first | rfl | simp, KK.out z11⟩
    · have cb : (C != 0) = true := by simpa using c0
      clear c0
      go_wp2
      go_ret
      exact ⟨by first | rfl | simp, KK.out z3⟩
  · have d3 : decide (200 < (n : Int)) = true := by simp; omega
    go_wp2
    go_ret
    exact ⟨by first | rfl | simp, KK.out z1⟩
end Go.Proofs.Ytnpgpbcpgniloaa

namespace Go.Proofs.Ytnpgpbcpgniloaa
open Go.RowKit GrS

theorem StoreMemory_rows (v : Value) (n : Nat) (R : Nat → List Value) (a : Int) (w : World) (s : SlAt w v 2 n ((List.range n).flatMap R)) (g : ∀ i, i < n → ∃ p : Int × Int, R i = [.int .u64 p.1, .int .u64 p.2] ∧ (0 ≤ p.1 ∧ p.1 < 18446744073709551616) ∧ 0 ≤ p.2 ∧ p.2 < 18446744073709551616) (a0 : 0 ≤ a) (a1 : a < 18446744073709551616) :
    Calls Try.prog 4 #[v, .int .u64 a] w fun e w' => e = .returned (.bool true) ∧ Below w.heap.size w w' := by
  obtain ⟨L, hL, hB⟩ := slp_of_rows s g
  exact StoreMemory_walk v L a w hL hB a0 a1

theorem StoreWrites_rows (v : Value) (n : Nat) (R : Nat → List Value) (a x : Int) (w : World) (s : SlAt w v 2 n ((List.range n).flatMap R)) (g : ∀ i, i < n → ∃ p : Int × Int, R i = [.int .u64 p.1, .int .u64 p.2] ∧ (0 ≤ p.1 ∧ p.1 < 18446744073709551616) ∧ 0 ≤ p.2 ∧ p.2 < 18446744073709551616) (a0 : 0 ≤ a) (a1 : a < 18446744073709551616) (x0 : 0 ≤ x) (x1 : x < 18446744073709551616) :
    Calls Try.prog 5 #[v, .int .u64 a, .int .u64 x] w fun e w' => e = .returned (.bool true) ∧ Below w.heap.size w w' := by
  obtain ⟨L, hL, hB⟩ := slp_of_rows s g
  exact StoreWrites_walk v L a x w hL hB a0 a1 x0 x1

theorem StoreTurns_rows (v : Value) (n : Nat) (R : Nat → List Value) (a x b y : Int) (w : World) (s : SlAt w v 2 n ((List.range n).flatMap R)) (g : ∀ i, i < n → ∃ p : Int × Int, R i = [.int .u64 p.1, .int .u64 p.2] ∧ (0 ≤ p.1 ∧ p.1 < 18446744073709551616) ∧ 0 ≤ p.2 ∧ p.2 < 18446744073709551616) (a0 : 0 ≤ a) (a1 : a < 18446744073709551616) (x0 : 0 ≤ x) (x1 : x < 18446744073709551616) (b0 : 0 ≤ b) (b1 : b < 18446744073709551616) (y0 : 0 ≤ y) (y1 : y < 18446744073709551616) :
    Calls Try.prog 7 #[v, .agg #[.int .u64 a, .int .u64 x], .agg #[.int .u64 b, .int .u64 y]] w fun e w' => e = .returned (.bool true) ∧ Below w.heap.size w w' := by
  obtain ⟨L, hL, hB⟩ := slp_of_rows s g
  exact StoreTurns_walk v L a x b y w hL hB a0 a1 x0 x1 b0 b1 y0 y1

end Go.Proofs.Ytnpgpbcpgniloaa
