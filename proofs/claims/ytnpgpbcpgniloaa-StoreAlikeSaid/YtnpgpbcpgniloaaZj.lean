/-
  Layer 6, the laws' walks: StoreAlike.
-/
import Derived.Test.YtnpgpbcpgniloaaZi
import Derived.Test.YtnpgpbcpgniloaaZa
import Derived.Test.YtnpgpbcpgniloaaBq
set_option linter.unusedSimpArgs false
set_option linter.unusedVariables false
namespace Go.Proofs.Ytnpgpbcpgniloaa
open Go.RowKit GrS

set_option maxRecDepth 100000 in
set_option maxHeartbeats 12800000 in
theorem StoreAlike_walk (a1 a2 : Value) (L1 L2 : List (Int × Int)) (w : World) (h1 : SlP w a1 L1) (b1 : Bd L1) (h2 : SlP w a2 L2) (b2 : Bd L2) :
    Calls Try.prog 6 #[a1, a2] w fun e w' => e = .returned (.bool true) ∧ Below w.heap.size w w' := by
  obtain ⟨q1, n1, k1, rfl⟩ := SlAt.form h1
  obtain ⟨q2, n2, k2, rfl⟩ := SlAt.form h2
  have HN1 := Lib.hid h1.len
  have HN2 := Lib.hid h2.len
  have AW := Lib.hid (fun w => awake6_any w)
  have HS1 := Lib.hid h1
  have HS2 := Lib.hid h2
  have HB1 := Lib.hid b1
  have HB2 := Lib.hid b2
  have FL1 := Lib.hid (show (fin L1).length = if ofC L1 L1.length = 0 then L1.length else 0 by unfold fin; split <;> rfl)
  have FL2 := Lib.hid (show (fin L2).length = if ofC L2 L2.length = 0 then L2.length else 0 by unfold fin; split <;> rfl)
  clear h1 h2 b1 b2
  go_enter Try.func6, Try.ntmps6
  go_upto_region 1 with fail
  refine to_cls ?_
  intro U0 hU0 z0
  have KK := Lib.hid (KB.next (Below.refl _ _) hU0)
  clear hU0
  go_wp2_with fail
  refine (AW.out _).mono ?_
  rintro e w1 ⟨rfl, g⟩
  obtain ⟨z1, rfl⟩ := Wb.next (x := z0) g
  clear g
  by_cases c1 : n1 ≤ 200
  · have d1 : decide (200 < (n1 : Int)) = false := by simp; omega
    by_cases c2 : n2 ≤ 200
    · have d2 : decide (200 < (n2 : Int)) = false := by simp; omega
      go_wp2_with fail
      refine (ofS_any _ L1 z1.at (HS1.out.below (KK.out z1)) HB1.out (by have := HN1.out; omega)).mono ?_
      rintro e w1 ⟨p1, m1, t1, rfl, g, ma, mm, rt⟩
      obtain ⟨z2, rfl⟩ := Wb.next (x := z1) g
      have M1L := Lib.hid mm
      have RT1 := Lib.hid rt
      have MA1 := Lib.hid (ma)
      clear g ma mm rt
      go_upto_region 6 with fail
      refine to_cls ?_
      intro U3 hU3 z3
      have r_m : ∀ z : Wb U3, Row z.at (z2.at.heap.size) [.pointer p1, .int .i64 m1] 38 := Row.next (Row.new _ [.pointer p1, .int .i64 m1] _) hU3
      have MA1 := Lib.hid (fun z : Wb U3 => MAt.below (MAt.below (MAt.below MA1.out (KB.alloc (Below.refl _ _) _ : Below z2.at.heap.size z2.at _)) hU3) z.bel)
      have KK := Lib.hid (KB.next (KB.alloc (KK.out z2) _) hU3)
      clear hU3
      have c_m_0 : ∀ z : Wb U3, z.at.cell? ⟨z2.at.heap.size, 0, none⟩ = some (.pointer p1) := fun z => (r_m z).cell 0
      have c_m_1 : ∀ z : Wb U3, z.at.cell? ⟨z2.at.heap.size, 1, none⟩ = some (.int .i64 m1) := fun z => (r_m z).cell 1
      obtain ⟨mA, hmA⟩ : ∃ b, b = z2.at.heap.size := ⟨_, rfl⟩
      rw [← hmA] at r_m c_m_0 c_m_1
      simp only [← hmA]
      clear hmA
      go_wp2_with fail
      refine (ofS_any _ L2 z3.at (HS2.out.below (KK.out z3)) HB2.out (by have := HN2.out; omega)).mono ?_
      rintro e w1 ⟨p2, m2, t2, rfl, g, ma, mm, rt⟩
      obtain ⟨z4, rfl⟩ := Wb.next (x := z3) g
      have M2L := Lib.hid mm
      have RT2 := Lib.hid rt
      have MA2 := Lib.hid (ma)
      clear g ma mm rt
      go_upto_region 7 with fail
      refine to_cls ?_
      intro U5 hU5 z5
      clear c_m_0 c_m_1
      have r_m : ∀ z : Wb U5, Row z.at (mA) [.pointer p1, .int .i64 m1] 38 := Row.next ((r_m z4).old _) hU5
      have r_n : ∀ z : Wb U5, Row z.at (z4.at.heap.size) [.pointer p2, .int .i64 m2] 38 := Row.next (Row.new _ [.pointer p2, .int .i64 m2] _) hU5
      have MA1 := Lib.hid (fun z : Wb U5 => MAt.below (MAt.below (MAt.below (MA1.out z4) (KB.alloc (Below.refl _ _) _ : Below z4.at.heap.size z4.at _)) hU5) z.bel)
      have MA2 := Lib.hid (fun z : Wb U5 => MAt.below (MAt.below (MAt.below MA2.out (KB.alloc (Below.refl _ _) _ : Below z4.at.heap.size z4.at _)) hU5) z.bel)
      have KK := Lib.hid (KB.next (KB.alloc (KK.out z4) _) hU5)
      clear hU5
      have c_m_0 : ∀ z : Wb U5, z.at.cell? ⟨mA, 0, none⟩ = some (.pointer p1) := fun z => (r_m z).cell 0
      have c_m_1 : ∀ z : Wb U5, z.at.cell? ⟨mA, 1, none⟩ = some (.int .i64 m1) := fun z => (r_m z).cell 1
      have c_n_0 : ∀ z : Wb U5, z.at.cell? ⟨z4.at.heap.size, 0, none⟩ = some (.pointer p2) := fun z => (r_n z).cell 0
      have c_n_1 : ∀ z : Wb U5, z.at.cell? ⟨z4.at.heap.size, 1, none⟩ = some (.int .i64 m2) := fun z => (r_n z).cell 1
      obtain ⟨nA, hnA⟩ : ∃ b, b = z4.at.heap.size := ⟨_, rfl⟩
      rw [← hnA] at r_n c_n_0 c_n_1
      simp only [← hnA]
      clear hnA
      go_wp2_with fail
      refine (rofS_any _ L1 z5.at (HS1.out.below (KK.out z5)) HB1.out (by have := HN1.out; omega)).mono ?_
      rintro e w1 ⟨v1, rfl, g, s2⟩
      obtain ⟨z6, rfl⟩ := Wb.next (x := z5) g
      have S1 := Lib.hid (s2)
      clear g s2
      obtain ⟨C1, hC1⟩ : ∃ C, C = ofC L1 L1.length := ⟨_, rfl⟩
      simp only [← hC1]
      have cc1 : (C1 != C1) = false := by simp
      clear hC1
      go_wp2_with fail
      refine (rofS_any _ L2 z6.at (HS2.out.below (KK.out z6)) HB2.out (by have := HN2.out; omega)).mono ?_
      rintro e w1 ⟨v2, rfl, g, s2⟩
      obtain ⟨z7, rfl⟩ := Wb.next (x := z6) g
      have S1 := Lib.hid (SlAt.below S1.out g)
      have S2 := Lib.hid (s2)
      clear g s2
      obtain ⟨C2, hC2⟩ : ∃ C, C = ofC L2 L2.length := ⟨_, rfl⟩
      simp only [← hC2]
      have cc2 : (C2 != C2) = false := by simp
      clear hC2
      go_wp2_with fail
      refine (rcells_any v1 (fin L1) z7.at S1.out (by rw [FL1.out]; have := HN1.out; split <;> simp <;> omega)).mono ?_
      rintro e w1 ⟨u1, rfl, g, ow⟩
      obtain ⟨z8, rfl⟩ := Wb.next (x := z7) g
      have S1 := Lib.hid (SlAt.below S1.out g)
      have S2 := Lib.hid (SlAt.below S2.out g)
      have T1 := Lib.hid (show SlP _ u1 (cellsTo (fin L1) (fin L1).length) from SlAt.own ow)
      clear g ow
      go_wp2_with fail
      refine (rcells_any v2 (fin L2) z8.at S2.out (by rw [FL2.out]; have := HN2.out; split <;> simp <;> omega)).mono ?_
      rintro e w1 ⟨u2, rfl, g, ow⟩
      obtain ⟨z9, rfl⟩ := Wb.next (x := z8) g
      have S1 := Lib.hid (SlAt.below S1.out g)
      have S2 := Lib.hid (SlAt.below S2.out g)
      have T1 := Lib.hid (SlAt.below T1.out g)
      have T2 := Lib.hid (show SlP _ u2 (cellsTo (fin L2) (fin L2).length) from SlAt.own ow)
      clear g ow
      go_wp2_with fail
      refine (rsame_any u1 u2 _ _ z9.at T1.out T2.out (by rw [cells_tree (MA1.out z9).wf (Bd.fin HB1.out) RT1.out, up_len]; have := (MA1.out z9).n; have := M1L.out; omega)).mono ?_
      rintro e w1 ⟨rfl, g⟩
      obtain ⟨z10, rfl⟩ := Wb.next (x := z9) g
      have S1 := Lib.hid (SlAt.below S1.out g)
      have S2 := Lib.hid (SlAt.below S2.out g)
      have T1 := Lib.hid (SlAt.below T1.out g)
      have T2 := Lib.hid (SlAt.below T2.out g)
      clear g
      rw [cells_tree (MA1.out z10).wf (Bd.fin HB1.out) RT1.out, cells_tree (MA2.out z10).wf (Bd.fin HB2.out) RT2.out]
      have SM := Lib.hid (fun y : Wb z10.at => same_any p1 p2 m1 m2 t1 t2 y.at (MAt.below (MA1.out z10) y.bel) (MAt.below (MA2.out z10) y.bel) (by have := M1L.out; omega) (by have := M2L.out; omega))
      have KY1 := Lib.hid (fun y : Wb z10.at => memkey_any p1 m1 t1 y.at (MAt.below (MA1.out z10) y.bel) (by have := M1L.out; omega))
      have KY2 := Lib.hid (fun y : Wb z10.at => memkey_any p2 m2 t2 y.at (MAt.below (MA2.out z10) y.bel) (by have := M2L.out; omega))
      have ES := key_eq (up_bd (MA1.out z10).wf (Bd.fin HB1.out) (fin_good L1) RT1.out) (up_bd (MA2.out z10).wf (Bd.fin HB2.out) (fin_good L2) RT2.out)
      obtain ⟨s1, h1⟩ : ∃ s, s = strOfNums (keyL (up (toLO t1))) := ⟨_, rfl⟩
      obtain ⟨s2, h2⟩ : ∃ s, s = strOfNums (keyL (up (toLO t2))) := ⟨_, rfl⟩
      rw [← h1] at KY1 ES
      rw [← h2] at KY2 ES
      obtain ⟨D, hD⟩ : ∃ D, D = decide (up (toLO t1) = up (toLO t2)) := ⟨_, rfl⟩
      rw [← hD] at SM ⊢
      have ED : decide (s1 = s2) = D := by rw [hD]; exact decide_eq_decide.2 ES
      clear hD ES h1 h2
      go_upto_region 12 with fail
      refine wp_region_wb (by kernel_rfl) (by kernel_rfl) ?_
      have j_m_0 : ∀ y : Wb z10.at, y.at.cell? ⟨mA, 0, none⟩ = some (.pointer p1) := fun y => (y.cell _ (r_m z10).lt).trans (c_m_0 z10)
      have j_m_1 : ∀ y : Wb z10.at, y.at.cell? ⟨mA, 1, none⟩ = some (.int .i64 m1) := fun y => (y.cell _ (r_m z10).lt).trans (c_m_1 z10)
      have j_n_0 : ∀ y : Wb z10.at, y.at.cell? ⟨nA, 0, none⟩ = some (.pointer p2) := fun y => (y.cell _ (r_n z10).lt).trans (c_n_0 z10)
      have j_n_1 : ∀ y : Wb z10.at, y.at.cell? ⟨nA, 1, none⟩ = some (.int .i64 m2) := fun y => (y.cell _ (r_n z10).lt).trans (c_n_1 z10)
      clear c_m_0 c_m_1 c_n_0 c_n_1
      cases D
      all_goals
        iterate 8 go_big_quiet_step (first | (go_at_call 30; exact Calls.wb (SM.out _)) | (go_at_call 31; exact Calls.wb (KY1.out _)))
        repeat (go_big_quiet_step (first | (go_at_call 31; exact Calls.wb (KY2.out _))))
        refine wpQuiet_nil ?_
        rintro _ ⟨y, rfl⟩
        go_wp2
        go_ret
        exact ⟨by first | rfl | (simp; done) | (simp; have e : s1 = s2 := of_decide_eq_true ED; rw [e]) | (simp; intro h; rw [ByteArray.toList_eq, ByteArray.toList_eq] at h; exact of_decide_eq_false ED (WideShapes.bytes_inj h)), (KK.out z10).trans (y.bel.mono (KK.out z10).size)⟩
    · have d2 : decide (200 < (n2 : Int)) = true := by simp; omega
      go_wp2
      go_ret
      exact ⟨by first | rfl | simp, KK.out z1⟩
  · have d1 : decide (200 < (n1 : Int)) = true := by simp; omega
    go_wp2
    go_ret
    exact ⟨by first | rfl | simp, KK.out z1⟩

theorem StoreAlike_rows (v1 : Value) (n1 : Nat) (R1 : Nat → List Value) (v2 : Value) (n2 : Nat) (R2 : Nat → List Value) (w : World) (s1 : SlAt w v1 2 n1 ((List.range n1).flatMap R1)) (g1 : ∀ i, i < n1 → ∃ p : Int × Int, R1 i = [.int .u64 p.1, .int .u64 p.2] ∧ (0 ≤ p.1 ∧ p.1 < 18446744073709551616) ∧ 0 ≤ p.2 ∧ p.2 < 18446744073709551616) (s2 : SlAt w v2 2 n2 ((List.range n2).flatMap R2)) (g2 : ∀ i, i < n2 → ∃ p : Int × Int, R2 i = [.int .u64 p.1, .int .u64 p.2] ∧ (0 ≤ p.1 ∧ p.1 < 18446744073709551616) ∧ 0 ≤ p.2 ∧ p.2 < 18446744073709551616) :
    Calls Try.prog 6 #[v1, v2] w fun e w' => e = .returned (.bool true) ∧ Below w.heap.size w w' := by
  obtain ⟨L1, hL1, hB1⟩ := slp_of_rows s1 g1
  obtain ⟨L2, hL2, hB2⟩ := slp_of_rows s2 g2
  exact StoreAlike_walk v1 v2 L1 L2 w hL1 hB1 hL2 hB2
end Go.Proofs.Ytnpgpbcpgniloaa
