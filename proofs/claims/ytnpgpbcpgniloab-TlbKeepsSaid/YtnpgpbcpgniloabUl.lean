/-
  Layer 9, the laws' walks: TlbServing, TlbPlays.
-/
import Derived.Test.YtnpgpbcpgniloabUk
import Derived.Test.YtnpgpbcpgniloabTf
set_option linter.unusedSimpArgs false
set_option linter.unusedVariables false
namespace Go.Proofs.Ytnpgpbcpgniloab
open Go.RowKit GrT

theorem mem_snoc_bool (e x : E) (l : List E) : decide (e ∈ l ++ [x]) = (decide (e ∈ l) || decide (x = e)) := by
  rw [Bool.eq_iff_iff]
  simp only [decide_eq_true_eq, Bool.or_eq_true, List.mem_append, List.mem_singleton]
  constructor
  · rintro (h | h)
    · exact .inl h
    · exact .inr h.symm
  · rintro (h | h)
    · exact .inl h
    · exact .inr h.symm

set_option maxRecDepth 100000 in
set_option maxHeartbeats 12800000 in
theorem TlbServing_walk (v : Value) (S : OpTs) (n p : Int) (w : World) (h : SlT w v S) (hbd : BdT S) (hp0 : 0 ≤ p) (hp1 : p < 18446744073709551616) :
    Calls Try.prog 6 #[v, .int .i64 n, .int .u64 p] w fun e w' => e = .returned (.bool true) ∧ Below w.heap.size w w' := by
  have AW := Lib.hid (fun w => tawake_any w)
  have HS := Lib.hid h
  have HB := Lib.hid hbd
  clear h hbd
  have HP := Lib.hid (show 0 ≤ p ∧ p < 18446744073709551616 from ⟨hp0, hp1⟩)
  clear hp0 hp1
  go_enter Try.func6, Try.ntmps6
  go_wp2_with fail
  refine (AW.out _).mono ?_
  rintro e w1 ⟨rfl, g⟩
  obtain ⟨y0, rfl⟩ := Wb.start g
  clear g
  have KK := Lib.hid (KB.at (Below.refl w.heap.size w))
  go_wp2_with fail
  refine (tplayed_any v S y0.at (HS.out.below (KK.out y0)) HB.out).mono ?_
  rintro e w2 ⟨bv, lv, L, rfl, hb, hl, ri, lb, ln, g⟩
  obtain ⟨bp, bn, bc, rfl⟩ := SlAt.form hb
  obtain ⟨lp, lm, lc, rfl⟩ := SlAt.form hl
  obtain ⟨y1, rfl⟩ := Wb.next (x := y0) g
  have BL1 := Lib.hid hb
  have LL1 := Lib.hid hl
  have RI := Lib.hid ri
  have LBB := Lib.hid lb
  have LN := Lib.hid (show L.length ≤ 500 by omega)
  have LN50 := Lib.hid ln
  have HL := Lib.hid (show lm = L.length from hl.len)
  clear hb hl ri lb ln g
  go_upto_region 4 with fail
  refine to_cls ?_
  intro U2 hU2 y2
  have r_m : ∀ z : Wb U2, Row z.at (y1.at.heap.size) [.slice bp bn bc] 29 := Row.next (Row.new _ [.slice bp bn bc] _) hU2
  have KK := Lib.hid (KB.next (KB.alloc (KK.out y1) _) hU2)
  have BL := Lib.hid (fun z : Wb U2 => (((BL1.out).below (KB.alloc (Below.refl _ _) _ : Below y1.at.heap.size y1.at _)).below hU2).below z.bel)
  have LL := Lib.hid (fun z : Wb U2 => (((LL1.out).below (KB.alloc (Below.refl _ _) _ : Below y1.at.heap.size y1.at _)).below hU2).below z.bel)
  clear hU2
  have c_m_0 : ∀ z : Wb U2, z.at.cell? ⟨y1.at.heap.size, 0, none⟩ = some (.slice bp bn bc) := fun z => (r_m z).cell 0
  obtain ⟨mA, hmA⟩ : ∃ b, b = y1.at.heap.size := ⟨_, rfl⟩
  rw [← hmA] at r_m c_m_0
  simp only [← hmA]
  clear hmA
  clear BL1 LL1
  obtain ⟨FL, hFL⟩ : ∃ FL, FL = L.filter fun x => serves x n p := ⟨_, rfl⟩
  have FN := Lib.hid (show FL.length ≤ 500 by rw [hFL]; exact Nat.le_trans (List.length_filter_le _ _) LN.out)
  have SB := Lib.hid (fun z => serving_any (.slice bp bn bc) L n p z)
  have SR := Lib.hid (fun z => rserving_any (.slice lp lm lc) L n p z)
  rw [← hFL] at SB SR
  clear hFL
  go_wp2_with fail
  refine (SB.out y2.at (BL.out y2) LN.out LBB.out HP.out.1 HP.out.2).mono ?_
  rintro e w3 ⟨v2, rfl, o2, g2⟩
  have L3 := Lib.hid ((LL.out y2).below g2)
  have O2 := Lib.hid o2
  have K3 := Lib.hid ((KK.out y2).trans (g2.mono (KK.out y2).size))
  clear o2 g2
  go_wp2_with fail
  refine (SR.out w3 L3.out LN.out LBB.out HP.out.1 HP.out.2).mono ?_
  rintro e w4 ⟨v3, rfl, o3, g3⟩
  have HA := Lib.hid (show SlE w4 v2 FL from SlAt.own (own_below O2.out g3))
  have HC := Lib.hid (show SlE w4 v3 FL from SlAt.own o3)
  have K4 := Lib.hid (K3.out.trans (g3.mono K3.out.size))
  clear o3 g3
  have SA := Lib.hid (rsame_any v2 v3 FL FL w4 HA.out HC.out (by have := FN.out; omega))
  rw [decide_eq_true (rfl : FL = FL)] at SA
  go_wp2_with fail
  refine SA.out.mono ?_
  rintro e w5 ⟨rfl, g4⟩
  have K5 := Lib.hid (K4.out.trans (g4.mono K4.out.size))
  clear g4
  go_wp2
  go_ret
  exact ⟨rfl, K5.out⟩

set_option maxRecDepth 100000 in
set_option maxHeartbeats 12800000 in
theorem TlbPlays_walk (v : Value) (S : OpTs) (e0 e1 e2 e3 : Int) (w : World) (h : SlT w v S) (hbd : BdT S) :
    Calls Try.prog 3 #[v, .agg #[.int .i64 e0, .int .u64 e1, .int .u64 e2, .int .u64 e3]] w fun e w' => e = .returned (.bool true) ∧ Below w.heap.size w w' := by
  have AW := Lib.hid (fun w => tawake_any w)
  have HS := Lib.hid h
  have HB := Lib.hid hbd
  clear h hbd
  go_enter Try.func3, Try.ntmps3
  go_upto_region 1 with fail
  refine to_cls ?_
  intro U0 hU0 y0
  have r_e : ∀ z : Wb U0, Row z.at (w.heap.size) [.int .i64 e0, .int .u64 e1, .int .u64 e2, .int .u64 e3] 25 := Row.next (Row.new' _ [.int .i64 e0, .int .u64 e1, .int .u64 e2, .int .u64 e3] _ _ (by simp)) hU0
  have KK := Lib.hid (KB.next (KB.alloc (Below.refl _ _) _) hU0)
  clear hU0
  have c_e_0 : ∀ z : Wb U0, z.at.cell? ⟨w.heap.size, 0, none⟩ = some (.int .i64 e0) := fun z => (r_e z).cell 0
  have c_e_1 : ∀ z : Wb U0, z.at.cell? ⟨w.heap.size, 1, none⟩ = some (.int .u64 e1) := fun z => (r_e z).cell 1
  have c_e_2 : ∀ z : Wb U0, z.at.cell? ⟨w.heap.size, 2, none⟩ = some (.int .u64 e2) := fun z => (r_e z).cell 2
  have c_e_3 : ∀ z : Wb U0, z.at.cell? ⟨w.heap.size, 3, none⟩ = some (.int .u64 e3) := fun z => (r_e z).cell 3
  go_wp2_with fail
  refine (AW.out _).mono ?_
  rintro e w1 ⟨rfl, g⟩
  obtain ⟨y1, rfl⟩ := Wb.next (x := y0) g
  clear g
  go_wp2_with fail
  refine (tplayed_any v S y1.at (HS.out.below (KK.out y1)) HB.out).mono ?_
  rintro e w2 ⟨bv, lv, L, rfl, hb, hl, ri, lb, ln, g⟩
  obtain ⟨bp, bn, bc, rfl⟩ := SlAt.form hb
  obtain ⟨lp, lm, lc, rfl⟩ := SlAt.form hl
  obtain ⟨y2, rfl⟩ := Wb.next (x := y1) g
  have BL1 := Lib.hid hb
  have LL1 := Lib.hid hl
  have RI := Lib.hid ri
  have LBB := Lib.hid lb
  have LN := Lib.hid (show L.length ≤ 500 by omega)
  have LN50 := Lib.hid ln
  have HL := Lib.hid (show lm = L.length from hl.len)
  clear hb hl ri lb ln g
  go_upto_region 4 with fail
  refine to_cls ?_
  intro U3 hU3 y3
  clear c_e_0 c_e_1 c_e_2 c_e_3
  have r_e : ∀ z : Wb U3, Row z.at (w.heap.size) [.int .i64 e0, .int .u64 e1, .int .u64 e2, .int .u64 e3] 25 := Row.next ((r_e y2).old _) hU3
  have r_m : ∀ z : Wb U3, Row z.at (y2.at.heap.size) [.slice bp bn bc] 29 := Row.next (Row.new _ [.slice bp bn bc] _) hU3
  have KK := Lib.hid (KB.next (KB.alloc (KK.out y2) _) hU3)
  have BL := Lib.hid (fun z : Wb U3 => (((BL1.out).below (KB.alloc (Below.refl _ _) _ : Below y2.at.heap.size y2.at _)).below hU3).below z.bel)
  have LL := Lib.hid (fun z : Wb U3 => (((LL1.out).below (KB.alloc (Below.refl _ _) _ : Below y2.at.heap.size y2.at _)).below hU3).below z.bel)
  clear hU3
  have c_e_0 : ∀ z : Wb U3, z.at.cell? ⟨w.heap.size, 0, none⟩ = some (.int .i64 e0) := fun z => (r_e z).cell 0
  have c_e_1 : ∀ z : Wb U3, z.at.cell? ⟨w.heap.size, 1, none⟩ = some (.int .u64 e1) := fun z => (r_e z).cell 1
  have c_e_2 : ∀ z : Wb U3, z.at.cell? ⟨w.heap.size, 2, none⟩ = some (.int .u64 e2) := fun z => (r_e z).cell 2
  have c_e_3 : ∀ z : Wb U3, z.at.cell? ⟨w.heap.size, 3, none⟩ = some (.int .u64 e3) := fun z => (r_e z).cell 3
  have c_m_0 : ∀ z : Wb U3, z.at.cell? ⟨y2.at.heap.size, 0, none⟩ = some (.slice bp bn bc) := fun z => (r_m z).cell 0
  obtain ⟨mA, hmA⟩ : ∃ b, b = y2.at.heap.size := ⟨_, rfl⟩
  rw [← hmA] at r_m c_m_0
  simp only [← hmA]
  clear hmA
  clear BL1 LL1
  go_wp2_with fail
  go_loopw [7, 8] (fun hv iv wr => ∃ k : Nat, k ≤ lm ∧ iv = .int .i64 (k : Int) ∧ hv = .bool (decide ((⟨e0, e1, e2, e3⟩ : E) ∈ L.take k)) ∧ Below y3.at.heap.size y3.at wr) (fun _ iv _ => lm - (intOf iv).toNat)
  case atStart => exact ⟨0, by omega, rfl, by simp, Below.refl _ _⟩
  case round =>
    obtain ⟨k, hk, rfl, rfl, hb⟩ := hrel
    have BB := Lib.hid hb
    clear hb
    obtain ⟨hv, hhv⟩ : ∃ hv, hv = decide ((⟨e0, e1, e2, e3⟩ : E) ∈ L.take k) := ⟨_, rfl⟩
    rw [← hhv]
    have HV := Lib.hid hhv
    clear hhv
    have l9 : (lm : Int) ≤ 500 := by have := HL.out; have := LN.out; omega
    have KW := Lib.hid ((KK.out y3).trans (BB.out.mono (KK.out y3).size))
    by_cases ck : k < lm
    · skip
      obtain ⟨a, rfl⟩ := SlE.addr (LL.out y3) (by omega)
      have lk : k < L.length := by have := HL.out; omega
      have AT := Lib.hid (fun y : Wb wr => ((LL.out y3).below (BB.out.trans (y.bel.mono BB.out.size))).at k lk)
      have TK := Lib.hid (show L.take (k + 1) = L.take k ++ [L[k]] from List.take_succ_eq_append_getElem lk)
      obtain ⟨⟨x0, x1, x2, x3⟩, hx⟩ : ∃ x, x = L[k] := ⟨_, rfl⟩
      rw [← hx] at AT TK
      simp only at AT
      obtain ⟨b, hb⟩ : ∃ b, b = decide ((⟨x0, x1, x2, x3⟩ : E) = ⟨e0, e1, e2, e3⟩) := ⟨_, rfl⟩
      have EQ : ∀ w, (binOp .eql 25 (.agg #[.int .i64 x0, .int .u64 x1, .int .u64 x2, .int .u64 x3]) (.agg #[.int .i64 e0, .int .u64 e1, .int .u64 e2, .int .u64 e3])).run Try.prog w = .ok (.bool b) w := fun w => by rw [run_eql_ev, hb]
      have NX := Lib.hid (show decide ((⟨e0, e1, e2, e3⟩ : E) ∈ L.take (k + 1)) = (hv || b) by rw [TK.out, HV.out, hb]; exact mem_snoc_bool _ _ _)
      have i0 : (0 : Int) ≤ (k : Int) := by omega
      have i1 : (k : Int) < (lm : Int) := by omega
      have x0' := fun y : Wb wr => (AT.out y).1
      have x1' := fun y : Wb wr => (AT.out y).2.1
      have x2' := fun y : Wb wr => (AT.out y).2.2.1
      have x3' := fun y : Wb wr => (AT.out y).2.2.2
      have c0 : ∀ y : Wb wr, y.at.cell? ⟨w.heap.size, 0, none⟩ = some (.int .i64 e0) := fun y => ((r_e y3).below (BB.out.trans (y.bel.mono BB.out.size))).cell 0
      have c1 : ∀ y : Wb wr, y.at.cell? ⟨w.heap.size, 1, none⟩ = some (.int .u64 e1) := fun y => ((r_e y3).below (BB.out.trans (y.bel.mono BB.out.size))).cell 1
      have c2 : ∀ y : Wb wr, y.at.cell? ⟨w.heap.size, 2, none⟩ = some (.int .u64 e2) := fun y => ((r_e y3).below (BB.out.trans (y.bel.mono BB.out.size))).cell 2
      have c3 : ∀ y : Wb wr, y.at.cell? ⟨w.heap.size, 3, none⟩ = some (.int .u64 e3) := fun y => ((r_e y3).below (BB.out.trans (y.bel.mono BB.out.size))).cell 3
      clear hx lk hb
      cases hv
      all_goals
        go_wp2_with fail
        refine wp_region_wb_tail 8 (by kernel_rfl) (by kernel_rfl) ?_
        simp only [List.take_succ_cons, List.take_zero, List.drop_succ_cons, List.drop_zero]
        repeat (go_big_quiet_step (fail))
        refine wpQuiet_nil ?_
        rintro _ ⟨y, rfl⟩
        go_wp2
        go_roundw
        case rel => exact ⟨k + 1, by omega, by go_num, by rw [NX.out]; first | rfl | simp, BB.out.trans (y.bel.mono BB.out.size)⟩
        case measure => simp [intOf]; omega
    · skip
      obtain rfl : k = lm := by omega
      have HF := Lib.hid (show hv = decide ((⟨e0, e1, e2, e3⟩ : E) ∈ L) by rw [HV.out, HL.out, List.take_length])
      have m0 : wr.cell? ⟨mA, 0, none⟩ = some (.slice bp bn bc) := ((r_m y3).below BB.out).cell 0
      go_wp2_with fail
      refine (entries_any (.slice bp bn bc) L wr ((BL.out y3).below BB.out) (by have := LN.out; omega)).mono ?_
      rintro e w3 ⟨v2, rfl, o2, g2⟩
      have SA := Lib.hid (rsame_any v2 (.slice lp k lc) L L w3 (SlAt.own o2) (((LL.out y3).below BB.out).below g2) (by have := LN.out; omega))
      rw [decide_eq_true (rfl : L = L)] at SA
      have B3 := Lib.hid (BB.out.trans (g2.mono BB.out.size))
      clear o2 g2 m0
      go_wp2_with fail
      refine SA.out.mono ?_
      rintro e w4 ⟨rfl, g3⟩
      have B4 := Lib.hid (B3.out.trans (g3.mono B3.out.size))
      have m0 : w4.cell? ⟨mA, 0, none⟩ = some (.slice bp bn bc) := ((r_m y3).below B4.out).cell 0
      have LE := Lib.hid (len_any (.slice bp bn bc) L w4 ((BL.out y3).below B4.out))
      rw [← HL.out] at LE
      clear g3
      go_wp2_with fail
      refine LE.out.mono ?_
      rintro e w5 ⟨rfl, g4⟩
      have B5 := Lib.hid (B4.out.trans (g4.mono B4.out.size))
      have m5 : w5.cell? ⟨mA, 0, none⟩ = some (.slice bp bn bc) := ((r_m y3).below B5.out).cell 0
      have c0 : w5.cell? ⟨w.heap.size, 0, none⟩ = some (.int .i64 e0) := ((r_e y3).below B5.out).cell 0
      have c1 : w5.cell? ⟨w.heap.size, 1, none⟩ = some (.int .u64 e1) := ((r_e y3).below B5.out).cell 1
      have c2 : w5.cell? ⟨w.heap.size, 2, none⟩ = some (.int .u64 e2) := ((r_e y3).below B5.out).cell 2
      have c3 : w5.cell? ⟨w.heap.size, 3, none⟩ = some (.int .u64 e3) := ((r_e y3).below B5.out).cell 3
      have HH := Lib.hid (has_ev (.slice bp bn bc) L e0 e1 e2 e3 w5 ((BL.out y3).below B5.out) RI.out LN.out)
      rw [← HF.out] at HH
      clear g4
      go_wp2_with fail
      refine HH.out.mono ?_
      rintro e w6 ⟨rfl, g5⟩
      have B6 := Lib.hid ((KK.out y3).trans ((B5.out.trans (g5.mono B5.out.size)).mono (KK.out y3).size))
      clear g5 m0 m5 c0 c1 c2 c3
      cases hv
      all_goals
        go_wp2
        go_ret
        exact ⟨rfl, B6.out⟩
end Go.Proofs.Ytnpgpbcpgniloab
