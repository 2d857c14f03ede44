/-
  Layer 9, the laws' walks: TlbKeeps.
-/
import Derived.Test.YtnpgpbcpgniloabUm
set_option linter.unusedSimpArgs false
set_option linter.unusedVariables false
namespace GrT
open Go
theorem entsC_space (L : List E) (k : Nat) (h : k < L.length) (s : Int) : (entsC L).set (k * 4) (.int .i64 s) = entsC (L.set k ⟨s, L[k].page, L[k].first, L[k].last⟩) := by
  induction L generalizing k with
  | nil => simp at h
  | cons p L ih =>
    have e : entsC (p :: L) = .int .i64 p.space :: .int .u64 p.page :: .int .u64 p.first :: .int .u64 p.last :: entsC L := rfl
    cases k with
    | zero => rw [e]; rfl
    | succ k =>
      have := ih k (by simpa using h)
      rw [e, show (k + 1) * 4 = k * 4 + 4 by omega]
      show _ :: _ :: _ :: _ :: ((entsC L).set (k * 4) (.int .i64 s)) = _
      rw [this]
      rfl
end GrT
namespace Go.Proofs.Ytnpgpbcpgniloab
open Go.RowKit GrT

theorem own_cap3 {w : World} {base : Nat} {e : TypeId} {K g cap n : Nat} {xs : List Value} (h : w.ownsRow base e K (.slice (some ⟨g, 0, none⟩) n cap) n xs) : n ≤ cap ∧ cap ≤ maxLen ∧ base ≤ g := by
  obtain ⟨h1, ⟨h2, _⟩ | ⟨g', c', cur, e1, hb, hg, hn, hc, hs, ht⟩⟩ := h
  · cases h2
  · injection e1 with a b c
    injection a with a
    injection a with a
    subst a c
    exact ⟨hn, hc, hb⟩

set_option maxRecDepth 100000 in
set_option maxHeartbeats 12800000 in
theorem TlbKeeps_walk (v : Value) (S : OpTs) (kd e0 e1 e2 e3 fk fp fs : Int) (w : World) (h : SlT w v S) (hbd : BdT S) (hp0 : 0 ≤ fp) (hp1 : fp < 18446744073709551616) :
    Calls Try.prog 4 #[v, .agg #[.int .i64 kd, .int .i64 e0, .int .u64 e1, .int .u64 e2, .int .u64 e3, .int .i64 fk, .int .u64 fp, .int .i64 fs]] w fun e w' => e = .returned (.bool true) ∧ Below w.heap.size w w' := by
  have AW := Lib.hid (fun w => tawake_any w)
  have HS := Lib.hid h
  have HB := Lib.hid hbd
  clear h hbd
  have FB := Lib.hid (show 0 ≤ fp ∧ fp < 18446744073709551616 from ⟨hp0, hp1⟩)
  clear hp0 hp1
  go_enter Try.func4, Try.ntmps4
  go_upto_region 1 with fail
  refine to_cls ?_
  intro U0 hU0 y0
  have r_o : ∀ z : Wb U0, Row z.at (w.heap.size) [.int .i64 kd, .int .i64 e0, .int .u64 e1, .int .u64 e2, .int .u64 e3, .int .i64 fk, .int .u64 fp, .int .i64 fs] 40 := Row.next (Row.new' _ [.int .i64 kd, .int .i64 e0, .int .u64 e1, .int .u64 e2, .int .u64 e3, .int .i64 fk, .int .u64 fp, .int .i64 fs] _ _ (by simp)) hU0
  have KK := Lib.hid (KB.next (KB.alloc (Below.refl _ _) _) hU0)
  clear hU0
  have c_o_0 : ∀ z : Wb U0, z.at.cell? ⟨w.heap.size, 0, none⟩ = some (.int .i64 kd) := fun z => (r_o z).cell 0
  have c_o_1 : ∀ z : Wb U0, z.at.cell? ⟨w.heap.size, 1, none⟩ = some (.int .i64 e0) := fun z => (r_o z).cell 1
  have c_o_2 : ∀ z : Wb U0, z.at.cell? ⟨w.heap.size, 2, none⟩ = some (.int .u64 e1) := fun z => (r_o z).cell 2
  have c_o_3 : ∀ z : Wb U0, z.at.cell? ⟨w.heap.size, 3, none⟩ = some (.int .u64 e2) := fun z => (r_o z).cell 3
  have c_o_4 : ∀ z : Wb U0, z.at.cell? ⟨w.heap.size, 4, none⟩ = some (.int .u64 e3) := fun z => (r_o z).cell 4
  have c_o_5 : ∀ z : Wb U0, z.at.cell? ⟨w.heap.size, 5, none⟩ = some (.int .i64 fk) := fun z => (r_o z).cell 5
  have c_o_6 : ∀ z : Wb U0, z.at.cell? ⟨w.heap.size, 6, none⟩ = some (.int .u64 fp) := fun z => (r_o z).cell 6
  have c_o_7 : ∀ z : Wb U0, z.at.cell? ⟨w.heap.size, 7, none⟩ = some (.int .i64 fs) := fun z => (r_o z).cell 7
  go_wp2_with fail
  refine (AW.out _).mono ?_
  rintro e w1 ⟨rfl, g⟩
  obtain ⟨y1, rfl⟩ := Wb.next (x := y0) g
  clear g
  go_wp2_with fail
  refine (tplayed_any v S y1.at (HS.out.below (KK.out y1)) HB.out).mono ?_
  rintro e w2 ⟨bv, lv, L, rfl, hb, hl, ri, lb, ln, g⟩
  obtain ⟨bp, bn, bc, rfl⟩ := SlAt.form hb
  obtain ⟨lp, lm, lc, rfl⟩ := SlAt.form hl
  obtain ⟨y2, rfl⟩ := Wb.next (x := y1) g
  have BL1 := Lib.hid hb
  have LL1 := Lib.hid hl
  have RI := Lib.hid ri
  have LBB := Lib.hid lb
  have LN := Lib.hid (show L.length ≤ 500 by omega)
  have LN50 := Lib.hid ln
  have HL := Lib.hid (show lm = L.length from hl.len)
  clear hb hl ri lb ln g
  go_upto_region 4 with fail
  refine to_cls ?_
  intro U3 hU3 y3
  clear c_o_0 c_o_1 c_o_2 c_o_3 c_o_4 c_o_5 c_o_6 c_o_7
  have r_o : ∀ z : Wb U3, Row z.at (w.heap.size) [.int .i64 kd, .int .i64 e0, .int .u64 e1, .int .u64 e2, .int .u64 e3, .int .i64 fk, .int .u64 fp, .int .i64 fs] 40 := Row.next ((r_o y2).old _) hU3
  have r_m : ∀ z : Wb U3, Row z.at (y2.at.heap.size) [.slice bp bn bc] 29 := Row.next (Row.new _ [.slice bp bn bc] _) hU3
  have KK := Lib.hid (KB.next (KB.alloc (KK.out y2) _) hU3)
  have BL := Lib.hid (fun z : Wb U3 => (((BL1.out).below (KB.alloc (Below.refl _ _) _ : Below y2.at.heap.size y2.at _)).below hU3).below z.bel)
  have LL := Lib.hid (fun z : Wb U3 => (((LL1.out).below (KB.alloc (Below.refl _ _) _ : Below y2.at.heap.size y2.at _)).below hU3).below z.bel)
  clear hU3
  have c_o_0 : ∀ z : Wb U3, z.at.cell? ⟨w.heap.size, 0, none⟩ = some (.int .i64 kd) := fun z => (r_o z).cell 0
  have c_o_1 : ∀ z : Wb U3, z.at.cell? ⟨w.heap.size, 1, none⟩ = some (.int .i64 e0) := fun z => (r_o z).cell 1
  have c_o_2 : ∀ z : Wb U3, z.at.cell? ⟨w.heap.size, 2, none⟩ = some (.int .u64 e1) := fun z => (r_o z).cell 2
  have c_o_3 : ∀ z : Wb U3, z.at.cell? ⟨w.heap.size, 3, none⟩ = some (.int .u64 e2) := fun z => (r_o z).cell 3
  have c_o_4 : ∀ z : Wb U3, z.at.cell? ⟨w.heap.size, 4, none⟩ = some (.int .u64 e3) := fun z => (r_o z).cell 4
  have c_o_5 : ∀ z : Wb U3, z.at.cell? ⟨w.heap.size, 5, none⟩ = some (.int .i64 fk) := fun z => (r_o z).cell 5
  have c_o_6 : ∀ z : Wb U3, z.at.cell? ⟨w.heap.size, 6, none⟩ = some (.int .u64 fp) := fun z => (r_o z).cell 6
  have c_o_7 : ∀ z : Wb U3, z.at.cell? ⟨w.heap.size, 7, none⟩ = some (.int .i64 fs) := fun z => (r_o z).cell 7
  have c_m_0 : ∀ z : Wb U3, z.at.cell? ⟨y2.at.heap.size, 0, none⟩ = some (.slice bp bn bc) := fun z => (r_m z).cell 0
  obtain ⟨mA, hmA⟩ : ∃ b, b = y2.at.heap.size := ⟨_, rfl⟩
  rw [← hmA] at r_m c_m_0
  simp only [← hmA]
  clear hmA
  clear BL1 LL1
  go_wp2_with fail
  refine (entries_any (.slice bp bn bc) L y3.at (BL.out y3) (by have := LN.out; omega)).mono ?_
  rintro e w2 ⟨v3, rfl, o3, g⟩
  obtain ⟨ep, en, ec, rfl⟩ := SlAt.form (SlAt.own o3)
  obtain ⟨y4, rfl⟩ := Wb.next (x := y3) g
  have WS1 := Lib.hid (show SlE y4.at (.slice ep en ec) L from SlAt.own o3)
  clear o3 g
  have WS2 := Lib.hid (fun (V : World) (k : Below y4.at.heap.size y4.at V) => WS1.out.below k)
  go_wp2_with fail
  refine (with_ev (.slice bp bn bc) L e0 e1 e2 e3 y4.at (BL.out y4) RI.out LN.out).mono ?_
  rintro e w2 ⟨v4, rfl, hc, g⟩
  obtain ⟨cp, cn, cc, rfl⟩ := SlAt.form hc
  have WS3 := Lib.hid (WS1.out.below g)
  obtain ⟨y5, rfl⟩ := Wb.next (x := y4) g
  have CL1 := Lib.hid hc
  clear hc g
  go_upto_region 6 with fail
  refine to_cls ?_
  intro U6 hU6 y6
  clear c_o_0 c_o_1 c_o_2 c_o_3 c_o_4 c_o_5 c_o_6 c_o_7 c_m_0
  have r_o : ∀ z : Wb U6, Row z.at (w.heap.size) [.int .i64 kd, .int .i64 e0, .int .u64 e1, .int .u64 e2, .int .u64 e3, .int .i64 fk, .int .u64 fp, .int .i64 fs] 40 := Row.next ((r_o y5).old _) hU6
  have r_m : ∀ z : Wb U6, Row z.at (mA) [.slice bp bn bc] 29 := Row.next ((r_m y5).old _) hU6
  have r_c : ∀ z : Wb U6, Row z.at (y5.at.heap.size) [.slice cp cn cc] 29 := Row.next (Row.new _ [.slice cp cn cc] _) hU6
  have KK := Lib.hid (KB.next (KB.alloc (KK.out y5) _) hU6)
  have BL := Lib.hid (fun z : Wb U6 => (((BL.out y5).below (KB.alloc (Below.refl _ _) _ : Below y5.at.heap.size y5.at _)).below hU6).below z.bel)
  have CS := Lib.hid (fun z : Wb U6 => (((CL1.out).below (KB.alloc (Below.refl _ _) _ : Below y5.at.heap.size y5.at _)).below hU6).below z.bel)
  have WS := Lib.hid (fun z : Wb U6 => (((WS3.out).below (KB.alloc (Below.refl _ _) _ : Below y5.at.heap.size y5.at _)).below hU6).below z.bel)
  clear hU6
  have c_o_0 : ∀ z : Wb U6, z.at.cell? ⟨w.heap.size, 0, none⟩ = some (.int .i64 kd) := fun z => (r_o z).cell 0
  have c_o_1 : ∀ z : Wb U6, z.at.cell? ⟨w.heap.size, 1, none⟩ = some (.int .i64 e0) := fun z => (r_o z).cell 1
  have c_o_2 : ∀ z : Wb U6, z.at.cell? ⟨w.heap.size, 2, none⟩ = some (.int .u64 e1) := fun z => (r_o z).cell 2
  have c_o_3 : ∀ z : Wb U6, z.at.cell? ⟨w.heap.size, 3, none⟩ = some (.int .u64 e2) := fun z => (r_o z).cell 3
  have c_o_4 : ∀ z : Wb U6, z.at.cell? ⟨w.heap.size, 4, none⟩ = some (.int .u64 e3) := fun z => (r_o z).cell 4
  have c_o_5 : ∀ z : Wb U6, z.at.cell? ⟨w.heap.size, 5, none⟩ = some (.int .i64 fk) := fun z => (r_o z).cell 5
  have c_o_6 : ∀ z : Wb U6, z.at.cell? ⟨w.heap.size, 6, none⟩ = some (.int .u64 fp) := fun z => (r_o z).cell 6
  have c_o_7 : ∀ z : Wb U6, z.at.cell? ⟨w.heap.size, 7, none⟩ = some (.int .i64 fs) := fun z => (r_o z).cell 7
  have c_m_0 : ∀ z : Wb U6, z.at.cell? ⟨mA, 0, none⟩ = some (.slice bp bn bc) := fun z => (r_m z).cell 0
  have c_c_0 : ∀ z : Wb U6, z.at.cell? ⟨y5.at.heap.size, 0, none⟩ = some (.slice cp cn cc) := fun z => (r_c z).cell 0
  obtain ⟨cA, hcA⟩ : ∃ b, b = y5.at.heap.size := ⟨_, rfl⟩
  rw [← hcA] at r_c c_c_0
  simp only [← hcA]
  clear hcA
  clear CL1 WS1 WS2 WS3
  go_wp2_with fail
  refine (without_ev (.slice bp bn bc) L e0 e1 e2 e3 y6.at (BL.out y6) RI.out LN.out).mono ?_
  rintro e w2 ⟨v5, rfl, hc, g⟩
  obtain ⟨dp, dn, dc, rfl⟩ := SlAt.form hc
  obtain ⟨y7, rfl⟩ := Wb.next (x := y6) g
  have CL1 := Lib.hid hc
  clear hc g
  go_upto_region 7 with fail
  refine to_cls ?_
  intro U8 hU8 y8
  clear c_o_0 c_o_1 c_o_2 c_o_3 c_o_4 c_o_5 c_o_6 c_o_7 c_m_0 c_c_0
  have r_o : ∀ z : Wb U8, Row z.at (w.heap.size) [.int .i64 kd, .int .i64 e0, .int .u64 e1, .int .u64 e2, .int .u64 e3, .int .i64 fk, .int .u64 fp, .int .i64 fs] 40 := Row.next ((r_o y7).old _) hU8
  have r_m : ∀ z : Wb U8, Row z.at (mA) [.slice bp bn bc] 29 := Row.next ((r_m y7).old _) hU8
  have r_c : ∀ z : Wb U8, Row z.at (cA) [.slice cp cn cc] 29 := Row.next ((r_c y7).old _) hU8
  have r_d : ∀ z : Wb U8, Row z.at (y7.at.heap.size) [.slice dp dn dc] 29 := Row.next (Row.new _ [.slice dp dn dc] _) hU8
  have KK := Lib.hid (KB.next (KB.alloc (KK.out y7) _) hU8)
  have BL := Lib.hid (fun z : Wb U8 => (((BL.out y7).below (KB.alloc (Below.refl _ _) _ : Below y7.at.heap.size y7.at _)).below hU8).below z.bel)
  have CS := Lib.hid (fun z : Wb U8 => (((CS.out y7).below (KB.alloc (Below.refl _ _) _ : Below y7.at.heap.size y7.at _)).below hU8).below z.bel)
  have WS := Lib.hid (fun z : Wb U8 => (((WS.out y7).below (KB.alloc (Below.refl _ _) _ : Below y7.at.heap.size y7.at _)).below hU8).below z.bel)
  have DS := Lib.hid (fun z : Wb U8 => (((CL1.out).below (KB.alloc (Below.refl _ _) _ : Below y7.at.heap.size y7.at _)).below hU8).below z.bel)
  clear hU8
  have c_o_0 : ∀ z : Wb U8, z.at.cell? ⟨w.heap.size, 0, none⟩ = some (.int .i64 kd) := fun z => (r_o z).cell 0
  have c_o_1 : ∀ z : Wb U8, z.at.cell? ⟨w.heap.size, 1, none⟩ = some (.int .i64 e0) := fun z => (r_o z).cell 1
  have c_o_2 : ∀ z : Wb U8, z.at.cell? ⟨w.heap.size, 2, none⟩ = some (.int .u64 e1) := fun z => (r_o z).cell 2
  have c_o_3 : ∀ z : Wb U8, z.at.cell? ⟨w.heap.size, 3, none⟩ = some (.int .u64 e2) := fun z => (r_o z).cell 3
  have c_o_4 : ∀ z : Wb U8, z.at.cell? ⟨w.heap.size, 4, none⟩ = some (.int .u64 e3) := fun z => (r_o z).cell 4
  have c_o_5 : ∀ z : Wb U8, z.at.cell? ⟨w.heap.size, 5, none⟩ = some (.int .i64 fk) := fun z => (r_o z).cell 5
  have c_o_6 : ∀ z : Wb U8, z.at.cell? ⟨w.heap.size, 6, none⟩ = some (.int .u64 fp) := fun z => (r_o z).cell 6
  have c_o_7 : ∀ z : Wb U8, z.at.cell? ⟨w.heap.size, 7, none⟩ = some (.int .i64 fs) := fun z => (r_o z).cell 7
  have c_m_0 : ∀ z : Wb U8, z.at.cell? ⟨mA, 0, none⟩ = some (.slice bp bn bc) := fun z => (r_m z).cell 0
  have c_c_0 : ∀ z : Wb U8, z.at.cell? ⟨cA, 0, none⟩ = some (.slice cp cn cc) := fun z => (r_c z).cell 0
  have c_d_0 : ∀ z : Wb U8, z.at.cell? ⟨y7.at.heap.size, 0, none⟩ = some (.slice dp dn dc) := fun z => (r_d z).cell 0
  obtain ⟨dA, hdA⟩ : ∃ b, b = y7.at.heap.size := ⟨_, rfl⟩
  rw [← hdA] at r_d c_d_0
  simp only [← hdA]
  clear hdA
  clear CL1
  go_wp2_with fail
  refine (drop_any (.slice bp bn bc) L fk fp fs y8.at (BL.out y8) LN.out LBB.out FB.out.1 FB.out.2).mono ?_
  rintro e w2 ⟨v6, rfl, _, g⟩
  obtain ⟨y9, rfl⟩ := Wb.next (x := y8) g
  clear g
  have IR := Lib.hid (insE_rise RI.out (⟨e0, e1, e2, e3⟩ : E))
  have IN := Lib.hid (show (insE L (⟨e0, e1, e2, e3⟩ : E)).length ≤ 500 by have := insE_len L (⟨e0, e1, e2, e3⟩ : E); have := LN50.out; omega)
  have DRr := Lib.hid (rise_del RI.out (⟨e0, e1, e2, e3⟩ : E))
  have DN := Lib.hid (show (delE L (⟨e0, e1, e2, e3⟩ : E)).length ≤ 500 by have := delE_len L (⟨e0, e1, e2, e3⟩ : E); have := LN50.out; omega)
  have HC1 := Lib.hid (show decide ((⟨e0, e1, e2, e3⟩ : E) ∈ insE L ⟨e0, e1, e2, e3⟩) = true from decide_eq_true ((insE_mem RI.out _ _).2 (.inl rfl)))
  have HD1 := Lib.hid (show decide ((⟨e0, e1, e2, e3⟩ : E) ∈ delE L ⟨e0, e1, e2, e3⟩) = false from decide_eq_false (by rw [delE_filter RI.out]; simp))
  go_wp2_with fail
  refine (with_ev (.slice cp cn cc) (insE L ⟨e0, e1, e2, e3⟩) 77 0 0 0 y9.at (CS.out y9) IR.out IN.out).mono ?_
  rintro e w2 ⟨v7, rfl, _, g⟩
  obtain ⟨y10, rfl⟩ := Wb.next (x := y9) g
  clear g
  have HA := Lib.hid (has_ev (.slice cp cn cc) (insE L ⟨e0, e1, e2, e3⟩) e0 e1 e2 e3 y10.at (CS.out y10) IR.out IN.out)
  rw [HC1.out] at HA
  go_wp2_with fail
  refine (HA.out).mono ?_
  rintro e w2 ⟨rfl, g⟩
  obtain ⟨y11, rfl⟩ := Wb.next (x := y10) g
  clear g
  have HB2 := Lib.hid (has_ev (.slice dp dn dc) (delE L ⟨e0, e1, e2, e3⟩) e0 e1 e2 e3 y11.at (DS.out y11) DRr.out DN.out)
  rw [HD1.out] at HB2
  go_wp2_with fail
  refine (HB2.out).mono ?_
  rintro e w2 ⟨rfl, g⟩
  obtain ⟨y12, rfl⟩ := Wb.next (x := y11) g
  clear g
  go_wp2_with fail
  refine (entries_any (.slice bp bn bc) L y12.at (BL.out y12) (by have := LN.out; omega)).mono ?_
  rintro e w2 ⟨v8, rfl, o8, g⟩
  obtain ⟨y13, rfl⟩ := Wb.next (x := y12) g
  have SA := Lib.hid (rsame_any v8 (.slice ep en ec) L L y13.at (SlAt.own o8) (WS.out y13) (by have := LN.out; omega))
  rw [decide_eq_true (rfl : L = L)] at SA
  clear o8 g
  go_wp2_with fail
  refine (SA.out).mono ?_
  rintro e w2 ⟨rfl, g⟩
  obtain ⟨y14, rfl⟩ := Wb.next (x := y13) g
  clear g
  go_wp2_with fail
  refine (entries_any (.slice bp bn bc) L y14.at (BL.out y14) (by have := LN.out; omega)).mono ?_
  rintro e w3 ⟨v9, rfl, o9, g⟩
  have O9 := Lib.hid o9
  have G9 := Lib.hid g
  clear g o9
  obtain ⟨gp, gn, gc, rfl⟩ := SlAt.form (SlAt.own O9.out)
  have HG := Lib.hid (show gn = L.length from SlE.len (L := L) (SlAt.own O9.out))
  go_wp2_with fail
  go_loopw [11] (fun iv wr => ∃ (k : Nat) (L2 : List E), k ≤ gn ∧ iv = .int .i64 (k : Int) ∧ L2.length = gn ∧ wr.ownsRow y14.at.heap.size 25 4 (.slice gp gn gc) gn (entsC L2) ∧ Below y14.at.heap.size y14.at wr) (fun iv _ => gn - (intOf iv).toNat)
  case atStart => exact ⟨0, L, by omega, rfl, HG.out.symm, by rw [HG.out]; have := O9.out; rw [HG.out] at this; exact this, G9.out⟩
  case round =>
    obtain ⟨k, L2, hk, rfl, hl2, hown, hb⟩ := hrel
    have HO := Lib.hid hown
    have BB := Lib.hid hb
    have H2 := Lib.hid hl2
    clear hown hb hl2
    have l9 : (gn : Int) ≤ 500 := by have := HG.out; have := LN.out; omega
    have i0 : (0 : Int) ≤ (k : Int) := by omega
    by_cases ck : k < gn
    · skip
      rcases own_open HO.out with ⟨_, h0⟩ | ⟨g, cap, e, hgb, hgl, hc⟩
      · omega
      injection e with ea eb ec2
      subst ea ec2
      have lk : k < L2.length := by have := H2.out; omega
      have i1 : (k : Int) < (gn : Int) := by omega
      have y0 := hc _ _ (entsC_get L2 k lk).1
      have f0 := HO.out.frozenAt (k * 4)
      have capm := (own_cap3 HO.out).1
      have GB := Lib.hid hgb
      have ST := Lib.hid (fun s => (show (entsC L2).set (k * 4) (.int .i64 s) = entsC (L2.set k ⟨s, L2[k].page, L2[k].first, L2[k].last⟩) from entsC_space L2 k lk s))
      obtain ⟨x0, hx⟩ : ∃ x, x = L2[k].space := ⟨_, rfl⟩
      rw [← hx] at y0
      clear hx hc hgb hgl
      go_wp2
      go_roundw
      case rel =>
        refine ⟨k + 1, _, by omega, by go_num, ?hl, (by have := (HO.out.stored (k * 4) (.int .i64 (bits .xor .i64 x0 1))).1; rw [ST.out] at this; exact this), BB.out.setCell (p := ⟨g, k * 4, none⟩) GB.out _⟩
        rw [List.length_set]
        exact H2.out
      case measure => simp [intOf]; omega
    · skip
      have m0 : wr.cell? ⟨mA, 0, none⟩ = some (.slice bp bn bc) := ((r_m y14).below BB.out).cell 0
      go_wp2_with fail
      refine (entries_any (.slice bp bn bc) L wr ((BL.out y14).below BB.out) (by have := LN.out; omega)).mono ?_
      rintro e w4 ⟨v10, rfl, o10, g⟩
      have SA2 := Lib.hid (rsame_any v10 (.slice ep en ec) L L w4 (SlAt.own o10) (((WS.out y14).below BB.out).below g) (by have := LN.out; omega))
      rw [decide_eq_true (rfl : L = L)] at SA2
      have B4 := Lib.hid (BB.out.trans (g.mono BB.out.size))
      clear o10 g m0
      go_wp2_with fail
      refine SA2.out.mono ?_
      rintro e w5 ⟨rfl, g⟩
      have B5 := Lib.hid ((KK.out y14).trans ((B4.out.trans (g.mono B4.out.size)).mono (KK.out y14).size))
      clear g
      go_wp2
      go_ret
      exact ⟨rfl, B5.out⟩

section
variable {H : Type} {enc : TypeId × Value → H} {w : World} {base : Nat} {spare : Nat → Bool} {held : Bool}
open Go.ChangeShapes Go.WideShapes Go.ChangeAt
theorem open_opT_arg {r : Reach} {b0 : Nat} {v : Value} {d : DataW H} {p : List MemPlace} (hv : Value.okWide Try.prog w r b0 40 v) (h : DataW.Trod enc Try.prog w base spare held 40 v d p) :
    ∃ q : OpT, v = .agg #[.int .i64 q.kd, .int .i64 q.e.space, .int .u64 q.e.page, .int .u64 q.e.first, .int .u64 q.e.last, .int .i64 q.fk, .int .u64 q.fp, .int .i64 q.fs] ∧ 0 ≤ q.fp ∧ q.fp < 18446744073709551616 := by
  obtain ⟨cs, rfl, hsz⟩ := okWide_struct Try.underlying40 hv
  obtain ⟨l⟩ := cs
  have hl : l.length = 8 := hsz.trans (by kernel_rfl)
  obtain ⟨fuel, hf⟩ := h
  obtain ⟨q, rfl, _, hp⟩ := open_opT hl hf
  exact ⟨q, rfl, hp⟩
end
theorem TlbKeeps_rows (v : Value) (k : Nat) (R : Nat → List Value) (q : OpT) (w : World) (s : SlAt w v 8 k ((List.range k).flatMap R)) (g : ∀ i, i < k → ∃ q : OpT, R i = [.int .i64 q.kd, .int .i64 q.e.space, .int .u64 q.e.page, .int .u64 q.e.first, .int .u64 q.e.last, .int .i64 q.fk, .int .u64 q.fp, .int .i64 q.fs] ∧ EB q.e ∧ 0 ≤ q.fp ∧ q.fp < 18446744073709551616) (b : 0 ≤ q.fp ∧ q.fp < 18446744073709551616) :
    Calls Try.prog 4 #[v, .agg #[.int .i64 q.kd, .int .i64 q.e.space, .int .u64 q.e.page, .int .u64 q.e.first, .int .u64 q.e.last, .int .i64 q.fk, .int .u64 q.fp, .int .i64 q.fs]] w fun e w' => e = .returned (.bool true) ∧ Below w.heap.size w w' := by
  obtain ⟨S, hS, hB⟩ := SlT_rows s g
  exact TlbKeeps_walk v S q.kd q.e.space q.e.page q.e.first q.e.last q.fk q.fp q.fs w hS hB b.1 b.2
end Go.Proofs.Ytnpgpbcpgniloab
