/-
  Layer 9, the laws' walks: TlbDrops.
-/
import Derived.Test.YtnpgpbcpgniloabUm
import Derived.Deep.RegionHeld3
set_option linter.unusedSimpArgs false
set_option linter.unusedVariables false
namespace Go.Proofs.Ytnpgpbcpgniloab
open Go.RowKit GrT

set_option maxRecDepth 100000 in
set_option maxHeartbeats 12800000 in
theorem TlbDrops_walk (v : Value) (S : OpTs) (fk fp fs : Int) (w : World) (h : SlT w v S) (hbd : BdT S) (hp0 : 0 ≤ fp) (hp1 : fp < 18446744073709551616) :
    Calls Try.prog 5 #[v, .agg #[.int .i64 fk, .int .u64 fp, .int .i64 fs]] w fun e w' => e = .returned (.bool true) ∧ Below w.heap.size w w' := by
  have AW := Lib.hid (fun w => tawake_any w)
  have HS := Lib.hid h
  have HB := Lib.hid hbd
  clear h hbd
  have FB := Lib.hid (show 0 ≤ fp ∧ fp < 18446744073709551616 from ⟨hp0, hp1⟩)
  clear hp0 hp1
  go_enter Try.func5, Try.ntmps5
  go_upto_region 1 with fail
  refine to_cls ?_
  intro U0 hU0 y0
  have r_f : ∀ z : Wb U0, Row z.at (w.heap.size) [.int .i64 fk, .int .u64 fp, .int .i64 fs] 38 := Row.next (Row.new' _ [.int .i64 fk, .int .u64 fp, .int .i64 fs] _ _ (by simp)) hU0
  have KK := Lib.hid (KB.next (KB.alloc (Below.refl _ _) _) hU0)
  clear hU0
  have c_f_0 : ∀ z : Wb U0, z.at.cell? ⟨w.heap.size, 0, none⟩ = some (.int .i64 fk) := fun z => (r_f z).cell 0
  have c_f_1 : ∀ z : Wb U0, z.at.cell? ⟨w.heap.size, 1, none⟩ = some (.int .u64 fp) := fun z => (r_f z).cell 1
  have c_f_2 : ∀ z : Wb U0, z.at.cell? ⟨w.heap.size, 2, none⟩ = some (.int .i64 fs) := fun z => (r_f z).cell 2
  go_wp2_with fail
  refine (AW.out _).mono ?_
  rintro e w1 ⟨rfl, g⟩
  obtain ⟨y1, rfl⟩ := Wb.next (x := y0) g
  clear g
  go_wp2_with fail
  refine (tplayed_any v S y1.at (HS.out.below (KK.out y1)) HB.out).mono ?_
  rintro e w2 ⟨bv, lv, L, rfl, hb, hl, ri, lb, ln, g⟩
  obtain ⟨bp, bn, bc, rfl⟩ := SlAt.form hb
  obtain ⟨lp, lm, lc, rfl⟩ := SlAt.form hl
  obtain ⟨y2, rfl⟩ := Wb.next (x := y1) g
  have BL1 := Lib.hid hb
  have LL1 := Lib.hid hl
  have RI := Lib.hid ri
  have LBB := Lib.hid lb
  have LN := Lib.hid (show L.length ≤ 500 by omega)
  have LN50 := Lib.hid ln
  have HL := Lib.hid (show lm = L.length from hl.len)
  clear hb hl ri lb ln g
  go_upto_region 4 with fail
  refine to_cls ?_
  intro U3 hU3 y3
  clear c_f_0 c_f_1 c_f_2
  have r_f : ∀ z : Wb U3, Row z.at (w.heap.size) [.int .i64 fk, .int .u64 fp, .int .i64 fs] 38 := Row.next ((r_f y2).old _) hU3
  have r_m : ∀ z : Wb U3, Row z.at (y2.at.heap.size) [.slice bp bn bc] 29 := Row.next (Row.new _ [.slice bp bn bc] _) hU3
  have KK := Lib.hid (KB.next (KB.alloc (KK.out y2) _) hU3)
  have BL := Lib.hid (fun z : Wb U3 => (((BL1.out).below (KB.alloc (Below.refl _ _) _ : Below y2.at.heap.size y2.at _)).below hU3).below z.bel)
  have LL := Lib.hid (fun z : Wb U3 => (((LL1.out).below (KB.alloc (Below.refl _ _) _ : Below y2.at.heap.size y2.at _)).below hU3).below z.bel)
  clear hU3
  have c_f_0 : ∀ z : Wb U3, z.at.cell? ⟨w.heap.size, 0, none⟩ = some (.int .i64 fk) := fun z => (r_f z).cell 0
  have c_f_1 : ∀ z : Wb U3, z.at.cell? ⟨w.heap.size, 1, none⟩ = some (.int .u64 fp) := fun z => (r_f z).cell 1
  have c_f_2 : ∀ z : Wb U3, z.at.cell? ⟨w.heap.size, 2, none⟩ = some (.int .i64 fs) := fun z => (r_f z).cell 2
  have c_m_0 : ∀ z : Wb U3, z.at.cell? ⟨y2.at.heap.size, 0, none⟩ = some (.slice bp bn bc) := fun z => (r_m z).cell 0
  obtain ⟨mA, hmA⟩ : ∃ b, b = y2.at.heap.size := ⟨_, rfl⟩
  rw [← hmA] at r_m c_m_0
  simp only [← hmA]
  clear hmA
  clear BL1 LL1
  obtain ⟨CL, hCL⟩ : ∃ CL, CL = L.filter (fun x => !takes fk fp fs x) := ⟨_, rfl⟩
  have HC := Lib.hid hCL
  have CN := Lib.hid (show CL.length ≤ 500 by rw [hCL]; exact Nat.le_trans (List.length_filter_le _ _) LN.out)
  have CB := Lib.hid (show LB CL by rw [hCL]; exact LBB.out.filter _)
  have CR := Lib.hid (show Rise CL by rw [hCL]; exact rise_filter RI.out _)
  have CC := Lib.hid (show CL.filter (fun x => !takes fk fp fs x) = CL by rw [hCL, List.filter_filter]; congr 1; funext x; cases takes fk fp fs x <;> rfl)
  have DR := Lib.hid (fun (U : World) (h : SlE U (.slice bp bn bc) L) => drop_any (.slice bp bn bc) L fk fp fs U h LN.out LBB.out FB.out.1 FB.out.2)
  rw [← hCL] at DR
  have MC := Lib.hid (show ∀ x ∈ L, decide (x ∈ CL) = !takes fk fp fs x from fun x hx => by rw [hCL, Bool.eq_iff_iff]; simp [hx])
  clear hCL
  go_wp2_with fail
  refine (DR.out _ (BL.out y3)).mono ?_
  rintro e w2 ⟨v2, rfl, hc, g⟩
  obtain ⟨cp, cn, cc, rfl⟩ := SlAt.form hc
  obtain ⟨y4, rfl⟩ := Wb.next (x := y3) g
  have CL1 := Lib.hid hc
  have HN := Lib.hid (show cn = CL.length from hc.len)
  clear hc g DR
  go_upto_region 5 with fail
  refine to_cls ?_
  intro U5 hU5 y5
  clear c_f_0 c_f_1 c_f_2 c_m_0
  have r_f : ∀ z : Wb U5, Row z.at (w.heap.size) [.int .i64 fk, .int .u64 fp, .int .i64 fs] 38 := Row.next ((r_f y4).old _) hU5
  have r_m : ∀ z : Wb U5, Row z.at (mA) [.slice bp bn bc] 29 := Row.next ((r_m y4).old _) hU5
  have r_c : ∀ z : Wb U5, Row z.at (y4.at.heap.size) [.slice cp cn cc] 29 := Row.next (Row.new _ [.slice cp cn cc] _) hU5
  have KK := Lib.hid (KB.next (KB.alloc (KK.out y4) _) hU5)
  have BL := Lib.hid (fun z : Wb U5 => (((BL.out y4).below (KB.alloc (Below.refl _ _) _ : Below y4.at.heap.size y4.at _)).below hU5).below z.bel)
  have CS := Lib.hid (fun z : Wb U5 => (((CL1.out).below (KB.alloc (Below.refl _ _) _ : Below y4.at.heap.size y4.at _)).below hU5).below z.bel)
  clear hU5
  have c_f_0 : ∀ z : Wb U5, z.at.cell? ⟨w.heap.size, 0, none⟩ = some (.int .i64 fk) := fun z => (r_f z).cell 0
  have c_f_1 : ∀ z : Wb U5, z.at.cell? ⟨w.heap.size, 1, none⟩ = some (.int .u64 fp) := fun z => (r_f z).cell 1
  have c_f_2 : ∀ z : Wb U5, z.at.cell? ⟨w.heap.size, 2, none⟩ = some (.int .i64 fs) := fun z => (r_f z).cell 2
  have c_m_0 : ∀ z : Wb U5, z.at.cell? ⟨mA, 0, none⟩ = some (.slice bp bn bc) := fun z => (r_m z).cell 0
  have c_c_0 : ∀ z : Wb U5, z.at.cell? ⟨y4.at.heap.size, 0, none⟩ = some (.slice cp cn cc) := fun z => (r_c z).cell 0
  obtain ⟨cA, hcA⟩ : ∃ b, b = y4.at.heap.size := ⟨_, rfl⟩
  rw [← hcA] at r_c c_c_0
  simp only [← hcA]
  clear hcA
  clear CL1
  go_wp2_with fail
  refine (entries_any (.slice bp bn bc) L y5.at (BL.out y5) (by have := LN.out; omega)).mono ?_
  rintro e w2 ⟨v3, rfl, o3, g⟩
  obtain ⟨ep, en, ec, rfl⟩ := SlAt.form (SlAt.own o3)
  obtain ⟨y6, rfl⟩ := Wb.next (x := y5) g
  have ES1 := Lib.hid (show SlE y6.at (.slice ep en ec) L from SlAt.own o3)
  have HE := Lib.hid (show en = L.length from SlE.len (L := L) (SlAt.own o3))
  clear o3 g
  go_wp2_with fail
  go_loopw [9, 10] (fun nv iv wr => ∃ k : Nat, k ≤ en ∧ iv = .int .i64 (k : Int) ∧ nv = .int .i64 ((((L.take k).filter (fun x => !takes fk fp fs x)).length : Nat) : Int) ∧ Below y6.at.heap.size y6.at wr) (fun _ iv _ => en - (intOf iv).toNat)
  case atStart => exact ⟨0, by omega, rfl, by simp, Below.refl _ _⟩
  case round =>
    obtain ⟨k, hk, rfl, rfl, hb⟩ := hrel
    have BB := Lib.hid hb
    clear hb
    have l9 : (en : Int) ≤ 500 := by have := HE.out; have := LN.out; omega
    have i0 : (0 : Int) ≤ (k : Int) := by omega
    by_cases ck : k < en
    · skip
      obtain ⟨a, rfl⟩ := SlE.addr ES1.out (by omega)
      have lk : k < L.length := by have := HE.out; omega
      have i1 : (k : Int) < (en : Int) := by omega
      have AT := Lib.hid (fun (U : World) (kU : Below y6.at.heap.size y6.at U) => (ES1.out.below kU).at k lk)
      have TK := Lib.hid (show (L.take (k + 1)).filter (fun x => !takes fk fp fs x) = (L.take k).filter (fun x => !takes fk fp fs x) ++ [L[k]].filter (fun x => !takes fk fp fs x) by rw [List.take_succ_eq_append_getElem lk, List.filter_append])
      have QN := Lib.hid (show ((L.take k).filter (fun x => !takes fk fp fs x)).length ≤ k from Nat.le_trans (List.length_filter_le _ _) (List.length_take_le _ _))
      have EBX := Lib.hid (LBB.out L[k] (List.getElem_mem lk))
      have MX := Lib.hid (MC.out L[k] (List.getElem_mem lk))
      obtain ⟨⟨x0, x1, x2, x3⟩, hx⟩ : ∃ x, x = L[k] := ⟨_, rfl⟩
      rw [← hx] at AT TK EBX MX
      simp only at AT
      have TA := Lib.hid (fun w => takes_any fk fp fs x0 x1 x2 x3 EBX.out.2.1.1 EBX.out.2.1.2 EBX.out.2.2.1 EBX.out.2.2.2 FB.out.1 FB.out.2 w)
      have HH := Lib.hid (fun (U : World) (kU : Below y6.at.heap.size y6.at U) => has_ev (.slice cp cn cc) CL x0 x1 x2 x3 U ((CS.out y6).below kU) CR.out CN.out)
      rw [MX.out] at HH
      obtain ⟨t, ht⟩ : ∃ t, t = takes fk fp fs ⟨x0, x1, x2, x3⟩ := ⟨_, rfl⟩
      rw [← ht] at TA HH
      obtain ⟨q, hq⟩ : ∃ q, q = ((L.take k).filter (fun x => !takes fk fp fs x)).length := ⟨_, rfl⟩
      rw [← hq] at QN ⊢
      have QT := Lib.hid (show ((L.take (k + 1)).filter (fun x => !takes fk fp fs x)).length = q + (if t = true then 0 else 1) by rw [TK.out, List.length_append, ← hq, ht]; cases c : takes fk fp fs ⟨x0, x1, x2, x3⟩ <;> simp [c])
      have q0 : (0 : Int) ≤ (q : Int) := by omega
      have q1 : (q : Int) ≤ (k : Int) := by have := QN.out; omega
      clear hx lk ht hq
      have x0' := fun y : Wb wr => (AT.out y.at (BB.out.trans (y.bel.mono BB.out.size))).1
      have x1' := fun y : Wb wr => (AT.out y.at (BB.out.trans (y.bel.mono BB.out.size))).2.1
      have x2' := fun y : Wb wr => (AT.out y.at (BB.out.trans (y.bel.mono BB.out.size))).2.2.1
      have x3' := fun y : Wb wr => (AT.out y.at (BB.out.trans (y.bel.mono BB.out.size))).2.2.2
      have cf0 : ∀ y : Wb wr, y.at.cell? ⟨w.heap.size, 0, none⟩ = some (.int .i64 fk) := fun y => ((r_f y6).below (BB.out.trans (y.bel.mono BB.out.size))).cell 0
      have cf1 : ∀ y : Wb wr, y.at.cell? ⟨w.heap.size, 1, none⟩ = some (.int .u64 fp) := fun y => ((r_f y6).below (BB.out.trans (y.bel.mono BB.out.size))).cell 1
      have cf2 : ∀ y : Wb wr, y.at.cell? ⟨w.heap.size, 2, none⟩ = some (.int .i64 fs) := fun y => ((r_f y6).below (BB.out.trans (y.bel.mono BB.out.size))).cell 2
      have cc0 : ∀ y : Wb wr, y.at.cell? ⟨cA, 0, none⟩ = some (.slice cp cn cc) := fun y => ((r_c y6).below (BB.out.trans (y.bel.mono BB.out.size))).cell 0
      have HW := Lib.hid (fun y : Wb wr => HH.out y.at (BB.out.trans (y.bel.mono BB.out.size)))
      cases t
      all_goals
        go_wp2_with fail
        refine wp_region_wb (by kernel_rfl) (by kernel_rfl) ?_
        repeat (go_big_quiet_step ((first | (go_at_call 17; exact Calls.wb (TA.out _)) | (go_at_call 13; exact Calls.wb (HW.out _)))))
        refine wpQuiet_nil ?_
        rintro _ ⟨y, rfl⟩
        clear x0' x1' x2' x3' cf0 cf1 cf2 cc0
        go_upto_region 12 with fail
        refine to_pt ?_
        intro U hU
        have BU := Lib.hid ((BB.out.trans (y.bel.mono BB.out.size)).trans (hU.mono (BB.out.trans (y.bel.mono BB.out.size)).size))
        clear hU HW
        have x0' := fun y : Wb U => (AT.out y.at (BU.out.trans (y.bel.mono BU.out.size))).1
        have x1' := fun y : Wb U => (AT.out y.at (BU.out.trans (y.bel.mono BU.out.size))).2.1
        have x2' := fun y : Wb U => (AT.out y.at (BU.out.trans (y.bel.mono BU.out.size))).2.2.1
        have x3' := fun y : Wb U => (AT.out y.at (BU.out.trans (y.bel.mono BU.out.size))).2.2.2
        have cc0 : ∀ y : Wb U, y.at.cell? ⟨cA, 0, none⟩ = some (.slice cp cn cc) := fun y => ((r_c y6).below (BU.out.trans (y.bel.mono BU.out.size))).cell 0
        have HW := Lib.hid (fun y : Wb U => HH.out y.at (BU.out.trans (y.bel.mono BU.out.size)))
        refine wp_region_wb (by kernel_rfl) (by kernel_rfl) ?_
        repeat (go_big_quiet_step ((go_at_call 13; exact Calls.wb (HW.out _))))
        refine wpQuiet_nil ?_
        rintro _ ⟨y2, rfl⟩
        clear x0' x1' x2' x3' cc0 HW
        go_wp2
        go_roundw
        case rel => exact ⟨k + 1, by omega, by go_num, by rw [QT.out]; first | rfl | simp | go_num, BU.out.trans (y2.bel.mono BU.out.size)⟩
        case measure => simp [intOf]; omega
    · skip
      obtain rfl : k = en := by omega
      have HF := Lib.hid (show ((L.take k).filter (fun x => !takes fk fp fs x)).length = cn by rw [HE.out, List.take_length, ← HC.out, HN.out])
      rw [HF.out]
      go_upto_region 14 with fail
      have D0 := Lib.hid (show Below y6.at.heap.size y6.at wr.drew from BB.out.drew)
      have SS := Lib.hid (fun (V : World) (k2 : Below y6.at.heap.size y6.at V) => (show V.cell? ⟨cA, 0, none⟩ = some (.slice cp cn cc) ∧ V.cell? ⟨w.heap.size, 0, none⟩ = some (.int .i64 fk) ∧ V.cell? ⟨w.heap.size, 1, none⟩ = some (.int .u64 fp) ∧ V.cell? ⟨w.heap.size, 2, none⟩ = some (.int .i64 fs) from ⟨((r_c y6).below k2).cell 0, ((r_f y6).below k2).cell 0, ((r_f y6).below k2).cell 1, ((r_f y6).below k2).cell 2⟩))
      have S0 := Lib.hid (SS.out wr.drew D0.out)
      have LE := Lib.hid (by have := len_any (.slice cp cn cc) CL wr.drew ((CS.out y6).below D0.out); rw [← HN.out] at this; exact this)
      go_region_held3 (fun w' => w'.cell? ⟨cA, 0, none⟩ = some (.slice cp cn cc) ∧ w'.cell? ⟨w.heap.size, 0, none⟩ = some (.int .i64 fk) ∧ w'.cell? ⟨w.heap.size, 1, none⟩ = some (.int .u64 fp) ∧ w'.cell? ⟨w.heap.size, 2, none⟩ = some (.int .i64 fs))
        (first | exact S0.out | exact S3.out | exact S4.out | exact S5.out | exact S6.out | exact S7.out)
        (first
          | (go_at_call 12; (with_reducible refine LE.out.mono ?_); rintro e w3 ⟨rfl, g⟩; have X3 := Lib.hid (show Below y6.at.heap.size y6.at w3 from D0.out.trans (g.mono D0.out.size)); have S3 := Lib.hid (SS.out w3 X3.out); have DR := Lib.hid (by have := drop_any (.slice cp cn cc) CL fk fp fs w3 ((CS.out y6).below X3.out) CN.out CB.out FB.out.1 FB.out.2; rw [CC.out] at this; exact this); clear g )
          | (go_at_call 16; (with_reducible refine DR.out.mono ?_); rintro e w4 ⟨v5, rfl, o5, g⟩; have X4 := Lib.hid (show Below y6.at.heap.size y6.at w4 from X3.out.trans (g.mono X3.out.size)); have S4 := Lib.hid (SS.out w4 X4.out); obtain ⟨dp, dn, dc, rfl⟩ := SlAt.form o5; have ED := Lib.hid (entries_any (.slice dp dn dc) CL w4 o5 (by have := CN.out; omega)); clear g o5)
          | (go_at_call 11; (with_reducible refine ED.out.mono ?_); rintro e w5 ⟨v6, rfl, o6, g⟩; have X5 := Lib.hid (show Below y6.at.heap.size y6.at w5 from X4.out.trans (g.mono X4.out.size)); have S5 := Lib.hid (SS.out w5 X5.out); have O6 := Lib.hid o6; have EC := Lib.hid (entries_any (.slice cp cn cc) CL w5 ((CS.out y6).below X5.out) (by have := CN.out; omega)); clear g o6)
          | (go_at_call 11; (with_reducible refine EC.out.mono ?_); rintro e w6 ⟨v7, rfl, o7, g⟩; have X6 := Lib.hid (show Below y6.at.heap.size y6.at w6 from X5.out.trans (g.mono X5.out.size)); have S6 := Lib.hid (SS.out w6 X6.out); have SA := Lib.hid (by have := rsame_any v6 v7 CL CL w6 (SlAt.own (own_below O6.out g)) (SlAt.own o7) (by have := CN.out; omega); rw [decide_eq_true (rfl : CL = CL)] at this; exact this); clear g o7)
          | (go_at_call 10; (with_reducible refine SA.out.mono ?_); rintro e w7 ⟨rfl, g⟩; have X7 := Lib.hid (show Below y6.at.heap.size y6.at w7 from X6.out.trans (g.mono X6.out.size)); have S7 := Lib.hid (SS.out w7 X7.out); clear g ))
      all_goals
        go_wp2
        go_ret
        exact ⟨by first | rfl | simp, (KK.out y6).trans (X7.out.mono (KK.out y6).size)⟩

theorem TlbDrops_rows (v : Value) (k : Nat) (R : Nat → List Value) (fk fp fs : Int) (w : World) (s : SlAt w v 8 k ((List.range k).flatMap R)) (g : ∀ i, i < k → ∃ q : OpT, R i = [.int .i64 q.kd, .int .i64 q.e.space, .int .u64 q.e.page, .int .u64 q.e.first, .int .u64 q.e.last, .int .i64 q.fk, .int .u64 q.fp, .int .i64 q.fs] ∧ EB q.e ∧ 0 ≤ q.fp ∧ q.fp < 18446744073709551616) (b : 0 ≤ fp ∧ fp < 18446744073709551616) :
    Calls Try.prog 5 #[v, .agg #[.int .i64 fk, .int .u64 fp, .int .i64 fs]] w fun e w' => e = .returned (.bool true) ∧ Below w.heap.size w w' := by
  obtain ⟨S, hS, hB⟩ := SlT_rows s g
  exact TlbDrops_walk v S fk fp fs w hS hB b.1 b.2
end Go.Proofs.Ytnpgpbcpgniloab
