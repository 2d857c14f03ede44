/-
  Layer 4, the laws: TopWords.
-/
import Derived.Test.YtebpmngllljkaaaDoorV6
import Derived.Test.YtebpmngllljkaaaDoorMh
import Derived.Test.YtebpmngllljkaaaDoorKs
set_option linter.unusedSimpArgs false
set_option linter.unusedVariables false
namespace Go.Proofs.YtebpmngllljkaaaDoor
open Go.RowKit GrP GrA

theorem bd_u32 {n : Int} (h : (Lit.int .u32 n).wf = true) : 0 ≤ n ∧ n < 4294967296 := by
  simp [Lit.wf, IntKind.min, IntKind.max, IntKind.signed, IntKind.bits] at h
  omega
theorem top_isb (w : World) (hs : ShAt w) : Calls Tryd.prog 19 #[.int .u32 3573759967] w fun e w' => e = .returned (.tuple #[.agg #[.int .i64 20, .int .i64 0, .int .i64 0, .int .i64 0, .int .i64 0, .int .i64 0], .int .i64 0]) ∧ Below w.heap.size w w' :=
  xdecode_yes ⟨20, 0, 0, 0, 0, 0⟩ w hs (by decide)
theorem top_text : printR ⟨20, 0, 0, 0, 0, 0⟩ = [73, 83, 66] := by decide +kernel

set_option maxRecDepth 100000 in
set_option maxHeartbeats 12800000 in
theorem topWords_walk (zs : List Int) (nb : Nat) (vb : Value) (w : World) (ht : Tab w) (hs : SlAt w vb 1 nb (zs.map (Value.int .u32))) (hz : zs.length = nb) (hw : ∀ z ∈ zs, 0 ≤ z ∧ z < 4294967296) : Calls Tryd.prog 8 #[vb] w fun e w' => e = .returned (.bool true) ∧ Below w.heap.size w w' := by
  have TH := Lib.hid ht
  have HS := Lib.hid hs
  have HZ := Lib.hid hz
  have HW := Lib.hid hw
  have P0 := Lib.hid (fun w2 (t2 : Tab w2) => (show Calls Tryd.prog 10 #[.agg #[.int .i64 20, .int .i64 0, .int .i64 0, .int .i64 0, .int .i64 0, .int .i64 0]] w2 fun e w' => e = .returned (.string ⟨#[73, 83, 66]⟩) ∧ Below w2.heap.size w2 w' from by have := print_yes ⟨20, 0, 0, 0, 0, 0⟩ w2 t2 (by decide); rw [top_text] at this; exact this))
  obtain ⟨pp, mm, cc, rfl⟩ := hs.form
  have hm : mm = nb := by
    obtain ⟨_, ⟨e, h0⟩ | ⟨a, cap, e, _⟩⟩ := hs
    · injection e with e1 e2 e3; omega
    · injection e with e1 e2 e3
  subst hm
  have g0 : (0 : Int) ≤ (mm : Int) := by omega
  clear ht hs hz hw
  go_enter Tryd.func8, Tryd.ntmps8
  go_upto_region 1 with fail
  refine to_cls ?_
  intro U0 hU0 y0
  have KK := Lib.hid (KB.next (Below.refl _ _) hU0)
  clear hU0
  have TZ := Lib.hid fun z => TH.out.below (KK.out z)
  go_wp2_with fail
  refine (top_isb _ (TZ.out y0).sh).mono ?_
  rintro e w1 ⟨rfl, g⟩
  obtain ⟨y1, rfl⟩ := Wb.next (x := y0) g
  clear g
  go_upto_region 2 with fail
  refine to_cls ?_
  intro U2 hU2 y2
  have r_p : ∀ z : Wb U2, Row z.at (y1.at.heap.size) [.int .i64 20, .int .i64 0, .int .i64 0, .int .i64 0, .int .i64 0, .int .i64 0] 23 := Row.next (Row.new _ [.int .i64 20, .int .i64 0, .int .i64 0, .int .i64 0, .int .i64 0, .int .i64 0] _) hU2
  have KK := Lib.hid (KB.next (KB.alloc (KK.out y1) _) hU2)
  clear hU2
  obtain ⟨c_p_0, c_p_1, c_p_2, c_p_3, c_p_4, c_p_5⟩ := six r_p
  obtain ⟨pA, hpA⟩ : ∃ b, b = y1.at.heap.size := ⟨_, rfl⟩
  rw [← hpA] at r_p c_p_0 c_p_1 c_p_2 c_p_3 c_p_4 c_p_5
  simp only [← hpA]
  clear hpA
  have TZ := Lib.hid fun z => TH.out.below (KK.out z)
  go_wp2_with fail
  refine (P0.out _ (TZ.out y2)).mono ?_
  rintro e w1 ⟨rfl, g⟩
  obtain ⟨y3, rfl⟩ := Wb.next (x := y2) g
  clear g
  by_cases hm2 : 200 < mm
  · have g1 : (200 : Int) < (mm : Int) := by omega
    clear hm2
    go_wp2
    go_ret
    exact ⟨rfl, KK.out y3⟩
  · have g1 : ¬ (200 : Int) < (mm : Int) := by omega
    have M2 := Lib.hid hm2
    have KY := Lib.hid (KK.out y3)
    clear hm2 c_p_0 c_p_1 c_p_2 c_p_3 c_p_4 c_p_5
    go_wp2_with fail
    go_loopw [5, 6, 7, 8, 9, 10, 11] (fun iv _ _ _ _ _ _ wr => ∃ i : Nat, i ≤ mm ∧ iv = .int .i64 (i : Int) ∧ Below w.heap.size w wr) (fun iv _ _ _ _ _ _ _ => mm - (intOf iv).toNat)
    case atStart => exact ⟨0, by omega, rfl, KY.out⟩
    case round =>
      clear KY
      obtain ⟨i, hi, rfl, hbel⟩ := hrel
      have HB := Lib.hid hbel
      clear hbel
      have i0 : (0 : Int) ≤ (i : Int) := by omega
      by_cases c : i < mm
      · have c1 : (i : Int) < (mm : Int) := by omega
        have i9 : (i : Int) ≤ 200 := by have := M2.out; omega
        obtain ⟨ab, cb, hab, cz0⟩ : ∃ ab cb, (Value.slice pp mm cc) = .slice (some ab) mm cb ∧ w.cell? (ab.add i) = some (.int .u32 (zs.getD i 0)) := by
          obtain ⟨_, ⟨e, h0⟩ | ⟨a2, cap2, e, _, _, hx⟩⟩ := HS.out
          · omega
          · refine ⟨a2, cap2, e, hx i _ ?_⟩
            rw [List.getElem?_map, List.getElem?_eq_getElem (by rw [HZ.out]; exact c), List.getD_eq_getElem?_getD, List.getElem?_eq_getElem (by rw [HZ.out]; exact c)]
            rfl
        injection hab with ha1 ha2 ha3
        subst ha1
        subst ha3
        obtain ⟨z, hzz⟩ : ∃ z, z = zs.getD i 0 := ⟨_, rfl⟩
        have hzb : 0 ≤ z ∧ z < 4294967296 := by
          rw [hzz, List.getD_eq_getElem?_getD, List.getElem?_eq_getElem (by rw [HZ.out]; exact c)]
          exact HW.out _ (List.getElem_mem _)
        rw [← hzz] at cz0
        have CZ := Lib.hid cz0
        have cz : wr.cell? (ab.add i) = some (.int .u32 z) := by
          rw [HB.out.cell (World.block_lt_of_cell? w _ cz0)]
          exact cz0
        have HI := Lib.hid (show i + 1 ≤ mm by omega)
        clear cz0 hzz hi c
        by_cases hd : ∃ y, GrI.right y ∧ GrI.word y = z
        · obtain ⟨x, hr, hx⟩ := hd
          have DX := Lib.hid (fun w2 (t2 : Tab w2) => xdecode_yes x w2 t2.sh hr)
          have EN := Lib.hid (fun w2 (t2 : Tab w2) => enc_yes x w2 t2.sh (GrI.imm_bd hr) (by simpa [encB] using hr))
          rw [hx] at DX EN
          have PR := Lib.hid (fun w2 (t2 : Tab w2) => print_yes x w2 t2 hr)
          have hpl := printR_len _ hr
          have hps := parse_words hr (words_printR _ hr)
          obtain ⟨op, d, nn, m, imm, kind⟩ := x
          unfold iv at PR DX EN
          simp only at PR DX EN
          obtain ⟨p, hp⟩ : ∃ p, p = printR ⟨op, d, nn, m, imm, kind⟩ := ⟨_, rfl⟩
          rw [← hp] at PR hpl hps
          have PA := Lib.hid (fun w2 (t2 : Tab w2) => (show Calls Tryd.prog 13 #[.string (strL p)] w2 fun e w' => e = .returned (.tuple #[.agg #[.int .i64 op, .int .i64 d, .int .i64 nn, .int .i64 m, .int .i64 imm, .int .i64 kind], .int .i64 0]) ∧ Below w2.heap.size w2 w' from by have := parse_T p w2 t2 (by omega); rw [hps] at this; exact this))
          clear hpl hps hp hr hx hzb
          go_wp2_with fail
          refine (DX.out _ (TH.out.below HB.out)).mono ?_
          rintro e w1 ⟨rfl, b1⟩
          have B1 := Lib.hid (HB.out.trans (b1.mono HB.out.size))
          clear b1 cz
          go_upto_region 10 with fail
          refine to_cls ?_
          intro U20 hU20 y20
          have r_c : ∀ z : Wb U20, Row z.at (w1.heap.size) [.int .i64 op, .int .i64 d, .int .i64 nn, .int .i64 m, .int .i64 imm, .int .i64 kind] 23 := Row.next (Row.new _ [.int .i64 op, .int .i64 d, .int .i64 nn, .int .i64 m, .int .i64 imm, .int .i64 kind] _) hU20
          have KK := Lib.hid (KB.next (KB.alloc B1.out _) hU20)
          clear hU20
          obtain ⟨c_c_0, c_c_1, c_c_2, c_c_3, c_c_4, c_c_5⟩ := six r_c
          obtain ⟨cA, hcA⟩ : ∃ b, b = w1.heap.size := ⟨_, rfl⟩
          rw [← hcA] at r_c c_c_0 c_c_1 c_c_2 c_c_3 c_c_4 c_c_5
          simp only [← hcA]
          clear hcA
          have TZ := Lib.hid fun z => TH.out.below (KK.out z)
          have czz := keepc KK CZ
          go_wp2_with fail
          refine (PR.out _ (TZ.out y20)).mono ?_
          rintro e w1 ⟨rfl, g⟩
          obtain ⟨y21, rfl⟩ := Wb.next (x := y20) g
          clear g
          go_wp2_with fail
          refine (PA.out _ (TZ.out y21)).mono ?_
          rintro e w1 ⟨rfl, g⟩
          obtain ⟨y22, rfl⟩ := Wb.next (x := y21) g
          clear g
          go_upto_region 14 with fail
          refine to_cls ?_
          intro U23 hU23 y23
          clear c_c_0 c_c_1 c_c_2 c_c_3 c_c_4 c_c_5 czz
          have r_c : ∀ z : Wb U23, Row z.at (cA) [.int .i64 op, .int .i64 d, .int .i64 nn, .int .i64 m, .int .i64 imm, .int .i64 kind] 23 := Row.next ((r_c y22).old _) hU23
          have r_e : ∀ z : Wb U23, Row z.at (y22.at.heap.size) [.int .i64 op, .int .i64 d, .int .i64 nn, .int .i64 m, .int .i64 imm, .int .i64 kind] 23 := Row.next (Row.new _ [.int .i64 op, .int .i64 d, .int .i64 nn, .int .i64 m, .int .i64 imm, .int .i64 kind] _) hU23
          have KK := Lib.hid (KB.next (KB.alloc (KK.out y22) _) hU23)
          clear hU23
          obtain ⟨c_c_0, c_c_1, c_c_2, c_c_3, c_c_4, c_c_5⟩ := six r_c
          obtain ⟨c_e_0, c_e_1, c_e_2, c_e_3, c_e_4, c_e_5⟩ := six r_e
          obtain ⟨eA, heA⟩ : ∃ b, b = y22.at.heap.size := ⟨_, rfl⟩
          rw [← heA] at r_e c_e_0 c_e_1 c_e_2 c_e_3 c_e_4 c_e_5
          simp only [← heA]
          clear heA
          have TZ := Lib.hid fun z => TH.out.below (KK.out z)
          have czz := keepc KK CZ
          go_wp2_with fail
          refine (EN.out _ (TZ.out y23)).mono ?_
          rintro e w1 ⟨rfl, g⟩
          obtain ⟨y24, rfl⟩ := Wb.next (x := y23) g
          clear g
          go_wp2
          go_roundw
          case rel => exact ⟨i + 1, HI.out, by go_num, KK.out y24⟩
          case measure => have := HI.out; simp [intOf] <;> omega
        · have hn : ∀ y, GrI.right y → GrI.word y ≠ z := fun y hy e => hd ⟨y, hy, e⟩
          have DX := Lib.hid (fun w2 (t2 : Tab w2) => xdecode_no z w2 t2.sh hzb.1 hzb.2 hn)
          have RR := Lib.hid (fun w2 (t2 : Tab w2) => right_no GrI.zero w2 t2.sh (by decide) (by decide))
          have PR := Lib.hid (fun w2 (t2 : Tab w2) => aprint_no 0 0 0 0 0 0 w2 t2 (by decide) (by decide))
          unfold iv GrI.zero at DX RR
          simp only at DX RR
          clear hn hd hzb
          go_wp2_with fail
          refine (DX.out _ (TH.out.below HB.out)).mono ?_
          rintro e w1 ⟨rfl, b1⟩
          have B1 := Lib.hid (HB.out.trans (b1.mono HB.out.size))
          clear b1 cz
          go_upto_region 10 with fail
          refine to_cls ?_
          intro U20 hU20 y20
          have r_c : ∀ z : Wb U20, Row z.at (w1.heap.size) [.int .i64 0, .int .i64 0, .int .i64 0, .int .i64 0, .int .i64 0, .int .i64 0] 23 := Row.next (Row.new _ [.int .i64 0, .int .i64 0, .int .i64 0, .int .i64 0, .int .i64 0, .int .i64 0] _) hU20
          have KK := Lib.hid (KB.next (KB.alloc B1.out _) hU20)
          clear hU20
          obtain ⟨c_c_0, c_c_1, c_c_2, c_c_3, c_c_4, c_c_5⟩ := six r_c
          obtain ⟨cA, hcA⟩ : ∃ b, b = w1.heap.size := ⟨_, rfl⟩
          rw [← hcA] at r_c c_c_0 c_c_1 c_c_2 c_c_3 c_c_4 c_c_5
          simp only [← hcA]
          clear hcA
          have TZ := Lib.hid fun z => TH.out.below (KK.out z)
          have czz := keepc KK CZ
          go_wp2_with fail
          refine (PR.out _ (TZ.out y20)).mono ?_
          rintro e w1 ⟨rfl, g⟩
          obtain ⟨y21, rfl⟩ := Wb.next (x := y20) g
          clear g
          go_wp2_with fail
          refine (RR.out _ (TZ.out y21)).mono ?_
          rintro e w1 ⟨rfl, g⟩
          obtain ⟨y22, rfl⟩ := Wb.next (x := y21) g
          clear g
          go_wp2
          go_roundw
          case rel => exact ⟨i + 1, HI.out, by go_num, KK.out y22⟩
          case measure => have := HI.out; simp [intOf] <;> omega
      · obtain rfl : i = mm := by omega
        have c1 : ¬ (i : Int) < (i : Int) := by omega
        clear hi c
        go_wp2
        go_ret
        exact ⟨rfl, HB.out⟩
end Go.Proofs.YtebpmngllljkaaaDoor
