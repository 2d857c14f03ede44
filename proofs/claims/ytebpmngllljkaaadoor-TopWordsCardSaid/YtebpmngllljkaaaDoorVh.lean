/-
  Layer 4, the walks: plain.
-/
import Derived.Test.YtebpmngllljkaaaDoorVg
import Derived.Test.YtebpmngllljkaaaDoorPv
set_option linter.unusedSimpArgs false
set_option linter.unusedVariables false
namespace Go.Proofs.YtebpmngllljkaaaDoor
open Go.RowKit GrP GrA

theorem drew_bel {w w1 : World} (h : Drew w w1) : Below w.heap.size w w1 := by
  obtain ⟨m, rfl⟩ := h
  exact ⟨rfl, rfl, rfl, Nat.le_refl _, fun _ _ => rfl⟩
theorem marks_at (w : World) : (Instr.index 51 (.agg #[.string ⟨#[35]⟩, .string ⟨#[46, 43]⟩, .string ⟨#[46, 45]⟩]) (.int .i64 0)).run Tryd.prog w = .ok (.string ⟨#[35]⟩) w ∧ (Instr.index 51 (.agg #[.string ⟨#[35]⟩, .string ⟨#[46, 43]⟩, .string ⟨#[46, 45]⟩]) (.int .i64 1)).run Tryd.prog w = .ok (.string ⟨#[46, 43]⟩) w ∧ (Instr.index 51 (.agg #[.string ⟨#[35]⟩, .string ⟨#[46, 43]⟩, .string ⟨#[46, 45]⟩]) (.int .i64 2)).run Tryd.prog w = .ok (.string ⟨#[46, 45]⟩) w := ⟨by kernel_rfl, by kernel_rfl, by kernel_rfl⟩

set_option maxRecDepth 100000 in
set_option maxHeartbeats 3200000 in
theorem plain_any (l : Tx) (w : World) (ht : TB w) (hl : l.length ≤ 4194304) : Calls Tryd.prog 47 #[.string (strL l)] w fun e w' => e = .returned (.string (strL (plainW l))) ∧ Below w.heap.size w w' := by
  have TH := Lib.hid ht
  have i0 := fun w => (marks_at w).1
  have i1 := fun w => (marks_at w).2.1
  have i2 := fun w => (marks_at w).2.2
  clear ht
  go_enter Tryd.func47, Tryd.ntmps47
  go_wp2_with fail
  go_loopw [4, 5, 6, 10] (fun _ _ _ iv wr => ∃ k : Nat, k ≤ 3 ∧ iv = .int .i64 (k : Int) ∧ (0 < k → Lib.hasPrefix l [35] = false) ∧ (1 < k → Lib.hasPrefix l [46, 43] = false) ∧ (2 < k → Lib.hasPrefix l [46, 45] = false) ∧ Below w.heap.size w wr) (fun _ _ _ iv _ => 3 - (intOf iv).toNat)
  case atStart => exact ⟨0, by omega, rfl, fun h => absurd h (by omega), fun h => absurd h (by omega), fun h => absurd h (by omega), Below.refl _ _⟩
  case round =>
    obtain ⟨k, hk, rfl, h0, h1, h2, hbel⟩ := hrel
    have HB := Lib.hid hbel
    clear hbel
    have HL := Lib.hid hl
    have hk4 : k = 0 ∨ k = 1 ∨ k = 2 ∨ k = 3 := by omega
    clear hk hl
    rcases hk4 with rfl | rfl | rfl | rfl
    · by_cases c : Lib.hasPrefix l [35] = true
      case neg =>
        have c : Lib.hasPrefix l [35] = false := by simpa using c
        have CU := Lib.hid (fun w => cut_any l [35] w)
        rw [c] at CU
        have g0 := Lib.hid (show 0 < 0 + 1 → Lib.hasPrefix l [35] = false from fun _ => c)
        have g1 := Lib.hid (show 1 < 0 + 1 → Lib.hasPrefix l [46, 43] = false from fun h => absurd h (by omega))
        have g2 := Lib.hid (show 2 < 0 + 1 → Lib.hasPrefix l [46, 45] = false from fun h => absurd h (by omega))
        clear h0 h1 h2 c
        go_wp2_with fail
        refine (CU.out _).mono ?_
        rintro e w9 ⟨rfl, rfl⟩
        go_wp2
        go_roundw
        case rel => exact ⟨0 + 1, by omega, by go_num, g0.out, g1.out, g2.out, HB.out⟩
        case measure => simp [intOf]
      case pos =>
        have PW := Lib.hid (show plainW l = plainM [35] l from by rw [plainW, if_pos c])
        have CU := Lib.hid (fun w => cut_any l [35] w)
        rw [c] at CU
        have tp : Lib.trimPrefix l [35] = l.drop 1 := by rw [Lib.trimPrefix, if_pos c]; rfl
        rw [tp] at CU
        obtain ⟨r, hr⟩ : ∃ r, r = l.drop 1 := ⟨_, rfl⟩
        have PA := Lib.hid (fun w => parse_any (strL r) w (by rw [strL_size, hr, List.length_drop]; have := HL.out; unfold maxLen; omega))
        have PM := Lib.hid (show plainM [35] l = if (GrA.val r).2 ≠ 0 ∨ most < (GrA.val r).1 then l else (if ([35] : Tx) = [46, 45] ∧ (GrA.val r).1 = 0 then [46, 43] else [35]) ++ digs 10 (GrA.val r).1 by rw [hr]; rfl)
        rw [← hr] at CU
        unfold GrA.val at PM
        obtain ⟨v, hv⟩ : ∃ v, v = parse (strL r) := ⟨_, rfl⟩
        rw [← hv] at PM PA
        obtain ⟨a, b⟩ := v
        simp only at PM
        clear h0 h1 h2 c tp hr hv
        by_cases cb : b = 0
        · subst cb
          by_cases ca : most < a
          · have RS := Lib.hid (show plainW l = l by rw [PW.out, PM.out, if_pos (.inr ca)])
            have ca2 : (1099511627776 : Int) < (a : Int) := by unfold most at ca; omega
            clear PW PM ca
            go_wp2_with fail
            refine (CU.out _).mono ?_
            rintro e w9 ⟨rfl, rfl⟩
            go_wp2_with fail
            refine (PA.out _).mono ?_
            rintro e w3 ⟨rfl, d3⟩
            have K3 := Lib.hid (HB.out.trans ((drew_bel d3).mono HB.out.size))
            clear d3
            go_wp2
            go_ret
            exact ⟨by rw [RS.out]; rfl, K3.out⟩
          · have ca2 : ¬ (1099511627776 : Int) < (a : Int) := by unfold most at ca; omega
            have a1 : a ≤ 1099511627776 := by unfold most at ca; omega
            have RS := Lib.hid (show plainW l = (if ([35] : Tx) = [46, 45] ∧ a = 0 then [46, 43] else [35]) ++ digs 10 a by rw [PW.out, PM.out, if_neg (by omega)] <;> simp)
            have DE := Lib.hid (fun w2 (h : TB w2) => dec_any a w2 (by omega) h)
            have DS : (decS a).size ≤ 64 := digs_len64 (by omega) a (by omega)
            obtain ⟨q, hq⟩ : ∃ q, q = (decS a).size := ⟨_, rfl⟩
            have z1 : (decS a).size = q := hq.symm
            rw [z1] at DS
            have N1 : ¬ 9223372036854775807 < 1 + q := by omega
            have SA := Lib.hid (show strL [35] ++ decS a = strL (plainW l) by rw [RS.out, decS, strL_app, if_neg (fun h => absurd h.1 (by decide))])
            clear PW PM ca a1 hq RS
            go_wp2_with fail
            refine (CU.out _).mono ?_
            rintro e w9 ⟨rfl, rfl⟩
            go_wp2_with fail
            refine (PA.out _).mono ?_
            rintro e w3 ⟨rfl, d3⟩
            have K3 := Lib.hid (HB.out.trans ((drew_bel d3).mono HB.out.size))
            clear d3
            go_wp2_with fail
            refine (DE.out _ (TH.out.below K3.out)).mono ?_
            rintro e w4 ⟨rfl, b4⟩
            have K4 := Lib.hid (K3.out.trans (b4.mono K3.out.size))
            clear b4
            go_wp2
            go_ret
            exact ⟨by rw [← SA.out]; rfl, K4.out⟩
        · have RS := Lib.hid (show plainW l = l by rw [PW.out, PM.out, if_pos (.inl cb)])
          have cb2 : ((b : Int) != 0) = true := by simp; omega
          have cb3 : ¬ (b : Int) = 0 := by omega
          clear PW PM cb
          go_wp2_with fail
          refine (CU.out _).mono ?_
          rintro e w9 ⟨rfl, rfl⟩
          go_wp2_with fail
          refine (PA.out _).mono ?_
          rintro e w3 ⟨rfl, d3⟩
          have K3 := Lib.hid (HB.out.trans ((drew_bel d3).mono HB.out.size))
          clear d3
          go_wp2
          go_ret
          exact ⟨by rw [RS.out]; rfl, K3.out⟩
    · by_cases c : Lib.hasPrefix l [46, 43] = true
      case neg =>
        have c : Lib.hasPrefix l [46, 43] = false := by simpa using c
        have CU := Lib.hid (fun w => cut_any l [46, 43] w)
        rw [c] at CU
        have g0 := Lib.hid (show 0 < 1 + 1 → Lib.hasPrefix l [35] = false from fun _ => h0 (by omega))
        have g1 := Lib.hid (show 1 < 1 + 1 → Lib.hasPrefix l [46, 43] = false from fun _ => c)
        have g2 := Lib.hid (show 2 < 1 + 1 → Lib.hasPrefix l [46, 45] = false from fun h => absurd h (by omega))
        clear h0 h1 h2 c
        go_wp2_with fail
        refine (CU.out _).mono ?_
        rintro e w9 ⟨rfl, rfl⟩
        go_wp2
        go_roundw
        case rel => exact ⟨1 + 1, by omega, by go_num, g0.out, g1.out, g2.out, HB.out⟩
        case measure => simp [intOf]
      case pos =>
        have PW := Lib.hid (show plainW l = plainM [46, 43] l from by rw [plainW, if_neg (by rw [h0 (by omega)]; simp), if_pos c])
        have CU := Lib.hid (fun w => cut_any l [46, 43] w)
        rw [c] at CU
        have tp : Lib.trimPrefix l [46, 43] = l.drop 2 := by rw [Lib.trimPrefix, if_pos c]; rfl
        rw [tp] at CU
        obtain ⟨r, hr⟩ : ∃ r, r = l.drop 2 := ⟨_, rfl⟩
        have PA := Lib.hid (fun w => parse_any (strL r) w (by rw [strL_size, hr, List.length_drop]; have := HL.out; unfold maxLen; omega))
        have PM := Lib.hid (show plainM [46, 43] l = if (GrA.val r).2 ≠ 0 ∨ most < (GrA.val r).1 then l else (if ([46, 43] : Tx) = [46, 45] ∧ (GrA.val r).1 = 0 then [46, 43] else [46, 43]) ++ digs 10 (GrA.val r).1 by rw [hr]; rfl)
        rw [← hr] at CU
        unfold GrA.val at PM
        obtain ⟨v, hv⟩ : ∃ v, v = parse (strL r) := ⟨_, rfl⟩
        rw [← hv] at PM PA
        obtain ⟨a, b⟩ := v
        simp only at PM
        clear h0 h1 h2 c tp hr hv
        by_cases cb : b = 0
        · subst cb
          by_cases ca : most < a
          · have RS := Lib.hid (show plainW l = l by rw [PW.out, PM.out, if_pos (.inr ca)])
            have ca2 : (1099511627776 : Int) < (a : Int) := by unfold most at ca; omega
            clear PW PM ca
            go_wp2_with fail
            refine (CU.out _).mono ?_
            rintro e w9 ⟨rfl, rfl⟩
            go_wp2_with fail
            refine (PA.out _).mono ?_
            rintro e w3 ⟨rfl, d3⟩
            have K3 := Lib.hid (HB.out.trans ((drew_bel d3).mono HB.out.size))
            clear d3
            go_wp2
            go_ret
            exact ⟨by rw [RS.out]; rfl, K3.out⟩
          · have ca2 : ¬ (1099511627776 : Int) < (a : Int) := by unfold most at ca; omega
            have a1 : a ≤ 1099511627776 := by unfold most at ca; omega
            have RS := Lib.hid (show plainW l = (if ([46, 43] : Tx) = [46, 45] ∧ a = 0 then [46, 43] else [46, 43]) ++ digs 10 a by rw [PW.out, PM.out, if_neg (by omega)] <;> simp)
            have DE := Lib.hid (fun w2 (h : TB w2) => dec_any a w2 (by omega) h)
            have DS : (decS a).size ≤ 64 := digs_len64 (by omega) a (by omega)
            obtain ⟨q, hq⟩ : ∃ q, q = (decS a).size := ⟨_, rfl⟩
            have z1 : (decS a).size = q := hq.symm
            rw [z1] at DS
            have N1 : ¬ 9223372036854775807 < 2 + q := by omega
            have SA := Lib.hid (show strL [46, 43] ++ decS a = strL (plainW l) by rw [RS.out, decS, strL_app, if_neg (fun h => absurd h.1 (by decide))])
            clear PW PM ca a1 hq RS
            go_wp2_with fail
            refine (CU.out _).mono ?_
            rintro e w9 ⟨rfl, rfl⟩
            go_wp2_with fail
            refine (PA.out _).mono ?_
            rintro e w3 ⟨rfl, d3⟩
            have K3 := Lib.hid (HB.out.trans ((drew_bel d3).mono HB.out.size))
            clear d3
            go_wp2_with fail
            refine (DE.out _ (TH.out.below K3.out)).mono ?_
            rintro e w4 ⟨rfl, b4⟩
            have K4 := Lib.hid (K3.out.trans (b4.mono K3.out.size))
            clear b4
            go_wp2
            go_ret
            exact ⟨by rw [← SA.out]; rfl, K4.out⟩
        · have RS := Lib.hid (show plainW l = l by rw [PW.out, PM.out, if_pos (.inl cb)])
          have cb2 : ((b : Int) != 0) = true := by simp; omega
          have cb3 : ¬ (b : Int) = 0 := by omega
          clear PW PM cb
          go_wp2_with fail
          refine (CU.out _).mono ?_
          rintro e w9 ⟨rfl, rfl⟩
          go_wp2_with fail
          refine (PA.out _).mono ?_
          rintro e w3 ⟨rfl, d3⟩
          have K3 := Lib.hid (HB.out.trans ((drew_bel d3).mono HB.out.size))
          clear d3
          go_wp2
          go_ret
          exact ⟨by rw [RS.out]; rfl, K3.out⟩
    · by_cases c : Lib.hasPrefix l [46, 45] = true
      case neg =>
        have c : Lib.hasPrefix l [46, 45] = false := by simpa using c
        have CU := Lib.hid (fun w => cut_any l [46, 45] w)
        rw [c] at CU
        have g0 := Lib.hid (show 0 < 2 + 1 → Lib.hasPrefix l [35] = false from fun _ => h0 (by omega))
        have g1 := Lib.hid (show 1 < 2 + 1 → Lib.hasPrefix l [46, 43] = false from fun _ => h1 (by omega))
        have g2 := Lib.hid (show 2 < 2 + 1 → Lib.hasPrefix l [46, 45] = false from fun _ => c)
        clear h0 h1 h2 c
        go_wp2_with fail
        refine (CU.out _).mono ?_
        rintro e w9 ⟨rfl, rfl⟩
        go_wp2
        go_roundw
        case rel => exact ⟨2 + 1, by omega, by go_num, g0.out, g1.out, g2.out, HB.out⟩
        case measure => simp [intOf]
      case pos =>
        have PW := Lib.hid (show plainW l = plainM [46, 45] l from by rw [plainW, if_neg (by rw [h0 (by omega)]; simp), if_neg (by rw [h1 (by omega)]; simp), if_pos c])
        have CU := Lib.hid (fun w => cut_any l [46, 45] w)
        rw [c] at CU
        have tp : Lib.trimPrefix l [46, 45] = l.drop 2 := by rw [Lib.trimPrefix, if_pos c]; rfl
        rw [tp] at CU
        obtain ⟨r, hr⟩ : ∃ r, r = l.drop 2 := ⟨_, rfl⟩
        have PA := Lib.hid (fun w => parse_any (strL r) w (by rw [strL_size, hr, List.length_drop]; have := HL.out; unfold maxLen; omega))
        have PM := Lib.hid (show plainM [46, 45] l = if (GrA.val r).2 ≠ 0 ∨ most < (GrA.val r).1 then l else (if ([46, 45] : Tx) = [46, 45] ∧ (GrA.val r).1 = 0 then [46, 43] else [46, 45]) ++ digs 10 (GrA.val r).1 by rw [hr]; rfl)
        rw [← hr] at CU
        unfold GrA.val at PM
        obtain ⟨v, hv⟩ : ∃ v, v = parse (strL r) := ⟨_, rfl⟩
        rw [← hv] at PM PA
        obtain ⟨a, b⟩ := v
        simp only at PM
        clear h0 h1 h2 c tp hr hv
        by_cases cb : b = 0
        · subst cb
          by_cases ca : most < a
          · have RS := Lib.hid (show plainW l = l by rw [PW.out, PM.out, if_pos (.inr ca)])
            have ca2 : (1099511627776 : Int) < (a : Int) := by unfold most at ca; omega
            clear PW PM ca
            go_wp2_with fail
            refine (CU.out _).mono ?_
            rintro e w9 ⟨rfl, rfl⟩
            go_wp2_with fail
            refine (PA.out _).mono ?_
            rintro e w3 ⟨rfl, d3⟩
            have K3 := Lib.hid (HB.out.trans ((drew_bel d3).mono HB.out.size))
            clear d3
            go_wp2
            go_ret
            exact ⟨by rw [RS.out]; rfl, K3.out⟩
          · have ca2 : ¬ (1099511627776 : Int) < (a : Int) := by unfold most at ca; omega
            have a1 : a ≤ 1099511627776 := by unfold most at ca; omega
            have RS := Lib.hid (show plainW l = (if ([46, 45] : Tx) = [46, 45] ∧ a = 0 then [46, 43] else [46, 45]) ++ digs 10 a by rw [PW.out, PM.out, if_neg (by omega)] <;> simp)
            have DE := Lib.hid (fun w2 (h : TB w2) => dec_any a w2 (by omega) h)
            have DS : (decS a).size ≤ 64 := digs_len64 (by omega) a (by omega)
            obtain ⟨q, hq⟩ : ∃ q, q = (decS a).size := ⟨_, rfl⟩
            have z1 : (decS a).size = q := hq.symm
            rw [z1] at DS
            have N1 : ¬ 9223372036854775807 < 2 + q := by omega
            by_cases cz : a = 0
            · have SA := Lib.hid (show strL [46, 43] ++ decS a = strL (plainW l) by rw [RS.out, decS, strL_app, if_pos ⟨rfl, cz⟩])
              clear PW PM ca a1 hq RS
              subst cz
              go_wp2_with fail
              refine (CU.out _).mono ?_
              rintro e w9 ⟨rfl, rfl⟩
              go_wp2_with fail
              refine (PA.out _).mono ?_
              rintro e w3 ⟨rfl, d3⟩
              have K3 := Lib.hid (HB.out.trans ((drew_bel d3).mono HB.out.size))
              clear d3
              go_wp2_with fail
              refine (DE.out _ (TH.out.below K3.out)).mono ?_
              rintro e w4 ⟨rfl, b4⟩
              have K4 := Lib.hid (K3.out.trans (b4.mono K3.out.size))
              clear b4
              go_wp2
              go_ret
              exact ⟨by rw [← SA.out]; rfl, K4.out⟩
            · have SA := Lib.hid (show strL [46, 45] ++ decS a = strL (plainW l) by rw [RS.out, decS, strL_app, if_neg (fun h => cz h.2)])
              have cz2 : ((a : Int) == 0) = false := by simp; omega
              have cz3 : ¬ (a : Int) = 0 := by omega
              clear PW PM ca a1 hq RS cz
              go_wp2_with fail
              refine (CU.out _).mono ?_
              rintro e w9 ⟨rfl, rfl⟩
              go_wp2_with fail
              refine (PA.out _).mono ?_
              rintro e w3 ⟨rfl, d3⟩
              have K3 := Lib.hid (HB.out.trans ((drew_bel d3).mono HB.out.size))
              clear d3
              go_wp2_with fail
              refine (DE.out _ (TH.out.below K3.out)).mono ?_
              rintro e w4 ⟨rfl, b4⟩
              have K4 := Lib.hid (K3.out.trans (b4.mono K3.out.size))
              clear b4
              go_wp2
              go_ret
              exact ⟨by rw [← SA.out]; rfl, K4.out⟩
        · have RS := Lib.hid (show plainW l = l by rw [PW.out, PM.out, if_pos (.inl cb)])
          have cb2 : ((b : Int) != 0) = true := by simp; omega
          have cb3 : ¬ (b : Int) = 0 := by omega
          clear PW PM cb
          go_wp2_with fail
          refine (CU.out _).mono ?_
          rintro e w9 ⟨rfl, rfl⟩
          go_wp2_with fail
          refine (PA.out _).mono ?_
          rintro e w3 ⟨rfl, d3⟩
          have K3 := Lib.hid (HB.out.trans ((drew_bel d3).mono HB.out.size))
          clear d3
          go_wp2
          go_ret
          exact ⟨by rw [RS.out]; rfl, K3.out⟩
    · have RS := Lib.hid (show plainW l = l by rw [plainW, if_neg (by rw [h0 (by omega)]; simp), if_neg (by rw [h1 (by omega)]; simp), if_neg (by rw [h2 (by omega)]; simp)])
      clear h0 h1 h2
      go_wp2
      go_ret
      exact ⟨by rw [RS.out]; rfl, HB.out⟩
end Go.Proofs.YtebpmngllljkaaaDoor
