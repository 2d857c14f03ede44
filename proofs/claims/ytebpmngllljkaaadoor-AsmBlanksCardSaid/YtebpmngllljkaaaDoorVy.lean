/-
  Layer 4, the walks: usual.
-/
import Derived.Test.YtebpmngllljkaaaDoorV3
set_option linter.unusedSimpArgs false
set_option linter.unusedVariables false
namespace Go.Proofs.YtebpmngllljkaaaDoor
open Go.RowKit GrP GrA

set_option maxRecDepth 100000 in
set_option maxHeartbeats 6400000 in
theorem ausual_8 (L M : List Tx) (a : Addr) (cap : Nat) (w : World) (tb : TB w) (h : SlT w (.slice (some a) 8 cap) L) (hs : Short L) (hn : L.length = 8) (hM : M = L.map plainW) : Calls Tryd.prog 33 #[.slice (some a) 8 cap] w fun e w' => ∃ v, e = .returned v ∧ SlT w' v (usualL M) ∧ Below w.heap.size w w' := by
  obtain ⟨i0, hi, hz0, hz1, hz2⟩ := info_parts strbytes
  have hMl : M.length = 8 := by rw [hM, List.length_map]; exact hn
  obtain ⟨m5, hm5⟩ : ∃ m, m = M.getD 5 [] := ⟨_, rfl⟩
  have G5 := Lib.hid (getD_map hM (j := 5) (by omega))
  rw [← hm5] at G5
  have H5 := Lib.hid hm5
  obtain ⟨m6, hm6⟩ : ∃ m, m = M.getD 6 [] := ⟨_, rfl⟩
  have G6 := Lib.hid (getD_map hM (j := 6) (by omega))
  rw [← hm6] at G6
  have H6 := Lib.hid hm6
  obtain ⟨m7, hm7⟩ : ∃ m, m = M.getD 7 [] := ⟨_, rfl⟩
  have G7 := Lib.hid (getD_map hM (j := 7) (by omega))
  rw [← hm7] at G7
  have H7 := Lib.hid hm7
  have TH := Lib.hid tb
  have SH := Lib.hid h
  have HS := Lib.hid hs
  have HN := Lib.hid hn
  have HM := Lib.hid hM
  have HL := Lib.hid hMl
  obtain ⟨w1, mk1, own1, gr1⟩ := run_make_own (P := Tryd.prog) w w.heap.size 30 9 i0 _ 1 Tryd.underlying30 hi hz0 hz1 .i64 .i64 (8 + 2) (by rw [hz2]; omega) (by unfold maxLen; omega) (Nat.le_refl _)
  have B1 := Lib.hid (show Below w.heap.size w w1 from (Below.refl _ _).grown gr1 (Nat.le_refl _) (fun j hj => by cases hj))
  have O1 := Lib.hid own1
  have mk2 : (Instr.makeSlice 30 (.int .i64 0) (.int .i64 10)).run Tryd.prog w = .ok (.slice (some ⟨w.heap.size, 0, none⟩) 0 (8 + 2)) w1 := mk1
  clear tb h hs hn hM hMl own1 gr1 mk1 hm5 hm6 hm7
  go_enter Tryd.func33, Tryd.ntmps33
  go_upto_region 2 with fail
  clear mk2
  go_wp2_with fail
  go_loopw [3, 5, 13] (fun v _ iv wr => ∃ k : Nat, k ≤ 8 ∧ iv = .int .i64 (k : Int) ∧ wr.ownsRow w.heap.size 9 1 v k ((M.map sv).take k) ∧ Below w.heap.size w wr) (fun _ _ iv _ => 8 - (intOf iv).toNat)
  case atStart => exact ⟨0, by omega, rfl, by simpa using O1.out, B1.out⟩
  case round =>
    clear B1 O1
    obtain ⟨k, hk, rfl, hown, hbel⟩ := hrel
    have HO := Lib.hid hown
    have HB := Lib.hid hbel
    clear hown hbel
    have k0 : (0 : Int) ≤ (k : Int) := by omega
    by_cases c : k < 8
    · have c1 : (k : Int) < 8 := by omega
      obtain ⟨t, ht⟩ : ∃ t, t = L.getD k [] := ⟨_, rfl⟩
      have CT := Lib.hid (slT_atU SH.out k (by have := HN.out; omega))
      rw [← ht] at CT
      have cw : wr.cell? (a.add k) = some (.string (strL t)) := by
        rw [HB.out.cell (World.block_lt_of_cell? w _ CT.out)]
        exact CT.out
      have PL := Lib.hid (fun w2 h2 => plain_any t w2 h2 (by rw [ht]; exact short_atU HS.out k (by have := HN.out; omega)))
      obtain ⟨u, hu⟩ : ∃ u, u = plainW t := ⟨_, rfl⟩
      rw [← hu] at PL
      have TK := Lib.hid (show (M.map sv).take (k + 1) = (M.map sv).take k ++ [sv u] by
        have hl : k < M.length := by rw [HL.out]; exact c
        rw [← List.map_take, ← List.map_take, List.take_succ_eq_append_getElem hl, List.map_append, hu, ht]
        congr 1
        have hl2 : k < L.length := by rw [HN.out]; exact c
        have e0 : M[k] = plainW L[k] := by simp [HM.out]
        rw [e0, List.getD_eq_getElem?_getD, List.getElem?_eq_getElem hl2]
        rfl)
      clear ht hu
      go_wp2_with fail
      refine (PL.out _ (TH.out.below HB.out)).mono ?_
      rintro e w2 ⟨rfl, b2⟩
      have K2 := Lib.hid (HB.out.trans (b2.mono HB.out.size))
      have O2 := Lib.hid (own_below HO.out b2)
      clear b2
      have k1a := Lib.hid (app_cell w2 (sv u))
      have k1b := Lib.hid (show ∀ x ∈ [sv u], x.oneCell' = true by simp [Value.oneCell', sv])
      have k1c := Lib.hid (show k + 1 ≤ maxLen by unfold maxLen; omega)
      have k1d := Lib.hid (show (k + 1) * 16 ≤ 140737488355328 by omega)
      have k1e := Lib.hid (show ∀ o : Obj, w.heap.size ≤ (w2.alloc o).heap.size from fun o => by have := K2.out.size; simp; omega)
      have HI := Lib.hid (show k + 1 ≤ 8 by omega)
      clear hk c
      go_wp2_with (at_builtin; refine wpList_append_own _ rfl (.tmp 17) (.tmp 20) 30 rfl w.heap.size 9 i0 (.string ⟨#[]⟩) 1 16 Tryd.underlying30 hi hz0 hz1 hz2 rfl (by decide) _ _ _ rfl (O2.out.alloc _) ⟨w2.heap.size, 0, none⟩ 1 1 [sv u] rfl rfl (k1a.out _) k1b.out k1c.out k1d.out (k1e.out _) ?_)
      intro v3 w3 h3 g3 _
      have K3 := Lib.hid (app_bel K2.out O2.out g3)
      have O3 := Lib.hid (show w3.ownsRow w.heap.size 9 1 v3 (k + 1) ((M.map sv).take (k + 1)) by rw [TK.out]; exact h3)
      clear h3 g3
      go_wp2
      go_roundw
      case rel => exact ⟨k + 1, HI.out, by go_num, O3.out, K3.out⟩
      case measure => have := HI.out; simp [intOf] <;> omega
    · obtain rfl : k = 8 := by omega
      have c1 : ¬ ((8 : Nat) : Int) < 8 := by omega
      have O4 := Lib.hid (show wr.ownsRow w.heap.size 9 1 _ 8 (M.map sv) by
        have := HO.out
        rwa [List.take_of_length_le (by rw [List.length_map, HL.out]; omega)] at this)
      clear HO hk c
      obtain ⟨g, cp, RR, hv, hg, hxl, hcl, hcm, hrow⟩ := own_row O4.out (by omega)
      subst hv
      have RW := Lib.hid hrow
      have HG := Lib.hid hg
      have HC := Lib.hid hcl
      have HCM := Lib.hid hcm
      clear hrow hg hxl hcl hcm
      have d5 : wr.cell? ⟨g, 5, none⟩ = some (.string (strL m5)) := by
        rw [RW.out.cell 5, List.getElem?_append_left (by rw [List.length_map, HL.out]; omega)]
        exact G5.out
      have d6 : wr.cell? ⟨g, 6, none⟩ = some (.string (strL m6)) := by
        rw [RW.out.cell 6, List.getElem?_append_left (by rw [List.length_map, HL.out]; omega)]
        exact G6.out
      have d7 : wr.cell? ⟨g, 7, none⟩ = some (.string (strL m7)) := by
        rw [RW.out.cell 7, List.getElem?_append_left (by rw [List.length_map, HL.out]; omega)]
        exact G7.out
      by_cases q : m5 = [44]
      · have Q5 := Lib.hid q
        have eQ5 := str_lit_eq q
        clear q
        by_cases q : m6 = [35, 48]
        · have Q6 := Lib.hid q
          have eQ6 := str_lit_eq q
          clear q
          by_cases q : m7 = [93]
          · have Q7 := Lib.hid q
            have eQ7 := str_lit_eq q
            clear q
            have RS := Lib.hid (show usualL M = M.take 5 ++ [[93]] by unfold usualL; rw [if_pos ⟨HL.out, H5.out.symm.trans Q5.out, H6.out.symm.trans Q6.out, H7.out.symm.trans Q7.out⟩])
            have O5 := Lib.hid (show wr.ownsRow w.heap.size 9 1 (.slice (some ⟨g, 0, none⟩) 5 cp) 5 ((M.map sv).take 5) from row_own (R := (M.map sv).drop 5 ++ RR) HG.out (by simp [HL.out]) (by have := HC.out; simp [HL.out]; omega) HCM.out (by rw [← List.append_assoc, List.take_append_drop]; exact RW.out))
            have C5 : ¬ (cp : Int) < 5 := by have := HC.out; omega
            have C6 : (5 : Int) ≤ (cp : Int) := by have := HC.out; omega
            have k1a := Lib.hid (app_cell wr (sv [93]))
            have k1b := Lib.hid (show ∀ x ∈ [sv [93]], x.oneCell' = true by simp [Value.oneCell', sv])
            have k1e := Lib.hid (show ∀ o : Obj, w.heap.size ≤ (wr.alloc o).heap.size from fun o => by have := HB.out.size; simp; omega)
            clear O4
            go_upto_region 9 with fail
            go_wp2_with (at_builtin; refine wpList_append_own _ rfl (.tmp 47) (.tmp 48) 30 rfl w.heap.size 9 i0 (.string ⟨#[]⟩) 1 16 Tryd.underlying30 hi hz0 hz1 hz2 rfl (by decide) _ _ _ rfl (O5.out.alloc _) ⟨wr.heap.size, 0, none⟩ 1 1 [sv [93]] rfl rfl (k1a.out _) k1b.out (by unfold maxLen; decide) (by decide) (k1e.out _) ?_)
            intro v3 w3 h3 g3 _
            have K3 := Lib.hid (app_bel HB.out O5.out g3)
            have SL := Lib.hid (slT_own (M := M.take 5 ++ [[93]]) (by rw [List.map_append, List.map_take]; exact h3) (by simp [HL.out]) (by omega) (by omega))
            clear h3 g3
            go_wp2
            go_ret
            exact ⟨_, rfl, by rw [RS.out]; exact SL.out, K3.out⟩
          · have Q7 := Lib.hid q
            have eQ7 := str_lit_ne q
            clear q
            have RS := Lib.hid (show usualL M = M by unfold usualL; rw [if_neg (fun h => Q7.out (H7.out.trans h.2.2.2)), if_neg (fun h => absurd h.1 (by rw [HL.out]; decide)), if_neg (fun h => absurd h.1 (by rw [HL.out]; decide)), if_neg (fun h => absurd h.1 (by rw [HL.out]; decide)), if_neg (fun h => absurd h.1 (by rw [HL.out]; decide))])
            have SL := Lib.hid (slT_own O4.out HL.out.symm (by omega) (by omega))
            clear O4
            go_wp2
            go_ret
            exact ⟨_, rfl, by rw [RS.out]; exact SL.out, HB.out⟩
        · have Q6 := Lib.hid q
          have eQ6 := str_lit_ne q
          clear q
          have RS := Lib.hid (show usualL M = M by unfold usualL; rw [if_neg (fun h => Q6.out (H6.out.trans h.2.2.1)), if_neg (fun h => absurd h.1 (by rw [HL.out]; decide)), if_neg (fun h => absurd h.1 (by rw [HL.out]; decide)), if_neg (fun h => absurd h.1 (by rw [HL.out]; decide)), if_neg (fun h => absurd h.1 (by rw [HL.out]; decide))])
          have SL := Lib.hid (slT_own O4.out HL.out.symm (by omega) (by omega))
          clear O4
          go_wp2
          go_ret
          exact ⟨_, rfl, by rw [RS.out]; exact SL.out, HB.out⟩
      · have Q5 := Lib.hid q
        have eQ5 := str_lit_ne q
        clear q
        have RS := Lib.hid (show usualL M = M by unfold usualL; rw [if_neg (fun h => Q5.out (H5.out.trans h.2.1)), if_neg (fun h => absurd h.1 (by rw [HL.out]; decide)), if_neg (fun h => absurd h.1 (by rw [HL.out]; decide)), if_neg (fun h => absurd h.1 (by rw [HL.out]; decide)), if_neg (fun h => absurd h.1 (by rw [HL.out]; decide))])
        have SL := Lib.hid (slT_own O4.out HL.out.symm (by omega) (by omega))
        clear O4
        go_wp2
        go_ret
        exact ⟨_, rfl, by rw [RS.out]; exact SL.out, HB.out⟩

set_option maxRecDepth 100000 in
set_option maxHeartbeats 6400000 in
theorem ausual_7 (L M : List Tx) (a : Addr) (cap : Nat) (w : World) (tb : TB w) (h : SlT w (.slice (some a) 7 cap) L) (hs : Short L) (hn : L.length = 7) (hM : M = L.map plainW) : Calls Tryd.prog 33 #[.slice (some a) 7 cap] w fun e w' => ∃ v, e = .returned v ∧ SlT w' v (usualL M) ∧ Below w.heap.size w w' := by
  obtain ⟨i0, hi, hz0, hz1, hz2⟩ := info_parts strbytes
  have hMl : M.length = 7 := by rw [hM, List.length_map]; exact hn
  obtain ⟨m0, hm0⟩ : ∃ m, m = M.getD 0 [] := ⟨_, rfl⟩
  have G0 := Lib.hid (getD_map hM (j := 0) (by omega))
  rw [← hm0] at G0
  have H0 := Lib.hid hm0
  obtain ⟨m1, hm1⟩ : ∃ m, m = M.getD 1 [] := ⟨_, rfl⟩
  have G1 := Lib.hid (getD_map hM (j := 1) (by omega))
  rw [← hm1] at G1
  have H1 := Lib.hid hm1
  obtain ⟨m2, hm2⟩ : ∃ m, m = M.getD 2 [] := ⟨_, rfl⟩
  have G2 := Lib.hid (getD_map hM (j := 2) (by omega))
  rw [← hm2] at G2
  have H2 := Lib.hid hm2
  obtain ⟨m3, hm3⟩ : ∃ m, m = M.getD 3 [] := ⟨_, rfl⟩
  have G3 := Lib.hid (getD_map hM (j := 3) (by omega))
  rw [← hm3] at G3
  have H3 := Lib.hid hm3
  obtain ⟨m4, hm4⟩ : ∃ m, m = M.getD 4 [] := ⟨_, rfl⟩
  have G4 := Lib.hid (getD_map hM (j := 4) (by omega))
  rw [← hm4] at G4
  have H4 := Lib.hid hm4
  obtain ⟨m5, hm5⟩ : ∃ m, m = M.getD 5 [] := ⟨_, rfl⟩
  have G5 := Lib.hid (getD_map hM (j := 5) (by omega))
  rw [← hm5] at G5
  have H5 := Lib.hid hm5
  obtain ⟨m6, hm6⟩ : ∃ m, m = M.getD 6 [] := ⟨_, rfl⟩
  have G6 := Lib.hid (getD_map hM (j := 6) (by omega))
  rw [← hm6] at G6
  have H6 := Lib.hid hm6
  have TH := Lib.hid tb
  have SH := Lib.hid h
  have HS := Lib.hid hs
  have HN := Lib.hid hn
  have HM := Lib.hid hM
  have HL := Lib.hid hMl
  obtain ⟨w1, mk1, own1, gr1⟩ := run_make_own (P := Tryd.prog) w w.heap.size 30 9 i0 _ 1 Tryd.underlying30 hi hz0 hz1 .i64 .i64 (7 + 2) (by rw [hz2]; omega) (by unfold maxLen; omega) (Nat.le_refl _)
  have B1 := Lib.hid (show Below w.heap.size w w1 from (Below.refl _ _).grown gr1 (Nat.le_refl _) (fun j hj => by cases hj))
  have O1 := Lib.hid own1
  have mk2 : (Instr.makeSlice 30 (.int .i64 0) (.int .i64 9)).run Tryd.prog w = .ok (.slice (some ⟨w.heap.size, 0, none⟩) 0 (7 + 2)) w1 := mk1
  clear tb h hs hn hM hMl own1 gr1 mk1 hm0 hm1 hm2 hm3 hm4 hm5 hm6
  go_enter Tryd.func33, Tryd.ntmps33
  go_upto_region 2 with fail
  clear mk2
  go_wp2_with fail
  go_loopw [3, 5, 13] (fun v _ iv wr => ∃ k : Nat, k ≤ 7 ∧ iv = .int .i64 (k : Int) ∧ wr.ownsRow w.heap.size 9 1 v k ((M.map sv).take k) ∧ Below w.heap.size w wr) (fun _ _ iv _ => 7 - (intOf iv).toNat)
  case atStart => exact ⟨0, by omega, rfl, by simpa using O1.out, B1.out⟩
  case round =>
    clear B1 O1
    obtain ⟨k, hk, rfl, hown, hbel⟩ := hrel
    have HO := Lib.hid hown
    have HB := Lib.hid hbel
    clear hown hbel
    have k0 : (0 : Int) ≤ (k : Int) := by omega
    by_cases c : k < 7
    · have c1 : (k : Int) < 7 := by omega
      obtain ⟨t, ht⟩ : ∃ t, t = L.getD k [] := ⟨_, rfl⟩
      have CT := Lib.hid (slT_atU SH.out k (by have := HN.out; omega))
      rw [← ht] at CT
      have cw : wr.cell? (a.add k) = some (.string (strL t)) := by
        rw [HB.out.cell (World.block_lt_of_cell? w _ CT.out)]
        exact CT.out
      have PL := Lib.hid (fun w2 h2 => plain_any t w2 h2 (by rw [ht]; exact short_atU HS.out k (by have := HN.out; omega)))
      obtain ⟨u, hu⟩ : ∃ u, u = plainW t := ⟨_, rfl⟩
      rw [← hu] at PL
      have TK := Lib.hid (show (M.map sv).take (k + 1) = (M.map sv).take k ++ [sv u] by
        have hl : k < M.length := by rw [HL.out]; exact c
        rw [← List.map_take, ← List.map_take, List.take_succ_eq_append_getElem hl, List.map_append, hu, ht]
        congr 1
        have hl2 : k < L.length := by rw [HN.out]; exact c
        have e0 : M[k] = plainW L[k] := by simp [HM.out]
        rw [e0, List.getD_eq_getElem?_getD, List.getElem?_eq_getElem hl2]
        rfl)
      clear ht hu
      go_wp2_with fail
      refine (PL.out _ (TH.out.below HB.out)).mono ?_
      rintro e w2 ⟨rfl, b2⟩
      have K2 := Lib.hid (HB.out.trans (b2.mono HB.out.size))
      have O2 := Lib.hid (own_below HO.out b2)
      clear b2
      have k1a := Lib.hid (app_cell w2 (sv u))
      have k1b := Lib.hid (show ∀ x ∈ [sv u], x.oneCell' = true by simp [Value.oneCell', sv])
      have k1c := Lib.hid (show k + 1 ≤ maxLen by unfold maxLen; omega)
      have k1d := Lib.hid (show (k + 1) * 16 ≤ 140737488355328 by omega)
      have k1e := Lib.hid (show ∀ o : Obj, w.heap.size ≤ (w2.alloc o).heap.size from fun o => by have := K2.out.size; simp; omega)
      have HI := Lib.hid (show k + 1 ≤ 7 by omega)
      clear hk c
      go_wp2_with (at_builtin; refine wpList_append_own _ rfl (.tmp 17) (.tmp 20) 30 rfl w.heap.size 9 i0 (.string ⟨#[]⟩) 1 16 Tryd.underlying30 hi hz0 hz1 hz2 rfl (by decide) _ _ _ rfl (O2.out.alloc _) ⟨w2.heap.size, 0, none⟩ 1 1 [sv u] rfl rfl (k1a.out _) k1b.out k1c.out k1d.out (k1e.out _) ?_)
      intro v3 w3 h3 g3 _
      have K3 := Lib.hid (app_bel K2.out O2.out g3)
      have O3 := Lib.hid (show w3.ownsRow w.heap.size 9 1 v3 (k + 1) ((M.map sv).take (k + 1)) by rw [TK.out]; exact h3)
      clear h3 g3
      go_wp2
      go_roundw
      case rel => exact ⟨k + 1, HI.out, by go_num, O3.out, K3.out⟩
      case measure => have := HI.out; simp [intOf] <;> omega
    · obtain rfl : k = 7 := by omega
      have c1 : ¬ ((7 : Nat) : Int) < 7 := by omega
      have O4 := Lib.hid (show wr.ownsRow w.heap.size 9 1 _ 7 (M.map sv) by
        have := HO.out
        rwa [List.take_of_length_le (by rw [List.length_map, HL.out]; omega)] at this)
      clear HO hk c
      obtain ⟨g, cp, RR, hv, hg, hxl, hcl, hcm, hrow⟩ := own_row O4.out (by omega)
      subst hv
      have RW := Lib.hid hrow
      have HG := Lib.hid hg
      have HC := Lib.hid hcl
      have HCM := Lib.hid hcm
      clear hrow hg hxl hcl hcm
      have d0 : wr.cell? ⟨g, 0, none⟩ = some (.string (strL m0)) := by
        rw [RW.out.cell 0, List.getElem?_append_left (by rw [List.length_map, HL.out]; omega)]
        exact G0.out
      have d1 : wr.cell? ⟨g, 1, none⟩ = some (.string (strL m1)) := by
        rw [RW.out.cell 1, List.getElem?_append_left (by rw [List.length_map, HL.out]; omega)]
        exact G1.out
      have d2 : wr.cell? ⟨g, 2, none⟩ = some (.string (strL m2)) := by
        rw [RW.out.cell 2, List.getElem?_append_left (by rw [List.length_map, HL.out]; omega)]
        exact G2.out
      have d3 : wr.cell? ⟨g, 3, none⟩ = some (.string (strL m3)) := by
        rw [RW.out.cell 3, List.getElem?_append_left (by rw [List.length_map, HL.out]; omega)]
        exact G3.out
      have d4 : wr.cell? ⟨g, 4, none⟩ = some (.string (strL m4)) := by
        rw [RW.out.cell 4, List.getElem?_append_left (by rw [List.length_map, HL.out]; omega)]
        exact G4.out
      have d5 : wr.cell? ⟨g, 5, none⟩ = some (.string (strL m5)) := by
        rw [RW.out.cell 5, List.getElem?_append_left (by rw [List.length_map, HL.out]; omega)]
        exact G5.out
      have d6 : wr.cell? ⟨g, 6, none⟩ = some (.string (strL m6)) := by
        rw [RW.out.cell 6, List.getElem?_append_left (by rw [List.length_map, HL.out]; omega)]
        exact G6.out
      by_cases q : m0 = [77, 79, 86]
      · have Q0 := Lib.hid q
        have eQ0 := str_lit_eq q
        clear q
        by_cases q : m5 = [76, 83, 76]
        · have Q5 := Lib.hid q
          have eQ5 := str_lit_eq q
          clear q
          by_cases q : m6 = [35, 48]
          · have Q6 := Lib.hid q
            have eQ6 := str_lit_eq q
            clear q
            by_cases q : m4 = [44]
            · have Q4 := Lib.hid q
              have eQ4 := str_lit_eq q
              clear q
              have RS := Lib.hid (show usualL M = [[77, 79, 86], M.getD 1 [], M.getD 2 [], M.getD 3 []] by unfold usualL; rw [if_neg (fun h => absurd h.1 (by rw [HL.out]; decide)), if_pos ⟨HL.out, .inl (H0.out.symm.trans Q0.out), H5.out.symm.trans Q5.out, H6.out.symm.trans Q6.out, H4.out.symm.trans Q4.out⟩]; rfl)
              have KS := Lib.hid (fun (w' : World) (k : Below wr.heap.size wr w') => (⟨(k.cell (World.block_lt_of_cell? wr _ d1)).trans d1, (k.cell (World.block_lt_of_cell? wr _ d2)).trans d2, (k.cell (World.block_lt_of_cell? wr _ d3)).trans d3⟩ : w'.cell? ⟨g, 1, none⟩ = some (.string (strL m1)) ∧ w'.cell? ⟨g, 2, none⟩ = some (.string (strL m2)) ∧ w'.cell? ⟨g, 3, none⟩ = some (.string (strL m3))))
              obtain ⟨v5, w5, hr5, sl5, b5⟩ := app4 (wr.drew.alloc (.cells #[.string ⟨#[77, 79, 86]⟩, .string (strL m1), .string (strL m2), .string (strL m3)] 9)) ⟨g, 0, none⟩ ⟨wr.heap.size, 0, none⟩ [77, 79, 86] m1 m2 m3 (fun j v hj => by
                have e : (⟨wr.heap.size, 0, none⟩ : Addr).add j = ⟨wr.heap.size, j, none⟩ := by unfold Addr.add; split <;> simp_all
                rw [e]
                refine (World.cell?_alloc_new wr.drew _ _ j).trans ?_
                show (#[sv [77, 79, 86], sv m1, sv m2, sv m3] : Array Value)[j]? = some v
                simpa using hj) 4
              have SL := Lib.hid sl5
              have GB := Lib.hid (show Below wr.heap.size wr w5 from ((Below.refl wr.heap.size wr).drew.alloc (Nat.le_refl _) _).trans (b5.mono (by simp)))
              have KB5 := Lib.hid (show Below w.heap.size w w5 from HB.out.trans (GB.out.mono HB.out.size))
              clear O4 sl5 b5
              go_wp2_with fail
              go_region_held3 (fun w' => w'.cell? ⟨g, 1, none⟩ = some (.string (strL m1)) ∧ w'.cell? ⟨g, 2, none⟩ = some (.string (strL m2)) ∧ w'.cell? ⟨g, 3, none⟩ = some (.string (strL m3))) (first | exact KS.out _ (Below.refl _ _).drew | exact KS.out _ ((Below.refl _ _).drew.alloc (by simp) _) | exact KS.out _ GB.out) ((refine step_append_run _ _ (by rfl) (.tmp 84) (.tmp 94) _ _ (by rfl) _ _ (by rfl) (by rfl) v5 w5 hr5 ?_))
              go_wp2
              go_ret
              exact ⟨_, rfl, by rw [RS.out, ← H1.out, ← H2.out, ← H3.out]; exact SL.out, KB5.out⟩
            · have Q4 := Lib.hid q
              have eQ4 := str_lit_ne q
              clear q
              have RS := Lib.hid (show usualL M = M.set 0 [77, 79, 86, 90] by unfold usualL; rw [if_neg (fun h => absurd h.1 (by rw [HL.out]; decide)), if_neg (fun h => Q4.out (H4.out.trans h.2.2.2.2)), if_pos ⟨HL.out, H0.out.symm.trans Q0.out⟩]; rfl)
              have fz : wr.frozen? ⟨g, 0, none⟩ = false := RW.out.free 0
              have SL := Lib.hid (show SlT (wr.setCell ⟨g, 0, none⟩ (.string (strL [77, 79, 86, 90]))) (.slice (some ⟨g, 0, none⟩) 7 cp) (M.set 0 [77, 79, 86, 90]) from by
                have r := RW.out.set 0 (.string (strL [77, 79, 86, 90]))
                have e : (M.map sv ++ RR).set 0 (.string (strL [77, 79, 86, 90])) = (M.set 0 [77, 79, 86, 90]).map sv ++ RR := by
                  rw [List.set_append_left _ _ (by rw [List.length_map, HL.out]; omega), List.map_set]; rfl
                rw [e] at r
                have := slT_row (cap := cp) (M := M.set 0 [77, 79, 86, 90]) (by rw [List.length_set, HL.out]; omega) r
                rwa [List.length_set, HL.out] at this)
              clear O4
              go_wp2
              go_ret
              exact ⟨_, rfl, by rw [RS.out]; exact SL.out, HB.out.setCell HG.out _⟩
          · have Q6 := Lib.hid q
            have eQ6 := str_lit_ne q
            clear q
            have RS := Lib.hid (show usualL M = M.set 0 [77, 79, 86, 90] by unfold usualL; rw [if_neg (fun h => absurd h.1 (by rw [HL.out]; decide)), if_neg (fun h => Q6.out (H6.out.trans h.2.2.2.1)), if_pos ⟨HL.out, H0.out.symm.trans Q0.out⟩]; rfl)
            have fz : wr.frozen? ⟨g, 0, none⟩ = false := RW.out.free 0
            have SL := Lib.hid (show SlT (wr.setCell ⟨g, 0, none⟩ (.string (strL [77, 79, 86, 90]))) (.slice (some ⟨g, 0, none⟩) 7 cp) (M.set 0 [77, 79, 86, 90]) from by
              have r := RW.out.set 0 (.string (strL [77, 79, 86, 90]))
              have e : (M.map sv ++ RR).set 0 (.string (strL [77, 79, 86, 90])) = (M.set 0 [77, 79, 86, 90]).map sv ++ RR := by
                rw [List.set_append_left _ _ (by rw [List.length_map, HL.out]; omega), List.map_set]; rfl
              rw [e] at r
              have := slT_row (cap := cp) (M := M.set 0 [77, 79, 86, 90]) (by rw [List.length_set, HL.out]; omega) r
              rwa [List.length_set, HL.out] at this)
            clear O4
            go_wp2
            go_ret
            exact ⟨_, rfl, by rw [RS.out]; exact SL.out, HB.out.setCell HG.out _⟩
        · have Q5 := Lib.hid q
          have eQ5 := str_lit_ne q
          clear q
          have RS := Lib.hid (show usualL M = M.set 0 [77, 79, 86, 90] by unfold usualL; rw [if_neg (fun h => absurd h.1 (by rw [HL.out]; decide)), if_neg (fun h => Q5.out (H5.out.trans h.2.2.1)), if_pos ⟨HL.out, H0.out.symm.trans Q0.out⟩]; rfl)
          have fz : wr.frozen? ⟨g, 0, none⟩ = false := RW.out.free 0
          have SL := Lib.hid (show SlT (wr.setCell ⟨g, 0, none⟩ (.string (strL [77, 79, 86, 90]))) (.slice (some ⟨g, 0, none⟩) 7 cp) (M.set 0 [77, 79, 86, 90]) from by
            have r := RW.out.set 0 (.string (strL [77, 79, 86, 90]))
            have e : (M.map sv ++ RR).set 0 (.string (strL [77, 79, 86, 90])) = (M.set 0 [77, 79, 86, 90]).map sv ++ RR := by
              rw [List.set_append_left _ _ (by rw [List.length_map, HL.out]; omega), List.map_set]; rfl
            rw [e] at r
            have := slT_row (cap := cp) (M := M.set 0 [77, 79, 86, 90]) (by rw [List.length_set, HL.out]; omega) r
            rwa [List.length_set, HL.out] at this)
          clear O4
          go_wp2
          go_ret
          exact ⟨_, rfl, by rw [RS.out]; exact SL.out, HB.out.setCell HG.out _⟩
      · have Q0 := Lib.hid q
        have eQ0 := str_lit_ne q
        clear q
        by_cases q : m0 = [77, 79, 86, 90]
        · have QZ0 := Lib.hid q
          have eQZ0 := str_lit_eq q
          clear q
          by_cases q : m5 = [76, 83, 76]
          · have Q5 := Lib.hid q
            have eQ5 := str_lit_eq q
            clear q
            by_cases q : m6 = [35, 48]
            · have Q6 := Lib.hid q
              have eQ6 := str_lit_eq q
              clear q
              by_cases q : m4 = [44]
              · have Q4 := Lib.hid q
                have eQ4 := str_lit_eq q
                clear q
                have RS := Lib.hid (show usualL M = [[77, 79, 86], M.getD 1 [], M.getD 2 [], M.getD 3 []] by unfold usualL; rw [if_neg (fun h => absurd h.1 (by rw [HL.out]; decide)), if_pos ⟨HL.out, .inr (H0.out.symm.trans QZ0.out), H5.out.symm.trans Q5.out, H6.out.symm.trans Q6.out, H4.out.symm.trans Q4.out⟩]; rfl)
                have KS := Lib.hid (fun (w' : World) (k : Below wr.heap.size wr w') => (⟨(k.cell (World.block_lt_of_cell? wr _ d1)).trans d1, (k.cell (World.block_lt_of_cell? wr _ d2)).trans d2, (k.cell (World.block_lt_of_cell? wr _ d3)).trans d3⟩ : w'.cell? ⟨g, 1, none⟩ = some (.string (strL m1)) ∧ w'.cell? ⟨g, 2, none⟩ = some (.string (strL m2)) ∧ w'.cell? ⟨g, 3, none⟩ = some (.string (strL m3))))
                obtain ⟨v5, w5, hr5, sl5, b5⟩ := app4 (wr.drew.alloc (.cells #[.string ⟨#[77, 79, 86]⟩, .string (strL m1), .string (strL m2), .string (strL m3)] 9)) ⟨g, 0, none⟩ ⟨wr.heap.size, 0, none⟩ [77, 79, 86] m1 m2 m3 (fun j v hj => by
                  have e : (⟨wr.heap.size, 0, none⟩ : Addr).add j = ⟨wr.heap.size, j, none⟩ := by unfold Addr.add; split <;> simp_all
                  rw [e]
                  refine (World.cell?_alloc_new wr.drew _ _ j).trans ?_
                  show (#[sv [77, 79, 86], sv m1, sv m2, sv m3] : Array Value)[j]? = some v
                  simpa using hj) 4
                have SL := Lib.hid sl5
                have GB := Lib.hid (show Below wr.heap.size wr w5 from ((Below.refl wr.heap.size wr).drew.alloc (Nat.le_refl _) _).trans (b5.mono (by simp)))
                have KB5 := Lib.hid (show Below w.heap.size w w5 from HB.out.trans (GB.out.mono HB.out.size))
                clear O4 sl5 b5
                go_wp2_with fail
                go_region_held3 (fun w' => w'.cell? ⟨g, 1, none⟩ = some (.string (strL m1)) ∧ w'.cell? ⟨g, 2, none⟩ = some (.string (strL m2)) ∧ w'.cell? ⟨g, 3, none⟩ = some (.string (strL m3))) (first | exact KS.out _ (Below.refl _ _).drew | exact KS.out _ ((Below.refl _ _).drew.alloc (by simp) _) | exact KS.out _ GB.out) ((refine step_append_run _ _ (by rfl) (.tmp 84) (.tmp 94) _ _ (by rfl) _ _ (by rfl) (by rfl) v5 w5 hr5 ?_))
                go_wp2
                go_ret
                exact ⟨_, rfl, by rw [RS.out, ← H1.out, ← H2.out, ← H3.out]; exact SL.out, KB5.out⟩
              · have Q4 := Lib.hid q
                have eQ4 := str_lit_ne q
                clear q
                have RS := Lib.hid (show usualL M = M by unfold usualL; rw [if_neg (fun h => absurd h.1 (by rw [HL.out]; decide)), if_neg (fun h => Q4.out (H4.out.trans h.2.2.2.2)), if_neg (fun h => Q0.out (H0.out.trans h.2)), if_neg (fun h => absurd h.1 (by rw [HL.out]; decide)), if_neg (fun h => absurd h.1 (by rw [HL.out]; decide))])
                have SL := Lib.hid (slT_own O4.out HL.out.symm (by omega) (by omega))
                clear O4
                go_wp2
                go_ret
                exact ⟨_, rfl, by rw [RS.out]; exact SL.out, HB.out⟩
            · have Q6 := Lib.hid q
              have eQ6 := str_lit_ne q
              clear q
              have RS := Lib.hid (show usualL M = M by unfold usualL; rw [if_neg (fun h => absurd h.1 (by rw [HL.out]; decide)), if_neg (fun h => Q6.out (H6.out.trans h.2.2.2.1)), if_neg (fun h => Q0.out (H0.out.trans h.2)), if_neg (fun h => absurd h.1 (by rw [HL.out]; decide)), if_neg (fun h => absurd h.1 (by rw [HL.out]; decide))])
              have SL := Lib.hid (slT_own O4.out HL.out.symm (by omega) (by omega))
              clear O4
              go_wp2
              go_ret
              exact ⟨_, rfl, by rw [RS.out]; exact SL.out, HB.out⟩
          · have Q5 := Lib.hid q
            have eQ5 := str_lit_ne q
            clear q
            have RS := Lib.hid (show usualL M = M by unfold usualL; rw [if_neg (fun h => absurd h.1 (by rw [HL.out]; decide)), if_neg (fun h => Q5.out (H5.out.trans h.2.2.1)), if_neg (fun h => Q0.out (H0.out.trans h.2)), if_neg (fun h => absurd h.1 (by rw [HL.out]; decide)), if_neg (fun h => absurd h.1 (by rw [HL.out]; decide))])
            have SL := Lib.hid (slT_own O4.out HL.out.symm (by omega) (by omega))
            clear O4
            go_wp2
            go_ret
            exact ⟨_, rfl, by rw [RS.out]; exact SL.out, HB.out⟩
        · have QZ0 := Lib.hid q
          have eQZ0 := str_lit_ne q
          clear q
          have RS := Lib.hid (show usualL M = M by unfold usualL; rw [if_neg (fun h => absurd h.1 (by rw [HL.out]; decide)), if_neg (fun h => h.2.1.elim (fun x => Q0.out (H0.out.trans x)) (fun x => QZ0.out (H0.out.trans x))), if_neg (fun h => Q0.out (H0.out.trans h.2)), if_neg (fun h => absurd h.1 (by rw [HL.out]; decide)), if_neg (fun h => absurd h.1 (by rw [HL.out]; decide))])
          have SL := Lib.hid (slT_own O4.out HL.out.symm (by omega) (by omega))
          clear O4
          go_wp2
          go_ret
          exact ⟨_, rfl, by rw [RS.out]; exact SL.out, HB.out⟩

set_option maxRecDepth 100000 in
set_option maxHeartbeats 6400000 in
theorem ausual_4 (L M : List Tx) (a : Addr) (cap : Nat) (w : World) (tb : TB w) (h : SlT w (.slice (some a) 4 cap) L) (hs : Short L) (hn : L.length = 4) (hM : M = L.map plainW) : Calls Tryd.prog 33 #[.slice (some a) 4 cap] w fun e w' => ∃ v, e = .returned v ∧ SlT w' v (usualL M) ∧ Below w.heap.size w w' := by
  obtain ⟨i0, hi, hz0, hz1, hz2⟩ := info_parts strbytes
  have hMl : M.length = 4 := by rw [hM, List.length_map]; exact hn
  obtain ⟨m0, hm0⟩ : ∃ m, m = M.getD 0 [] := ⟨_, rfl⟩
  have G0 := Lib.hid (getD_map hM (j := 0) (by omega))
  rw [← hm0] at G0
  have H0 := Lib.hid hm0
  have TH := Lib.hid tb
  have SH := Lib.hid h
  have HS := Lib.hid hs
  have HN := Lib.hid hn
  have HM := Lib.hid hM
  have HL := Lib.hid hMl
  obtain ⟨w1, mk1, own1, gr1⟩ := run_make_own (P := Tryd.prog) w w.heap.size 30 9 i0 _ 1 Tryd.underlying30 hi hz0 hz1 .i64 .i64 (4 + 2) (by rw [hz2]; omega) (by unfold maxLen; omega) (Nat.le_refl _)
  have B1 := Lib.hid (show Below w.heap.size w w1 from (Below.refl _ _).grown gr1 (Nat.le_refl _) (fun j hj => by cases hj))
  have O1 := Lib.hid own1
  have mk2 : (Instr.makeSlice 30 (.int .i64 0) (.int .i64 6)).run Tryd.prog w = .ok (.slice (some ⟨w.heap.size, 0, none⟩) 0 (4 + 2)) w1 := mk1
  clear tb h hs hn hM hMl own1 gr1 mk1 hm0
  go_enter Tryd.func33, Tryd.ntmps33
  go_upto_region 2 with fail
  clear mk2
  go_wp2_with fail
  go_loopw [3, 5, 13] (fun v _ iv wr => ∃ k : Nat, k ≤ 4 ∧ iv = .int .i64 (k : Int) ∧ wr.ownsRow w.heap.size 9 1 v k ((M.map sv).take k) ∧ Below w.heap.size w wr) (fun _ _ iv _ => 4 - (intOf iv).toNat)
  case atStart => exact ⟨0, by omega, rfl, by simpa using O1.out, B1.out⟩
  case round =>
    clear B1 O1
    obtain ⟨k, hk, rfl, hown, hbel⟩ := hrel
    have HO := Lib.hid hown
    have HB := Lib.hid hbel
    clear hown hbel
    have k0 : (0 : Int) ≤ (k : Int) := by omega
    by_cases c : k < 4
    · have c1 : (k : Int) < 4 := by omega
      obtain ⟨t, ht⟩ : ∃ t, t = L.getD k [] := ⟨_, rfl⟩
      have CT := Lib.hid (slT_atU SH.out k (by have := HN.out; omega))
      rw [← ht] at CT
      have cw : wr.cell? (a.add k) = some (.string (strL t)) := by
        rw [HB.out.cell (World.block_lt_of_cell? w _ CT.out)]
        exact CT.out
      have PL := Lib.hid (fun w2 h2 => plain_any t w2 h2 (by rw [ht]; exact short_atU HS.out k (by have := HN.out; omega)))
      obtain ⟨u, hu⟩ : ∃ u, u = plainW t := ⟨_, rfl⟩
      rw [← hu] at PL
      have TK := Lib.hid (show (M.map sv).take (k + 1) = (M.map sv).take k ++ [sv u] by
        have hl : k < M.length := by rw [HL.out]; exact c
        rw [← List.map_take, ← List.map_take, List.take_succ_eq_append_getElem hl, List.map_append, hu, ht]
        congr 1
        have hl2 : k < L.length := by rw [HN.out]; exact c
        have e0 : M[k] = plainW L[k] := by simp [HM.out]
        rw [e0, List.getD_eq_getElem?_getD, List.getElem?_eq_getElem hl2]
        rfl)
      clear ht hu
      go_wp2_with fail
      refine (PL.out _ (TH.out.below HB.out)).mono ?_
      rintro e w2 ⟨rfl, b2⟩
      have K2 := Lib.hid (HB.out.trans (b2.mono HB.out.size))
      have O2 := Lib.hid (own_below HO.out b2)
      clear b2
      have k1a := Lib.hid (app_cell w2 (sv u))
      have k1b := Lib.hid (show ∀ x ∈ [sv u], x.oneCell' = true by simp [Value.oneCell', sv])
      have k1c := Lib.hid (show k + 1 ≤ maxLen by unfold maxLen; omega)
      have k1d := Lib.hid (show (k + 1) * 16 ≤ 140737488355328 by omega)
      have k1e := Lib.hid (show ∀ o : Obj, w.heap.size ≤ (w2.alloc o).heap.size from fun o => by have := K2.out.size; simp; omega)
      have HI := Lib.hid (show k + 1 ≤ 4 by omega)
      clear hk c
      go_wp2_with (at_builtin; refine wpList_append_own _ rfl (.tmp 17) (.tmp 20) 30 rfl w.heap.size 9 i0 (.string ⟨#[]⟩) 1 16 Tryd.underlying30 hi hz0 hz1 hz2 rfl (by decide) _ _ _ rfl (O2.out.alloc _) ⟨w2.heap.size, 0, none⟩ 1 1 [sv u] rfl rfl (k1a.out _) k1b.out k1c.out k1d.out (k1e.out _) ?_)
      intro v3 w3 h3 g3 _
      have K3 := Lib.hid (app_bel K2.out O2.out g3)
      have O3 := Lib.hid (show w3.ownsRow w.heap.size 9 1 v3 (k + 1) ((M.map sv).take (k + 1)) by rw [TK.out]; exact h3)
      clear h3 g3
      go_wp2
      go_roundw
      case rel => exact ⟨k + 1, HI.out, by go_num, O3.out, K3.out⟩
      case measure => have := HI.out; simp [intOf] <;> omega
    · obtain rfl : k = 4 := by omega
      have c1 : ¬ ((4 : Nat) : Int) < 4 := by omega
      have O4 := Lib.hid (show wr.ownsRow w.heap.size 9 1 _ 4 (M.map sv) by
        have := HO.out
        rwa [List.take_of_length_le (by rw [List.length_map, HL.out]; omega)] at this)
      clear HO hk c
      obtain ⟨g, cp, RR, hv, hg, hxl, hcl, hcm, hrow⟩ := own_row O4.out (by omega)
      subst hv
      have RW := Lib.hid hrow
      have HG := Lib.hid hg
      have HC := Lib.hid hcl
      have HCM := Lib.hid hcm
      clear hrow hg hxl hcl hcm
      have d0 : wr.cell? ⟨g, 0, none⟩ = some (.string (strL m0)) := by
        rw [RW.out.cell 0, List.getElem?_append_left (by rw [List.length_map, HL.out]; omega)]
        exact G0.out
      by_cases q : m0 = [77, 79, 86, 90]
      · have QZ0 := Lib.hid q
        have eQZ0 := str_lit_eq q
        clear q
        have RS := Lib.hid (show usualL M = M.set 0 [77, 79, 86] by unfold usualL; rw [if_neg (fun h => absurd h.1 (by rw [HL.out]; decide)), if_neg (fun h => absurd h.1 (by rw [HL.out]; decide)), if_neg (fun h => absurd h.1 (by rw [HL.out]; decide)), if_pos ⟨HL.out, (H0.out.symm.trans QZ0.out)⟩]; rfl)
        have fz : wr.frozen? ⟨g, 0, none⟩ = false := RW.out.free 0
        have SL := Lib.hid (show SlT (wr.setCell ⟨g, 0, none⟩ (.string (strL [77, 79, 86]))) (.slice (some ⟨g, 0, none⟩) 4 cp) (M.set 0 [77, 79, 86]) from by
          have r := RW.out.set 0 (.string (strL [77, 79, 86]))
          have e : (M.map sv ++ RR).set 0 (.string (strL [77, 79, 86])) = (M.set 0 [77, 79, 86]).map sv ++ RR := by
            rw [List.set_append_left _ _ (by rw [List.length_map, HL.out]; omega), List.map_set]; rfl
          rw [e] at r
          have := slT_row (cap := cp) (M := M.set 0 [77, 79, 86]) (by rw [List.length_set, HL.out]; omega) r
          rwa [List.length_set, HL.out] at this)
        clear O4
        go_wp2
        go_ret
        exact ⟨_, rfl, by rw [RS.out]; exact SL.out, HB.out.setCell HG.out _⟩
      · have QZ0 := Lib.hid q
        have eQZ0 := str_lit_ne q
        clear q
        have RS := Lib.hid (show usualL M = M by unfold usualL; rw [if_neg (fun h => absurd h.1 (by rw [HL.out]; decide)), if_neg (fun h => absurd h.1 (by rw [HL.out]; decide)), if_neg (fun h => absurd h.1 (by rw [HL.out]; decide)), if_neg (fun h => QZ0.out (H0.out.trans h.2)), if_neg (fun h => absurd h.1 (by rw [HL.out]; decide))])
        have SL := Lib.hid (slT_own O4.out HL.out.symm (by omega) (by omega))
        clear O4
        go_wp2
        go_ret
        exact ⟨_, rfl, by rw [RS.out]; exact SL.out, HB.out⟩

set_option maxRecDepth 100000 in
set_option maxHeartbeats 6400000 in
theorem ausual_6 (L M : List Tx) (a : Addr) (cap : Nat) (w : World) (tb : TB w) (h : SlT w (.slice (some a) 6 cap) L) (hs : Short L) (hn : L.length = 6) (hM : M = L.map plainW) : Calls Tryd.prog 33 #[.slice (some a) 6 cap] w fun e w' => ∃ v, e = .returned v ∧ SlT w' v (usualL M) ∧ Below w.heap.size w w' := by
  obtain ⟨i0, hi, hz0, hz1, hz2⟩ := info_parts strbytes
  have hMl : M.length = 6 := by rw [hM, List.length_map]; exact hn
  obtain ⟨m0, hm0⟩ : ∃ m, m = M.getD 0 [] := ⟨_, rfl⟩
  have G0 := Lib.hid (getD_map hM (j := 0) (by omega))
  rw [← hm0] at G0
  have H0 := Lib.hid hm0
  obtain ⟨m1, hm1⟩ : ∃ m, m = M.getD 1 [] := ⟨_, rfl⟩
  have G1 := Lib.hid (getD_map hM (j := 1) (by omega))
  rw [← hm1] at G1
  have H1 := Lib.hid hm1
  obtain ⟨m2, hm2⟩ : ∃ m, m = M.getD 2 [] := ⟨_, rfl⟩
  have G2 := Lib.hid (getD_map hM (j := 2) (by omega))
  rw [← hm2] at G2
  have H2 := Lib.hid hm2
  obtain ⟨m3, hm3⟩ : ∃ m, m = M.getD 3 [] := ⟨_, rfl⟩
  have G3 := Lib.hid (getD_map hM (j := 3) (by omega))
  rw [← hm3] at G3
  have H3 := Lib.hid hm3
  obtain ⟨m4, hm4⟩ : ∃ m, m = M.getD 4 [] := ⟨_, rfl⟩
  have G4 := Lib.hid (getD_map hM (j := 4) (by omega))
  rw [← hm4] at G4
  have H4 := Lib.hid hm4
  obtain ⟨m5, hm5⟩ : ∃ m, m = M.getD 5 [] := ⟨_, rfl⟩
  have G5 := Lib.hid (getD_map hM (j := 5) (by omega))
  rw [← hm5] at G5
  have H5 := Lib.hid hm5
  have TH := Lib.hid tb
  have SH := Lib.hid h
  have HS := Lib.hid hs
  have HN := Lib.hid hn
  have HM := Lib.hid hM
  have HL := Lib.hid hMl
  obtain ⟨w1, mk1, own1, gr1⟩ := run_make_own (P := Tryd.prog) w w.heap.size 30 9 i0 _ 1 Tryd.underlying30 hi hz0 hz1 .i64 .i64 (6 + 2) (by rw [hz2]; omega) (by unfold maxLen; omega) (Nat.le_refl _)
  have B1 := Lib.hid (show Below w.heap.size w w1 from (Below.refl _ _).grown gr1 (Nat.le_refl _) (fun j hj => by cases hj))
  have O1 := Lib.hid own1
  have mk2 : (Instr.makeSlice 30 (.int .i64 0) (.int .i64 8)).run Tryd.prog w = .ok (.slice (some ⟨w.heap.size, 0, none⟩) 0 (6 + 2)) w1 := mk1
  clear tb h hs hn hM hMl own1 gr1 mk1 hm0 hm1 hm2 hm3 hm4 hm5
  go_enter Tryd.func33, Tryd.ntmps33
  go_upto_region 2 with fail
  clear mk2
  go_wp2_with fail
  go_loopw [3, 5, 13] (fun v _ iv wr => ∃ k : Nat, k ≤ 6 ∧ iv = .int .i64 (k : Int) ∧ wr.ownsRow w.heap.size 9 1 v k ((M.map sv).take k) ∧ Below w.heap.size w wr) (fun _ _ iv _ => 6 - (intOf iv).toNat)
  case atStart => exact ⟨0, by omega, rfl, by simpa using O1.out, B1.out⟩
  case round =>
    clear B1 O1
    obtain ⟨k, hk, rfl, hown, hbel⟩ := hrel
    have HO := Lib.hid hown
    have HB := Lib.hid hbel
    clear hown hbel
    have k0 : (0 : Int) ≤ (k : Int) := by omega
    by_cases c : k < 6
    · have c1 : (k : Int) < 6 := by omega
      obtain ⟨t, ht⟩ : ∃ t, t = L.getD k [] := ⟨_, rfl⟩
      have CT := Lib.hid (slT_atU SH.out k (by have := HN.out; omega))
      rw [← ht] at CT
      have cw : wr.cell? (a.add k) = some (.string (strL t)) := by
        rw [HB.out.cell (World.block_lt_of_cell? w _ CT.out)]
        exact CT.out
      have PL := Lib.hid (fun w2 h2 => plain_any t w2 h2 (by rw [ht]; exact short_atU HS.out k (by have := HN.out; omega)))
      obtain ⟨u, hu⟩ : ∃ u, u = plainW t := ⟨_, rfl⟩
      rw [← hu] at PL
      have TK := Lib.hid (show (M.map sv).take (k + 1) = (M.map sv).take k ++ [sv u] by
        have hl : k < M.length := by rw [HL.out]; exact c
        rw [← List.map_take, ← List.map_take, List.take_succ_eq_append_getElem hl, List.map_append, hu, ht]
        congr 1
        have hl2 : k < L.length := by rw [HN.out]; exact c
        have e0 : M[k] = plainW L[k] := by simp [HM.out]
        rw [e0, List.getD_eq_getElem?_getD, List.getElem?_eq_getElem hl2]
        rfl)
      clear ht hu
      go_wp2_with fail
      refine (PL.out _ (TH.out.below HB.out)).mono ?_
      rintro e w2 ⟨rfl, b2⟩
      have K2 := Lib.hid (HB.out.trans (b2.mono HB.out.size))
      have O2 := Lib.hid (own_below HO.out b2)
      clear b2
      have k1a := Lib.hid (app_cell w2 (sv u))
      have k1b := Lib.hid (show ∀ x ∈ [sv u], x.oneCell' = true by simp [Value.oneCell', sv])
      have k1c := Lib.hid (show k + 1 ≤ maxLen by unfold maxLen; omega)
      have k1d := Lib.hid (show (k + 1) * 16 ≤ 140737488355328 by omega)
      have k1e := Lib.hid (show ∀ o : Obj, w.heap.size ≤ (w2.alloc o).heap.size from fun o => by have := K2.out.size; simp; omega)
      have HI := Lib.hid (show k + 1 ≤ 6 by omega)
      clear hk c
      go_wp2_with (at_builtin; refine wpList_append_own _ rfl (.tmp 17) (.tmp 20) 30 rfl w.heap.size 9 i0 (.string ⟨#[]⟩) 1 16 Tryd.underlying30 hi hz0 hz1 hz2 rfl (by decide) _ _ _ rfl (O2.out.alloc _) ⟨w2.heap.size, 0, none⟩ 1 1 [sv u] rfl rfl (k1a.out _) k1b.out k1c.out k1d.out (k1e.out _) ?_)
      intro v3 w3 h3 g3 _
      have K3 := Lib.hid (app_bel K2.out O2.out g3)
      have O3 := Lib.hid (show w3.ownsRow w.heap.size 9 1 v3 (k + 1) ((M.map sv).take (k + 1)) by rw [TK.out]; exact h3)
      clear h3 g3
      go_wp2
      go_roundw
      case rel => exact ⟨k + 1, HI.out, by go_num, O3.out, K3.out⟩
      case measure => have := HI.out; simp [intOf] <;> omega
    · obtain rfl : k = 6 := by omega
      have c1 : ¬ ((6 : Nat) : Int) < 6 := by omega
      have O4 := Lib.hid (show wr.ownsRow w.heap.size 9 1 _ 6 (M.map sv) by
        have := HO.out
        rwa [List.take_of_length_le (by rw [List.length_map, HL.out]; omega)] at this)
      clear HO hk c
      obtain ⟨g, cp, RR, hv, hg, hxl, hcl, hcm, hrow⟩ := own_row O4.out (by omega)
      subst hv
      have RW := Lib.hid hrow
      have HG := Lib.hid hg
      have HC := Lib.hid hcl
      have HCM := Lib.hid hcm
      clear hrow hg hxl hcl hcm
      have d0 : wr.cell? ⟨g, 0, none⟩ = some (.string (strL m0)) := by
        rw [RW.out.cell 0, List.getElem?_append_left (by rw [List.length_map, HL.out]; omega)]
        exact G0.out
      have d1 : wr.cell? ⟨g, 1, none⟩ = some (.string (strL m1)) := by
        rw [RW.out.cell 1, List.getElem?_append_left (by rw [List.length_map, HL.out]; omega)]
        exact G1.out
      have d2 : wr.cell? ⟨g, 2, none⟩ = some (.string (strL m2)) := by
        rw [RW.out.cell 2, List.getElem?_append_left (by rw [List.length_map, HL.out]; omega)]
        exact G2.out
      have d3 : wr.cell? ⟨g, 3, none⟩ = some (.string (strL m3)) := by
        rw [RW.out.cell 3, List.getElem?_append_left (by rw [List.length_map, HL.out]; omega)]
        exact G3.out
      have d4 : wr.cell? ⟨g, 4, none⟩ = some (.string (strL m4)) := by
        rw [RW.out.cell 4, List.getElem?_append_left (by rw [List.length_map, HL.out]; omega)]
        exact G4.out
      have d5 : wr.cell? ⟨g, 5, none⟩ = some (.string (strL m5)) := by
        rw [RW.out.cell 5, List.getElem?_append_left (by rw [List.length_map, HL.out]; omega)]
        exact G5.out
      by_cases q : m0 = [83, 85, 66, 83]
      · have Q0 := Lib.hid q
        have eQ0 := str_lit_eq q
        clear q
        by_cases q : m1 = [88, 90, 82]
        · have Q1 := Lib.hid q
          have eQ1 := str_lit_eq q
          clear q
          by_cases q : m2 = [44]
          · have Q2 := Lib.hid q
            have eQ2 := str_lit_eq q
            clear q
            have RS := Lib.hid (show usualL M = [[67, 77, 80], M.getD 3 [], M.getD 4 [], M.getD 5 []] by unfold usualL; rw [if_neg (fun h => absurd h.1 (by rw [HL.out]; decide)), if_neg (fun h => absurd h.1 (by rw [HL.out]; decide)), if_neg (fun h => absurd h.1 (by rw [HL.out]; decide)), if_neg (fun h => absurd h.1 (by rw [HL.out]; decide)), if_pos ⟨HL.out, H0.out.symm.trans Q0.out, H1.out.symm.trans Q1.out, H2.out.symm.trans Q2.out⟩]; rfl)
            have KS := Lib.hid (fun (w' : World) (k : Below wr.heap.size wr w') => (⟨(k.cell (World.block_lt_of_cell? wr _ d3)).trans d3, (k.cell (World.block_lt_of_cell? wr _ d4)).trans d4, (k.cell (World.block_lt_of_cell? wr _ d5)).trans d5⟩ : w'.cell? ⟨g, 3, none⟩ = some (.string (strL m3)) ∧ w'.cell? ⟨g, 4, none⟩ = some (.string (strL m4)) ∧ w'.cell? ⟨g, 5, none⟩ = some (.string (strL m5))))
            obtain ⟨v5, w5, hr5, sl5, b5⟩ := app4 (wr.drew.alloc (.cells #[.string ⟨#[67, 77, 80]⟩, .string (strL m3), .string (strL m4), .string (strL m5)] 9)) ⟨g, 0, none⟩ ⟨wr.heap.size, 0, none⟩ [67, 77, 80] m3 m4 m5 (fun j v hj => by
              have e : (⟨wr.heap.size, 0, none⟩ : Addr).add j = ⟨wr.heap.size, j, none⟩ := by unfold Addr.add; split <;> simp_all
              rw [e]
              refine (World.cell?_alloc_new wr.drew _ _ j).trans ?_
              show (#[sv [67, 77, 80], sv m3, sv m4, sv m5] : Array Value)[j]? = some v
              simpa using hj) 4
            have SL := Lib.hid sl5
            have GB := Lib.hid (show Below wr.heap.size wr w5 from ((Below.refl wr.heap.size wr).drew.alloc (Nat.le_refl _) _).trans (b5.mono (by simp)))
            have KB5 := Lib.hid (show Below w.heap.size w w5 from HB.out.trans (GB.out.mono HB.out.size))
            clear O4 sl5 b5
            go_wp2_with fail
            go_region_held3 (fun w' => w'.cell? ⟨g, 3, none⟩ = some (.string (strL m3)) ∧ w'.cell? ⟨g, 4, none⟩ = some (.string (strL m4)) ∧ w'.cell? ⟨g, 5, none⟩ = some (.string (strL m5))) (first | exact KS.out _ (Below.refl _ _).drew | exact KS.out _ ((Below.refl _ _).drew.alloc (by simp) _) | exact KS.out _ GB.out) ((refine step_append_run _ _ (by rfl) (.tmp 140) (.tmp 150) _ _ (by rfl) _ _ (by rfl) (by rfl) v5 w5 hr5 ?_))
            go_wp2
            go_ret
            exact ⟨_, rfl, by rw [RS.out, ← H3.out, ← H4.out, ← H5.out]; exact SL.out, KB5.out⟩
          · have Q2 := Lib.hid q
            have eQ2 := str_lit_ne q
            clear q
            have RS := Lib.hid (show usualL M = M by unfold usualL; rw [if_neg (fun h => absurd h.1 (by rw [HL.out]; decide)), if_neg (fun h => absurd h.1 (by rw [HL.out]; decide)), if_neg (fun h => absurd h.1 (by rw [HL.out]; decide)), if_neg (fun h => absurd h.1 (by rw [HL.out]; decide)), if_neg (fun h => Q2.out (H2.out.trans h.2.2.2))])
            have SL := Lib.hid (slT_own O4.out HL.out.symm (by omega) (by omega))
            clear O4
            go_wp2
            go_ret
            exact ⟨_, rfl, by rw [RS.out]; exact SL.out, HB.out⟩
        · have Q1 := Lib.hid q
          have eQ1 := str_lit_ne q
          clear q
          have RS := Lib.hid (show usualL M = M by unfold usualL; rw [if_neg (fun h => absurd h.1 (by rw [HL.out]; decide)), if_neg (fun h => absurd h.1 (by rw [HL.out]; decide)), if_neg (fun h => absurd h.1 (by rw [HL.out]; decide)), if_neg (fun h => absurd h.1 (by rw [HL.out]; decide)), if_neg (fun h => Q1.out (H1.out.trans h.2.2.1))])
          have SL := Lib.hid (slT_own O4.out HL.out.symm (by omega) (by omega))
          clear O4
          go_wp2
          go_ret
          exact ⟨_, rfl, by rw [RS.out]; exact SL.out, HB.out⟩
      · have Q0 := Lib.hid q
        have eQ0 := str_lit_ne q
        clear q
        have RS := Lib.hid (show usualL M = M by unfold usualL; rw [if_neg (fun h => absurd h.1 (by rw [HL.out]; decide)), if_neg (fun h => absurd h.1 (by rw [HL.out]; decide)), if_neg (fun h => absurd h.1 (by rw [HL.out]; decide)), if_neg (fun h => absurd h.1 (by rw [HL.out]; decide)), if_neg (fun h => Q0.out (H0.out.trans h.2.1))])
        have SL := Lib.hid (slT_own O4.out HL.out.symm (by omega) (by omega))
        clear O4
        go_wp2
        go_ret
        exact ⟨_, rfl, by rw [RS.out]; exact SL.out, HB.out⟩

set_option maxRecDepth 100000 in
set_option maxHeartbeats 6400000 in
theorem ausual_x (L M : List Tx) (a : Addr) (n cap : Nat) (w : World) (tb : TB w) (h : SlT w (.slice (some a) n cap) L) (hs : Short L) (hn : L.length = n) (n0 : 1 ≤ n) (n9 : n ≤ 8) (h8 : n ≠ 8) (h7 : n ≠ 7) (h4 : n ≠ 4) (h6 : n ≠ 6) (hM : M = L.map plainW) : Calls Tryd.prog 33 #[.slice (some a) n cap] w fun e w' => ∃ v, e = .returned v ∧ SlT w' v (usualL M) ∧ Below w.heap.size w w' := by
  obtain ⟨i0, hi, hz0, hz1, hz2⟩ := info_parts strbytes
  have hMl : M.length = n := by rw [hM, List.length_map]; exact hn
  have TH := Lib.hid tb
  have SH := Lib.hid h
  have HS := Lib.hid hs
  have HN := Lib.hid hn
  have HM := Lib.hid hM
  have HL := Lib.hid hMl
  obtain ⟨w1, mk1, own1, gr1⟩ := run_make_own (P := Tryd.prog) w w.heap.size 30 9 i0 _ 1 Tryd.underlying30 hi hz0 hz1 .i64 .i64 (n + 2) (by rw [hz2]; omega) (by unfold maxLen; omega) (Nat.le_refl _)
  have B1 := Lib.hid (show Below w.heap.size w w1 from (Below.refl _ _).grown gr1 (Nat.le_refl _) (fun j hj => by cases hj))
  have O1 := Lib.hid own1
  have mk2 : (Instr.makeSlice 30 (.int .i64 0) (.int .i64 ((n : Int) + 2))).run Tryd.prog w = .ok (.slice (some ⟨w.heap.size, 0, none⟩) 0 (n + 2)) w1 := mk1
  have a0 : (0 : Int) ≤ (n : Int) := by omega
  have a9 : (n : Int) ≤ 8 := by omega
  have x8 : ¬ (n : Int) = 8 := by omega
  have y8 : ((n : Int) == 8) = false := by simp; omega
  have NN8 := Lib.hid h8
  have x7 : ¬ (n : Int) = 7 := by omega
  have y7 : ((n : Int) == 7) = false := by simp; omega
  have NN7 := Lib.hid h7
  have x4 : ¬ (n : Int) = 4 := by omega
  have y4 : ((n : Int) == 4) = false := by simp; omega
  have NN4 := Lib.hid h4
  have x6 : ¬ (n : Int) = 6 := by omega
  have y6 : ((n : Int) == 6) = false := by simp; omega
  have NN6 := Lib.hid h6
  have W2 : IntKind.i64.wrap ((n : Int) + 2) = (n : Int) + 2 := IntWalk.i64_in _ ⟨by omega, by omega⟩
  have NZ := Lib.hid n0
  have N9 := Lib.hid n9
  clear n0 n9 h8 h7 h4 h6
  clear tb h hs hn hM hMl own1 gr1 mk1
  go_enter Tryd.func33, Tryd.ntmps33
  go_upto_region 2 with fail
  clear mk2
  go_wp2_with fail
  go_loopw [3, 5, 13] (fun v _ iv wr => ∃ k : Nat, k ≤ n ∧ iv = .int .i64 (k : Int) ∧ wr.ownsRow w.heap.size 9 1 v k ((M.map sv).take k) ∧ Below w.heap.size w wr) (fun _ _ iv _ => n - (intOf iv).toNat)
  case atStart => exact ⟨0, by omega, rfl, by simpa using O1.out, B1.out⟩
  case round =>
    clear B1 O1
    obtain ⟨k, hk, rfl, hown, hbel⟩ := hrel
    have HO := Lib.hid hown
    have HB := Lib.hid hbel
    clear hown hbel
    have k0 : (0 : Int) ≤ (k : Int) := by omega
    by_cases c : k < n
    · have c1 : (k : Int) < (n : Int) := by omega
      have c8 : (k : Int) < 8 := by have := N9.out; omega
      obtain ⟨t, ht⟩ : ∃ t, t = L.getD k [] := ⟨_, rfl⟩
      have CT := Lib.hid (slT_atU SH.out k (by have := HN.out; omega))
      rw [← ht] at CT
      have cw : wr.cell? (a.add k) = some (.string (strL t)) := by
        rw [HB.out.cell (World.block_lt_of_cell? w _ CT.out)]
        exact CT.out
      have PL := Lib.hid (fun w2 h2 => plain_any t w2 h2 (by rw [ht]; exact short_atU HS.out k (by have := HN.out; omega)))
      obtain ⟨u, hu⟩ : ∃ u, u = plainW t := ⟨_, rfl⟩
      rw [← hu] at PL
      have TK := Lib.hid (show (M.map sv).take (k + 1) = (M.map sv).take k ++ [sv u] by
        have hl : k < M.length := by rw [HL.out]; exact c
        rw [← List.map_take, ← List.map_take, List.take_succ_eq_append_getElem hl, List.map_append, hu, ht]
        congr 1
        have hl2 : k < L.length := by rw [HN.out]; exact c
        have e0 : M[k] = plainW L[k] := by simp [HM.out]
        rw [e0, List.getD_eq_getElem?_getD, List.getElem?_eq_getElem hl2]
        rfl)
      clear ht hu
      go_wp2_with fail
      refine (PL.out _ (TH.out.below HB.out)).mono ?_
      rintro e w2 ⟨rfl, b2⟩
      have K2 := Lib.hid (HB.out.trans (b2.mono HB.out.size))
      have O2 := Lib.hid (own_below HO.out b2)
      clear b2
      have k1a := Lib.hid (app_cell w2 (sv u))
      have k1b := Lib.hid (show ∀ x ∈ [sv u], x.oneCell' = true by simp [Value.oneCell', sv])
      have k1c := Lib.hid (show k + 1 ≤ maxLen by unfold maxLen; omega)
      have k1d := Lib.hid (show (k + 1) * 16 ≤ 140737488355328 by omega)
      have k1e := Lib.hid (show ∀ o : Obj, w.heap.size ≤ (w2.alloc o).heap.size from fun o => by have := K2.out.size; simp; omega)
      have HI := Lib.hid (show k + 1 ≤ n by omega)
      clear hk c
      go_wp2_with (at_builtin; refine wpList_append_own _ rfl (.tmp 17) (.tmp 20) 30 rfl w.heap.size 9 i0 (.string ⟨#[]⟩) 1 16 Tryd.underlying30 hi hz0 hz1 hz2 rfl (by decide) _ _ _ rfl (O2.out.alloc _) ⟨w2.heap.size, 0, none⟩ 1 1 [sv u] rfl rfl (k1a.out _) k1b.out k1c.out k1d.out (k1e.out _) ?_)
      intro v3 w3 h3 g3 _
      have K3 := Lib.hid (app_bel K2.out O2.out g3)
      have O3 := Lib.hid (show w3.ownsRow w.heap.size 9 1 v3 (k + 1) ((M.map sv).take (k + 1)) by rw [TK.out]; exact h3)
      clear h3 g3
      go_wp2
      go_roundw
      case rel => exact ⟨k + 1, HI.out, by go_num, O3.out, K3.out⟩
      case measure => have := HI.out; simp [intOf] <;> omega
    · obtain rfl : k = n := by omega
      have NZ2 : 0 < k := by have := NZ.out; omega
      have O4 := Lib.hid (show wr.ownsRow w.heap.size 9 1 _ k (M.map sv) by
        have := HO.out
        rwa [List.take_of_length_le (by rw [List.length_map, HL.out]; omega)] at this)
      clear HO hk c
      obtain ⟨g, cp, RR, hv, hg, hxl, hcl, hcm, hrow⟩ := own_row O4.out (by omega)
      subst hv
      have RW := Lib.hid hrow
      have HG := Lib.hid hg
      have HC := Lib.hid hcl
      have HCM := Lib.hid hcm
      clear hrow hg hxl hcl hcm
      have RS := Lib.hid (show usualL M = M by unfold usualL; rw [if_neg (fun h => NN8.out (HL.out.symm.trans h.1)), if_neg (fun h => NN7.out (HL.out.symm.trans h.1)), if_neg (fun h => NN7.out (HL.out.symm.trans h.1)), if_neg (fun h => NN4.out (HL.out.symm.trans h.1)), if_neg (fun h => NN6.out (HL.out.symm.trans h.1))])
      have SL := Lib.hid (slT_own O4.out HL.out.symm (by omega) (by have := N9.out; omega))
      clear O4
      go_wp2
      go_ret
      exact ⟨_, rfl, by rw [RS.out]; exact SL.out, HB.out⟩

end Go.Proofs.YtebpmngllljkaaaDoor
