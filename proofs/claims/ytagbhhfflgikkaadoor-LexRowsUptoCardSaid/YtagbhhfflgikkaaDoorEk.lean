/-
  Layer 10, the walks: the page's Tokens.
-/
import Derived.Test.YtagbhhfflgikkaaDoorEj
import Derived.Test.YtagbhhfflgikkaaDoorPr
set_option linter.unusedSimpArgs false
set_option linter.unusedVariables false
namespace Go.Proofs.YtagbhhfflgikkaaDoor
open Go.RowKit GrP GrL Go.Shelf

def RTokPost (l : Tx) (a : Int) (w : World) : Ending → World → Prop := fun e w' =>
  ((∃ c p, (toks l l.length 0).2 = some (c, p) ∧ e = .returned (.tuple #[.slice none 0 0, .int .i64 (c : Int), .int .i64 (a + (p : Int))])) ∨
   ((toks l l.length 0).2 = none ∧ ∃ v, e = .returned (.tuple #[v, .int .i64 0, .int .i64 0]) ∧ w'.ownsRow w.heap.size 47 3 v (toks l l.length 0).1.length (tokCells a (toks l l.length 0).1))) ∧ Below w.heap.size w w'

set_option maxRecDepth 100000 in
set_option maxHeartbeats 12800000 in
theorem rtokens_any (l : Tx) (a : Int) (w : World) (hl : l.length ≤ 4194304) (ha0 : 0 ≤ a) (ha1 : a ≤ 1152921504606846976) : Calls Tryd.prog 15 #[.string (strL l), .int .i64 a] w (RTokPost l a w) := by
  obtain ⟨i0, hi, hz0, hz1, hz2⟩ := info_parts Tryd.infoTok
  obtain ⟨n, hn⟩ : ∃ n, n = l.length := ⟨_, rfl⟩
  have hsz : (strL l).size = n := by rw [strL_size, hn]
  have HN := Lib.hid hn
  have LL := Lib.hid hl
  have n0 : (0 : Int) ≤ (n : Int) := by omega
  have n1 : (n : Int) ≤ 4194304 := by omega
  clear hl hn
  go_enter Tryd.func15, Tryd.ntmps15
  go_wp2_with fail
  go_loopw [7, 8] (fun v iv wr => ∃ (i : Nat) (L : List Tok), i ≤ n ∧ iv = .int .i64 (i : Int) ∧ Tks l L i ∧ wr.ownsRow w.heap.size 47 3 v L.length (tokCells a L) ∧ Below w.heap.size w wr) (fun _ iv _ => n - (intOf iv).toNat)
  case atStart => exact ⟨0, [], by omega, rfl, Tks.start l, World.ownsRow_nil _ _ _ _, Below.refl _ _⟩
  case round =>
    obtain ⟨i, L, hi1, rfl, htk, hown, hbel⟩ := hrel
    have HO := Lib.hid hown
    have HB := Lib.hid hbel
    have HT := Lib.hid htk
    have LS := Lib.hid (show L.length ≤ 4194304 by have := htk.2.1; have := LL.out; have := htk.1; omega)
    have j0 : (0 : Int) ≤ (i : Int) := by omega
    have j1 : (i : Int) ≤ 4194304 := by omega
    have k2c := Lib.hid (show L.length + 1 ≤ maxLen by have := LS.out; unfold maxLen; omega)
    have k2d := Lib.hid (show (L.length + 1) * 32 ≤ 140737488355328 by have := LS.out; omega)
    clear hown hbel htk
    by_cases c1 : i < n
    · have d1 : (i : Int) < (n : Int) := by omega
      have hil : i < l.length := by have := HN.out; omega
      have HI := Lib.hid (show i + 1 ≤ n by omega)
      have hix := fun w => s_idx l i hil w
      have BL := Lib.hid (fun w => rblank_any (l[i]'hil).toNat w)
      have LB := Lib.hid (blank_nat (l[i]'hil))
      cases hb : blankN (l[i]'hil).toNat with
      | true =>
        rw [hb] at BL
        have TB := Lib.hid (HT.out.blank hil (by rw [LB.out]; exact hb))
        obtain ⟨x, hx⟩ : ∃ x, x = (l[i]'hil).toNat := ⟨_, rfl⟩
        rw [← hx] at BL hix
        clear hb LB hx hil c1 hi1
        go_wp2_with (go_at_call 18; refine (BL.out _).mono ?_; rintro e w9 ⟨rfl, rfl⟩)
        go_roundw
        case rel => exact ⟨i + 1, L, HI.out, by go_num, TB.out, HO.out, HB.out⟩
        case measure => have := HI.out; simp [intOf] <;> omega
      | false =>
        rw [hb] at BL
        have BF := Lib.hid (show blankB (l[i]'hil) = false by rw [LB.out]; exact hb)
        have TA := Lib.hid (fun h : (one (l.drop i)).1 ≠ 0 => HT.out.bad hil BF.out h)
        have TG := Lib.hid (fun h : (one (l.drop i)).1 = 0 => HT.out.good hil BF.out h)
        have OL := Lib.hid (one_le (l := l.drop i) (by intro e; have := congrArg List.length e; rw [List.length_drop] at this; simp at this; omega))
        have OP := Lib.hid (fun h : (one (l.drop i)).1 = 0 => one_pos h)
        have DC := Lib.hid (show l.drop i = l[i]'hil :: l.drop (i + 1) from List.drop_eq_getElem_cons hil)
        have SG := Lib.hid (fun w => show Calls Tryd.prog 26 #[.string (strL (l.drop i))] w fun e w' => e = .returned (.int .i64 ((sgn (l.drop i) : Nat) : Int)) ∧ Below w.heap.size w w' from by
          rw [DC.out]
          exact rsigns_any _ _ w (by rw [← DC.out, List.length_drop]; have := LL.out; omega))
        have FSu := Lib.hid (fun w => rfirst_any (l.drop i) w (by rw [List.length_drop]; have := LL.out; omega))
        have RL := Lib.hid (show run (l.drop i) ≤ (l.drop i).length from tw_le _ _)
        have ST := fun w => s_from l i (by omega) w
        have HD := Lib.hid (show (l.drop i).headD 0 = l[i]'hil by rw [DC.out]; rfl)
        have HX := Lib.hid (show 0 < run (l.drop i) → ((l.drop i).take (run (l.drop i)))[0]? = some (l[i]'hil) from fun h => by rw [List.getElem?_take_of_lt h, DC.out]; rfl)
        obtain ⟨x, hx⟩ : ∃ x, x = (l[i]'hil).toNat := ⟨_, rfl⟩
        rw [← hx] at BL hix
        by_cases s0 : 0 < sgn (l.drop i)
        · have O : one (l.drop i) = (0, 3, sgn (l.drop i)) := by rw [one, if_pos s0]
          rw [O] at TG OL OP
          have OP := Lib.hid (OP.out rfl)
          simp only at OL OP
          have SL := OL.out
          rw [List.length_drop] at SL
          have CT := fun w => s_cut l i (i + sgn (l.drop i)) (by omega) (by omega) w
          rw [show i + sgn (l.drop i) - i = sgn (l.drop i) by omega, Int.natCast_add] at CT
          have TN := Lib.hid (TG.out rfl)
          simp only at TN
          obtain ⟨on, hon⟩ : ∃ on, on = sgn (l.drop i) := ⟨_, rfl⟩
          rw [← hon] at TN OP CT SL s0 SG
          obtain ⟨u, hu⟩ : ∃ u, u = (l.drop i).take on := ⟨_, rfl⟩
          rw [← hu] at TN CT
          have ON := Lib.hid (show i + on ≤ n by have := HN.out; omega)
          have o0 : (0 : Int) < (on : Int) := by omega
          have o1 : (on : Int) ≤ 4194304 := by have := ON.out; omega
          clear HX HD DC hb LB hx BF hil c1 hi1 OL hu SL TA TG FSu RL O hon s0
          go_upto_region 8 with (first | (go_at_call 18; refine (BL.out _).mono ?_; rintro e w9 ⟨rfl, rfl⟩) | (go_at_call 26; refine (SG.out _).mono ?_; rintro e w9 ⟨rfl, g⟩; obtain ⟨x1, rfl⟩ := Wb.start g; clear g))
          have KX := Lib.hid (HB.out.trans (x1.bel.mono HB.out.size))
          have HO1 := Lib.hid (own_below HO.out x1.bel)
          have k2a := Lib.hid (app_three x1.at (.int .i64 3) (.string (strL u)) (.int .i64 (a + (i : Int))))
          have k2b := Lib.hid (show ∀ v ∈ ([.int .i64 3, .string (strL u), .int .i64 (a + (i : Int))] : List Value), v.oneCell' = true by simp [Value.oneCell'])
          have k2e := Lib.hid (show ∀ o : Obj, w.heap.size ≤ (x1.at.alloc o).heap.size from fun o => by have := KX.out.size; simp; omega)
          go_upto_region 9 with (at_builtin; refine wpList_append_own _ rfl (.tmp 30) (.tmp 41) 39 rfl w.heap.size 47 i0 (.agg #[.int .i64 0, .string ⟨#[]⟩, .int .i64 0]) 3 32 Tryd.underlying39 hi hz0 hz1 hz2 rfl (by decide) _ _ _ rfl (HO1.out.alloc _) ⟨x1.at.heap.size, 0, none⟩ 1 1 [.int .i64 3, .string (strL u), .int .i64 (a + (i : Int))] rfl rfl (k2a.out _) k2b.out k2c.out k2d.out (k2e.out _) ?_; intro v2 w2 h1 g1 _; have HB3 := Lib.hid (app_bel2 KX.out (Nat.le_refl _) HO1.out g1); have H1 := Lib.hid h1; clear h1 g1)
          have HO3 := Lib.hid (show w2.ownsRow w.heap.size 47 3 v2 (L ++ [(⟨3, u, i⟩ : Tok)]).length (tokCells a (L ++ [(⟨3, u, i⟩ : Tok)])) by rw [tokCells_snoc, List.length_append]; exact H1.out)
          clear H1
          go_wp2
          go_roundw
          case rel => exact ⟨i + on, L ++ [(⟨3, u, i⟩ : Tok)], ON.out, by go_num, TN.out, HO3.out, HB3.out⟩
          case measure => have := ON.out; have := HI.out; have := OP.out; simp [intOf] <;> omega
        · have SZ : sgn (l.drop i) = 0 := by omega
          rw [SZ] at SG
          by_cases r0 : run (l.drop i) = 0
          · have O : one (l.drop i) = (100, 1, 0) := by rw [one, if_neg s0, if_pos r0]
            rw [O] at TA
            have TE := Lib.hid (TA.out (by simp))
            rw [r0, List.take_zero, show strL [] = (⟨#[]⟩ : ByteArray) from rfl] at FSu
            clear HX HD DC hb LB hx BF hil c1 hi1 OL OP TA TG RL O SZ r0 s0
            go_upto_region 11 with (first | (go_at_call 18; refine (BL.out _).mono ?_; rintro e w9 ⟨rfl, rfl⟩) | (go_at_call 26; refine (SG.out _).mono ?_; rintro e w9 ⟨rfl, g⟩; obtain ⟨x1, rfl⟩ := Wb.start g; clear g) | (go_at_call 13; refine (FSu.out _).mono ?_; rintro e w9 ⟨rfl, rfl⟩))
            have KX := Lib.hid (HB.out.trans (x1.bel.mono HB.out.size))
            go_wp2
            refine bodyPost_ret (v := .tuple #[.slice none 0 0, .int .i64 100, .int .i64 (a + (i : Int))]) (by simp [results, Tryd.results15, go_sem, *]) rfl ⟨.inl ⟨_, _, TE.out, rfl⟩, KX.out⟩
          · have RS : 0 < run (l.drop i) := by omega
            have HY := Lib.hid (HX.out RS)
            have IXW : ∀ w, (Instr.index 9 (.string (strL ((l.drop i).take (run (l.drop i))))) (.int .i64 0)).run Tryd.prog w = .ok (.int .u8 (x : Int)) w := fun w => by
              have h := s_idx ((l.drop i).take (run (l.drop i))) 0 (by rw [List.length_take]; have := RL.out; omega) w
              have e : ((l.drop i).take (run (l.drop i)))[0]'(by rw [List.length_take]; have := RL.out; omega) = l[i]'hil := by
                have := HY.out
                rw [List.getElem?_eq_getElem (by rw [List.length_take]; have := RL.out; omega)] at this
                exact Option.some.inj this
              rw [e, ← hx] at h
              exact h
            have PS := Lib.hid (fun (h : run (l.drop i) ≤ 24) w => rparse_any (strL ((l.drop i).take (run (l.drop i)))) w (by rw [strL_size, List.length_take]; unfold maxLen; omega))
            have US := Lib.hid (show ((l.drop i).take (run (l.drop i))).length = run (l.drop i) by rw [List.length_take]; have := RL.out; omega)
            have RN := Lib.hid (show i + run (l.drop i) ≤ n by have := RL.out; rw [List.length_drop] at this; have := HN.out; omega)
            by_cases r24 : 24 < run (l.drop i)
            · have O : one (l.drop i) = (101, 1, run (l.drop i)) := by rw [one, if_neg s0, if_neg r0, if_pos r24]
              rw [O] at TA
              have TE := Lib.hid (TA.out (by simp))
              obtain ⟨on, hon⟩ : ∃ on, on = run (l.drop i) := ⟨_, rfl⟩
              rw [← hon] at FSu IXW US RN r24 RS
              obtain ⟨u, hu⟩ : ∃ u, u = (l.drop i).take on := ⟨_, rfl⟩
              rw [← hu] at FSu IXW US
              have usz : (strL u).size = on := by rw [strL_size, US.out]
              have o0 : (24 : Int) < (on : Int) := by omega
              have o1 : (on : Int) ≤ 4194304 := by have := RN.out; omega
              have fe : (strL u).toList.isEmpty = false := by
                rw [List.isEmpty_eq_false_iff]; intro e; have e2 : u = [] := (by simpa [strL, ByteArray.toList_eq] using e); have h := US.out; rw [e2] at h; simp at h; omega
              clear HY HX HD DC hb LB hx BF hil c1 hi1 OL OP TA TG RL O SZ r0 s0 hu hon PS r24 RS
              go_upto_region 13 with (first | (go_at_call 18; refine (BL.out _).mono ?_; rintro e w9 ⟨rfl, rfl⟩) | (go_at_call 26; refine (SG.out _).mono ?_; rintro e w9 ⟨rfl, g⟩; obtain ⟨x1, rfl⟩ := Wb.start g; clear g) | (go_at_call 13; refine (FSu.out _).mono ?_; rintro e w9 ⟨rfl, rfl⟩))
              have KX := Lib.hid (HB.out.trans (x1.bel.mono HB.out.size))
              go_wp2
              refine bodyPost_ret (v := .tuple #[.slice none 0 0, .int .i64 101, .int .i64 (a + (i : Int))]) (by simp [results, Tryd.results15, go_sem, *]) rfl ⟨.inl ⟨_, _, TE.out, rfl⟩, KX.out⟩
            · have PS := Lib.hid (PS.out (by omega))
              obtain ⟨on, hon⟩ : ∃ on, on = run (l.drop i) := ⟨_, rfl⟩
              have OW := Lib.hid (show ¬ (48 ≤ x ∧ x ≤ 57) → one (l.drop i) = (0, 1, on) from fun h => by rw [one, if_neg s0, if_neg r0, if_neg r24, if_neg (by rw [HD.out, ← hx]; exact h), hon])
              have OD := Lib.hid (show (48 ≤ x ∧ x ≤ 57) → one (l.drop i) = ((parse (strL ((l.drop i).take (run (l.drop i))))).2, 2, on) from fun h => by rw [one, if_neg s0, if_neg r0, if_neg r24, if_pos (by rw [HD.out, ← hx]; exact h), hon])
              rw [← hon] at FSu IXW US RN r24 RS PS OD
              obtain ⟨u, hu⟩ : ∃ u, u = (l.drop i).take on := ⟨_, rfl⟩
              have HU := Lib.hid hu
              rw [← hu] at FSu IXW US PS OD
              have usz : (strL u).size = on := by rw [strL_size, US.out]
              have o0 : ¬ (24 : Int) < (on : Int) := by omega
              have o00 : (0 : Int) < (on : Int) := by omega
              have o1 : (on : Int) ≤ 4194304 := by have := RN.out; omega
              have ON := Lib.hid RN.out
              have fe : (strL u).toList.isEmpty = false := by
                rw [List.isEmpty_eq_false_iff]; intro e; have e2 : u = [] := (by simpa [strL, ByteArray.toList_eq] using e); have h := US.out; rw [e2] at h; simp at h; omega
              have OP := Lib.hid RS
              clear HY HX HD DC hb LB hx BF hil c1 hi1 OL RL SZ r0 s0 hu hon r24 RS RN
              by_cases dg : 48 ≤ x ∧ x ≤ 57
              · have g1 : (48 : Int) ≤ (x : Int) := by omega
                have g2 : (x : Int) ≤ 57 := by omega
                have O := OD.out dg
                rw [O] at TA TG
                obtain ⟨p, hp⟩ : ∃ p, p = (parse (strL u)).1 := ⟨_, rfl⟩
                obtain ⟨q, hq⟩ : ∃ q, q = (parse (strL u)).2 := ⟨_, rfl⟩
                rw [← hp, ← hq] at PS
                rw [← hq] at TA TG
                clear OD OW O hp hq dg
                simp only at TA TG
                by_cases q0 : q = 0
                · subst q0
                  have TN := Lib.hid (TG.out rfl)
                  rw [← HU.out] at TN
                  clear TA TG HU
                  go_upto_region 11 with (first | (go_at_call 18; refine (BL.out _).mono ?_; rintro e w9 ⟨rfl, rfl⟩) | (go_at_call 26; refine (SG.out _).mono ?_; rintro e w9 ⟨rfl, g⟩; obtain ⟨x1, rfl⟩ := Wb.start g; clear g) | (go_at_call 13; refine (FSu.out _).mono ?_; rintro e w9 ⟨rfl, rfl⟩))
                  have KX := Lib.hid (HB.out.trans (x1.bel.mono HB.out.size))
                  have HO1 := Lib.hid (own_below HO.out x1.bel)
                  go_upto_region 21 with (go_at_call 27; refine (PS.out _).mono ?_; rintro e w9 ⟨rfl, rfl⟩)
                  have k2a := Lib.hid (app_three x1.at (.int .i64 2) (.string (strL u)) (.int .i64 (a + (i : Int))))
                  have k2b := Lib.hid (show ∀ v ∈ ([.int .i64 2, .string (strL u), .int .i64 (a + (i : Int))] : List Value), v.oneCell' = true by simp [Value.oneCell'])
                  have k2e := Lib.hid (show ∀ o : Obj, w.heap.size ≤ (x1.at.alloc o).heap.size from fun o => by have := KX.out.size; simp; omega)
                  go_upto_region 22 with (at_builtin; refine wpList_append_own _ rfl (.tmp 80) (.tmp 87) 39 rfl w.heap.size 47 i0 (.agg #[.int .i64 0, .string ⟨#[]⟩, .int .i64 0]) 3 32 Tryd.underlying39 hi hz0 hz1 hz2 rfl (by decide) _ _ _ rfl (HO1.out.alloc _) ⟨x1.at.heap.size, 0, none⟩ 1 1 [.int .i64 2, .string (strL u), .int .i64 (a + (i : Int))] rfl rfl (k2a.out _) k2b.out k2c.out k2d.out (k2e.out _) ?_; intro v2 w2 h1 g1 _; have HB3 := Lib.hid (app_bel2 KX.out (Nat.le_refl _) HO1.out g1); have H1 := Lib.hid h1; clear h1 g1)
                  have HO3 := Lib.hid (show w2.ownsRow w.heap.size 47 3 v2 (L ++ [(⟨2, u, i⟩ : Tok)]).length (tokCells a (L ++ [(⟨2, u, i⟩ : Tok)])) by rw [tokCells_snoc, List.length_append]; exact H1.out)
                  clear H1
                  go_wp2
                  go_roundw
                  case rel => exact ⟨i + on, L ++ [(⟨2, u, i⟩ : Tok)], ON.out, by go_num, TN.out, HO3.out, HB3.out⟩
                  case measure => have := ON.out; have := HI.out; have := OP.out; simp [intOf] <;> omega
                · have TE := Lib.hid (TA.out q0)
                  have q1 : ¬ (q : Int) = 0 := by omega
                  have q2 : ((q : Int) != 0) = true := by simp; omega
                  clear TA TG HU
                  go_upto_region 11 with (first | (go_at_call 18; refine (BL.out _).mono ?_; rintro e w9 ⟨rfl, rfl⟩) | (go_at_call 26; refine (SG.out _).mono ?_; rintro e w9 ⟨rfl, g⟩; obtain ⟨x1, rfl⟩ := Wb.start g; clear g) | (go_at_call 13; refine (FSu.out _).mono ?_; rintro e w9 ⟨rfl, rfl⟩))
                  have KX := Lib.hid (HB.out.trans (x1.bel.mono HB.out.size))
                  go_wp2_with (go_at_call 27; refine (PS.out _).mono ?_; rintro e w9 ⟨rfl, rfl⟩)
                  refine bodyPost_ret (v := .tuple #[.slice none 0 0, .int .i64 (q : Int), .int .i64 (a + (i : Int))]) (by simp [results, Tryd.results15, go_sem, *]) rfl ⟨.inl ⟨_, _, TE.out, rfl⟩, KX.out⟩
              · have O := OW.out dg
                rw [O] at TG
                have TN := Lib.hid (TG.out rfl)
                simp only at TN
                rw [← HU.out] at TN
                clear TA TG OD OW O HU PS
                by_cases dx : x < 48
                · have g1 : ¬ (48 : Int) ≤ (x : Int) := by omega
                  clear dg dx
                  go_upto_region 11 with (first | (go_at_call 18; refine (BL.out _).mono ?_; rintro e w9 ⟨rfl, rfl⟩) | (go_at_call 26; refine (SG.out _).mono ?_; rintro e w9 ⟨rfl, g⟩; obtain ⟨x1, rfl⟩ := Wb.start g; clear g) | (go_at_call 13; refine (FSu.out _).mono ?_; rintro e w9 ⟨rfl, rfl⟩))
                  have KX := Lib.hid (HB.out.trans (x1.bel.mono HB.out.size))
                  have HO1 := Lib.hid (own_below HO.out x1.bel)
                  have k2a := Lib.hid (app_three x1.at (.int .i64 1) (.string (strL u)) (.int .i64 (a + (i : Int))))
                  have k2b := Lib.hid (show ∀ v ∈ ([.int .i64 1, .string (strL u), .int .i64 (a + (i : Int))] : List Value), v.oneCell' = true by simp [Value.oneCell'])
                  have k2e := Lib.hid (show ∀ o : Obj, w.heap.size ≤ (x1.at.alloc o).heap.size from fun o => by have := KX.out.size; simp; omega)
                  go_upto_region 22 with (at_builtin; refine wpList_append_own _ rfl (.tmp 80) (.tmp 87) 39 rfl w.heap.size 47 i0 (.agg #[.int .i64 0, .string ⟨#[]⟩, .int .i64 0]) 3 32 Tryd.underlying39 hi hz0 hz1 hz2 rfl (by decide) _ _ _ rfl (HO1.out.alloc _) ⟨x1.at.heap.size, 0, none⟩ 1 1 [.int .i64 1, .string (strL u), .int .i64 (a + (i : Int))] rfl rfl (k2a.out _) k2b.out k2c.out k2d.out (k2e.out _) ?_; intro v2 w2 h1 g1 _; have HB3 := Lib.hid (app_bel2 KX.out (Nat.le_refl _) HO1.out g1); have H1 := Lib.hid h1; clear h1 g1)
                  have HO3 := Lib.hid (show w2.ownsRow w.heap.size 47 3 v2 (L ++ [(⟨1, u, i⟩ : Tok)]).length (tokCells a (L ++ [(⟨1, u, i⟩ : Tok)])) by rw [tokCells_snoc, List.length_append]; exact H1.out)
                  clear H1
                  go_wp2
                  go_roundw
                  case rel => exact ⟨i + on, L ++ [(⟨1, u, i⟩ : Tok)], ON.out, by go_num, TN.out, HO3.out, HB3.out⟩
                  case measure => have := ON.out; have := HI.out; have := OP.out; simp [intOf] <;> omega
                · have g1 : (48 : Int) ≤ (x : Int) := by omega
                  have g2 : ¬ (x : Int) ≤ 57 := by omega
                  clear dg dx
                  go_upto_region 11 with (first | (go_at_call 18; refine (BL.out _).mono ?_; rintro e w9 ⟨rfl, rfl⟩) | (go_at_call 26; refine (SG.out _).mono ?_; rintro e w9 ⟨rfl, g⟩; obtain ⟨x1, rfl⟩ := Wb.start g; clear g) | (go_at_call 13; refine (FSu.out _).mono ?_; rintro e w9 ⟨rfl, rfl⟩))
                  have KX := Lib.hid (HB.out.trans (x1.bel.mono HB.out.size))
                  have HO1 := Lib.hid (own_below HO.out x1.bel)
                  have k2a := Lib.hid (app_three x1.at (.int .i64 1) (.string (strL u)) (.int .i64 (a + (i : Int))))
                  have k2b := Lib.hid (show ∀ v ∈ ([.int .i64 1, .string (strL u), .int .i64 (a + (i : Int))] : List Value), v.oneCell' = true by simp [Value.oneCell'])
                  have k2e := Lib.hid (show ∀ o : Obj, w.heap.size ≤ (x1.at.alloc o).heap.size from fun o => by have := KX.out.size; simp; omega)
                  go_upto_region 22 with (at_builtin; refine wpList_append_own _ rfl (.tmp 80) (.tmp 87) 39 rfl w.heap.size 47 i0 (.agg #[.int .i64 0, .string ⟨#[]⟩, .int .i64 0]) 3 32 Tryd.underlying39 hi hz0 hz1 hz2 rfl (by decide) _ _ _ rfl (HO1.out.alloc _) ⟨x1.at.heap.size, 0, none⟩ 1 1 [.int .i64 1, .string (strL u), .int .i64 (a + (i : Int))] rfl rfl (k2a.out _) k2b.out k2c.out k2d.out (k2e.out _) ?_; intro v2 w2 h1 g1 _; have HB3 := Lib.hid (app_bel2 KX.out (Nat.le_refl _) HO1.out g1); have H1 := Lib.hid h1; clear h1 g1)
                  have HO3 := Lib.hid (show w2.ownsRow w.heap.size 47 3 v2 (L ++ [(⟨1, u, i⟩ : Tok)]).length (tokCells a (L ++ [(⟨1, u, i⟩ : Tok)])) by rw [tokCells_snoc, List.length_append]; exact H1.out)
                  clear H1
                  go_wp2
                  go_roundw
                  case rel => exact ⟨i + on, L ++ [(⟨1, u, i⟩ : Tok)], ON.out, by go_num, TN.out, HO3.out, HB3.out⟩
                  case measure => have := ON.out; have := HI.out; have := OP.out; simp [intOf] <;> omega
    · obtain rfl : i = n := by omega
      have TD := Lib.hid (show toks l l.length 0 = (L ++ [⟨4, [], l.length⟩], none) from by
        have h := HT.out
        have e := HN.out
        subst e
        exact Tks.done h)
      have KX := HB
      clear c1 hi1
      have k2a := Lib.hid (app_three wr (.int .i64 4) (.string (strL [])) (.int .i64 (a + (i : Int))))
      have k2b := Lib.hid (show ∀ v ∈ ([.int .i64 4, .string (strL []), .int .i64 (a + (i : Int))] : List Value), v.oneCell' = true by simp [Value.oneCell'])
      have k2e := Lib.hid (show ∀ o : Obj, w.heap.size ≤ (wr.alloc o).heap.size from fun o => by have := KX.out.size; simp; omega)
      go_wp2_with (at_builtin; refine wpList_append_own _ rfl (.tmp 93) (.tmp 99) 39 rfl w.heap.size 47 i0 (.agg #[.int .i64 0, .string ⟨#[]⟩, .int .i64 0]) 3 32 Tryd.underlying39 hi hz0 hz1 hz2 rfl (by decide) _ _ _ rfl (HO.out.alloc _) ⟨wr.heap.size, 0, none⟩ 1 1 [.int .i64 4, .string (strL []), .int .i64 (a + (i : Int))] rfl rfl (k2a.out _) k2b.out k2c.out k2d.out (k2e.out _) ?_; intro v2 w2 h1 g1 _; have HB3 := Lib.hid (app_bel2 KX.out (Nat.le_refl _) HO.out g1); have H1 := Lib.hid h1; clear h1 g1)
      refine bodyPost_ret (v := .tuple #[v2, .int .i64 0, .int .i64 0]) (by simp [results, Tryd.results15, go_sem, *]) rfl ⟨.inr ⟨by rw [TD.out], _, rfl, ?_⟩, HB3.out⟩
      rw [TD.out, show (L ++ [(⟨4, [], l.length⟩ : Tok)]).length = L.length + 1 by simp, tokCells_snoc, ← HN.out]
      exact H1.out
end Go.Proofs.YtagbhhfflgikkaaDoor
