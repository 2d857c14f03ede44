/-
  Layer 10, the walks: the code's Tokens.
-/
import Derived.Test.YtgpngjgilcbigaaDoorEh
set_option linter.unusedSimpArgs false
set_option linter.unusedVariables false
namespace GrL
open Go GrP
def tokCells (a : Int) (L : List Tok) : List Value := L.flatMap fun x => [.int .i64 (x.kind : Int), .string (strL x.text), .int .i64 (a + (x.pos : Int))]
theorem tokCells_snoc (a : Int) (L : List Tok) (x : Tok) : tokCells a (L ++ [x]) = tokCells a L ++ [.int .i64 (x.kind : Int), .string (strL x.text), .int .i64 (a + (x.pos : Int))] := by
  simp [tokCells]
end GrL
namespace Go.Proofs.YtgpngjgilcbigaaDoor
open Go.RowKit GrP GrL Go.Shelf

theorem Tryd.infoTok : (Tryd.prog.info? 63).map (fun i => (i.zero, i.size, i.bytes)) = some (some (.agg #[.int .i64 0, .string ⟨#[]⟩, .int .i64 0]), 3, 32) := by kernel_rfl
theorem app_three (w : World) (u0 u1 u2 : Value) (T : TypeId) : ∀ j u, ([u0, u1, u2] : List Value)[j]? = some u → (w.alloc (.cells #[u0, u1, u2] T)).cell? ((⟨w.heap.size, 0, none⟩ : Addr).add j) = some u := by
  intro j u h
  match j, h with
  | 0, h => simp at h; subst h; simp [Addr.add, World.cell?_alloc_new]
  | 1, h => simp at h; subst h; simp [Addr.add, World.cell?_alloc_new]
  | 2, h => simp at h; subst h; simp [Addr.add, World.cell?_alloc_new]
  | j + 3, h => simp at h
def TokPost (l : Tx) (a : Int) (w : World) : Ending → World → Prop := fun e w' =>
  ((∃ c p, (toks l l.length 0).2 = some (c, p) ∧ e = .returned (.tuple #[.slice none 0 0, .agg #[.int .i64 (c : Int), .int .i64 (a + (p : Int))]])) ∨
   ((toks l l.length 0).2 = none ∧ ∃ v, e = .returned (.tuple #[v, .agg #[.int .i64 0, .int .i64 0]]) ∧ w'.ownsRow w.heap.size 63 3 v (toks l l.length 0).1.length (tokCells a (toks l l.length 0).1))) ∧ Below w.heap.size w w'

/-- behind an append: a block that isn't the row's lies as it lay -/
theorem app_bel' {B : Nat} {w wr w2 : World} {v : Value} {n K e : Nat} {xs : List Value} {o : Obj} (h0 : Below B w wr) (hB : B ≤ wr.heap.size) (h3 : wr.ownsRow B e K v n xs) (h4 : (wr.alloc o).grownBy w2 v.ownBlock) : Below B w w2 :=
  (h0.alloc hB o).grown h4 (by simp; omega) (fun k hk => (h3.lt k hk).1)
theorem app_bel2 {w wr w2 : World} {v : Value} {B n K e : Nat} {xs : List Value} {o : Obj} (h0 : Below w.heap.size w wr) (hB : w.heap.size ≤ B) (h3 : wr.ownsRow B e K v n xs) (h4 : (wr.alloc o).grownBy w2 v.ownBlock) : Below w.heap.size w w2 :=
  (h0.alloc h0.size o).grown h4 (by have := h0.size; simp; omega) (fun k hk => Nat.le_trans hB (h3.lt k hk).1)
theorem Row.grown' {V V' : World} {v : Value} {base : Nat} {B : Nat} {L : List Value} {T : TypeId} (g : V.grownBy V' v.ownBlock) (h : Row V B L T) (ho : ∀ k, v.ownBlock = some k → base ≤ k) (hB : B < base) : Row V' B L T :=
  (g.block B h.lt (fun e => by have := ho B e.symm; omega)).trans h
theorem Row.grown {V V' : World} {v : Value} {base e K n : Nat} {xs : List Value} {B : Nat} {L : List Value} {T : TypeId} (g : V.grownBy V' v.ownBlock) (h : Row V B L T) {V0 : World} (ho : V0.ownsRow base e K v n xs) (hB : V0.heap.size ≤ B) : Row V' B L T :=
  (g.block B h.lt (fun e => by have := (ho.lt B e.symm).2; omega)).trans h

set_option maxRecDepth 100000 in
set_option maxHeartbeats 6400000 in
theorem ltokens_any (l : Tx) (a : Int) (w : World) (hl : l.length ≤ 4194304) (ha0 : 0 ≤ a) (ha1 : a ≤ 1152921504606846976) : Calls Tryd.prog 13 #[.agg #[.string (strL l), .int .i64 a]] w (TokPost l a w) := by
  obtain ⟨i0, hi, hz0, hz1, hz2⟩ := info_parts Tryd.infoTok
  obtain ⟨n, hn⟩ : ∃ n, n = l.length := ⟨_, rfl⟩
  have hsz : (strL l).size = n := by rw [strL_size, hn]
  have HN := Lib.hid hn
  have LL := Lib.hid hl
  have n0 : (0 : Int) ≤ (n : Int) := by omega
  have n1 : (n : Int) ≤ 4194304 := by omega
  clear hl hn
  go_enter Tryd.func13, Tryd.ntmps13
  go_upto_region 1 with fail
  refine to_cls ?_
  intro U0 hU0 y0
  have r_r : ∀ z : Wb U0, Row z.at w.heap.size [.string (strL l), .int .i64 a] 37 := Row.next ((Row.new _ [.string (strL l), .int .i64 a] _).old _) hU0
  have r_p : ∀ z : Wb U0, Row z.at (w.heap.size + 1) [.int .i64 0, .int .i64 0] 33 := Row.next (Row.new' _ [.int .i64 0, .int .i64 0] _ _ (by simp)) hU0
  have KK := Lib.hid (KB.next (KB.alloc (KB.alloc (Below.refl w.heap.size w) _) _) hU0)
  have SZ := Lib.hid (fun z : Wb U0 => show w.heap.size + 1 < z.at.heap.size from (r_p z).lt)
  clear hU0
  obtain ⟨pR, hpR⟩ : ∃ b, b = w.heap.size := ⟨_, rfl⟩
  have PR := Lib.hid (show w.heap.size ≤ pR by omega)
  rw [← hpR] at r_r r_p SZ
  simp only [← hpR]
  clear hpR
  have RR := Lib.hid (r_r y0)
  have RP := Lib.hid (r_p y0)
  have KY := Lib.hid (KK.out y0)
  have SY := Lib.hid (SZ.out y0)
  clear r_r r_p KK SZ
  obtain ⟨B, hB⟩ : ∃ B, B = y0.at.heap.size := ⟨_, rfl⟩
  have HB0 := Lib.hid hB
  have SB := Lib.hid (show pR + 1 < B by rw [hB]; exact SY.out)
  have BW := Lib.hid (show w.heap.size ≤ B by have := PR.out; have := SB.out; omega)
  clear hB SY
  go_wp2_with fail
  go_loopw [4, 5] (fun v iv wr => ∃ (i : Nat) (L : List Tok), i ≤ n ∧ iv = .int .i64 (i : Int) ∧ Tks l L i ∧ wr.ownsRow B 63 3 v L.length (tokCells a L) ∧ Below B y0.at wr) (fun _ iv _ => n - (intOf iv).toNat)
  case atStart => exact ⟨0, [], by omega, rfl, Tks.start l, World.ownsRow_nil _ _ _ _, Below.refl _ _⟩
  case round =>
    obtain ⟨i, L, hi1, rfl, htk, hown, hbel⟩ := hrel
    have HO := Lib.hid hown
    have HB := Lib.hid hbel
    have HT := Lib.hid htk
    have LS := Lib.hid (show L.length ≤ 4194304 by have := htk.2.1; have := LL.out; have := htk.1; omega)
    have WS := Lib.hid (show B ≤ wr.heap.size by have := hbel.size; have := HB0.out; omega)
    have KW := Lib.hid (show Below w.heap.size w wr from KY.out.trans (hbel.mono BW.out))
    have RRw := Lib.hid (show Row wr pR [.string (strL l), .int .i64 a] 37 from RR.out.upto hbel (by have := SB.out; omega))
    have RPw := Lib.hid (show Row wr (pR + 1) [.int .i64 0, .int .i64 0] 33 from RP.out.upto hbel (by have := SB.out; omega))
    have j0 : (0 : Int) ≤ (i : Int) := by omega
    have j1 : (i : Int) ≤ 4194304 := by omega
    clear hown hbel htk
    have r0 := fun z : Wb wr => (RRw.out.at z).cell 0
    have r1 := fun z : Wb wr => (RRw.out.at z).cell 1
    have q0 := RRw.out.cell 0
    have q1 := RRw.out.cell 1
    simp only [List.getElem?_cons_zero, List.getElem?_cons_succ] at r0 r1 q0 q1
    by_cases c1 : i < n
    · have d1 : (i : Int) < (n : Int) := by omega
      have hil : i < l.length := by have := HN.out; omega
      have HI := Lib.hid (show i + 1 ≤ n by omega)
      have IL := Lib.hid (show i < l.length by omega)
      have hix := fun w => s_idx l i hil w
      have BL := Lib.hid (fun w => lblank_any (l[i]'hil).toNat w)
      have LB := Lib.hid (blank_nat (l[i]'hil))
      cases hb : blankN (l[i]'hil).toNat with
      | true =>
        rw [hb] at BL
        have TB := Lib.hid (HT.out.blank hil (by rw [LB.out]; exact hb))
        obtain ⟨x, hx⟩ : ∃ x, x = (l[i]'hil).toNat := ⟨_, rfl⟩
        rw [← hx] at BL hix
        clear hb LB hx hil c1 hi1 IL
        go_wp2_with (go_at_call 35; refine (BL.out _).mono ?_; rintro e w9 ⟨rfl, rfl⟩)
        go_roundw
        case rel => exact ⟨i + 1, L, HI.out, by go_num, TB.out, HO.out, HB.out⟩
        case measure => have := HI.out; simp [intOf] <;> omega
      | false =>
        rw [hb] at BL
        have BF := Lib.hid (show blankB (l[i]'hil) = false by rw [LB.out]; exact hb)
        have TA := Lib.hid (fun h : (one (l.drop i)).1 ≠ 0 => HT.out.bad hil BF.out h)
        have TG := Lib.hid (fun h : (one (l.drop i)).1 = 0 => HT.out.good hil BF.out h)
        have OL := Lib.hid (one_le (l := l.drop i) (by intro e; have := congrArg List.length e; rw [List.length_drop] at this; simp at this; omega))
        have OP := Lib.hid (fun h : (one (l.drop i)).1 = 0 => one_pos h)
        have TK := Lib.hid (fun w => show Calls Tryd.prog 36 #[.string (strL (l.drop i))] w fun e w' => e = .returned (.tuple #[.agg #[.int .i64 (((one (l.drop i)).2.1 : Nat) : Int), .string (strL ((l.drop i).take (one (l.drop i)).2.2)), .int .i64 0], .int .i64 (((one (l.drop i)).1 : Nat) : Int)]) ∧ Below w.heap.size w w' from by
          rw [show l.drop i = l[i]'hil :: l.drop (i + 1) from List.drop_eq_getElem_cons hil]
          exact token_any _ _ w (by rw [← List.drop_eq_getElem_cons hil, List.length_drop]; have := LL.out; omega))
        have ST := fun w => s_from l i (by omega) w
        obtain ⟨x, hx⟩ : ∃ x, x = (l[i]'hil).toNat := ⟨_, rfl⟩
        rw [← hx] at BL hix
        obtain ⟨O, hO⟩ : ∃ O, O = one (l.drop i) := ⟨_, rfl⟩
        obtain ⟨oc, ok, on⟩ := O
        obtain ⟨u, hu⟩ : ∃ u, u = (l.drop i).take on := ⟨_, rfl⟩
        rw [← hO] at TA TG OL TK OP
        simp only at TA TG OL TK OP
        rw [← hu] at TK TG
        have UL := Lib.hid (show u.length = on by rw [hu, List.length_take, List.length_drop]; have := OL.out; rw [List.length_drop] at this; omega)
        have ON := Lib.hid (show i + on ≤ n by have := OL.out; rw [List.length_drop] at this; have := HN.out; have := HI.out; omega)
        have usz : (strL u).size = on := by rw [strL_size, UL.out]
        clear hb LB hx hil c1 hi1 BF hO OL hu
        go_upto_region 6 with (go_at_call 35; refine (BL.out _).mono ?_; rintro e w9 ⟨rfl, rfl⟩)
        go_upto_region 7 with (go_at_call 36; refine (TK.out _).mono ?_; rintro e w9 ⟨rfl, g⟩; obtain ⟨x1, rfl⟩ := Wb.start g; clear g)
        refine to_cls ?_
        intro U1 hU1 z1
        have KX := Lib.hid (KB.next (KB.alloc (KB.start wr x1) _) hU1)
        have r_x : ∀ z : Wb U1, Row z.at x1.at.heap.size [.int .i64 (ok : Int), .string (strL u), .int .i64 0] 63 := Row.next (Row.new _ [.int .i64 (ok : Int), .string (strL u), .int .i64 0] _) hU1
        have XS := Lib.hid (show wr.heap.size ≤ x1.at.heap.size from x1.bel.size)
        obtain ⟨pX, hpX⟩ : ∃ b, b = x1.at.heap.size := ⟨_, rfl⟩
        rw [← hpX] at r_x XS
        simp only [← hpX]
        clear hpX hU1 r0 r1 q0 q1
        have r0 := fun z : Wb U1 => (RRw.out.below (KX.out z)).cell 0
        have r1 := fun z : Wb U1 => (RRw.out.below (KX.out z)).cell 1
        have x_0 := fun z : Wb U1 => (r_x z).cell 0
        have x_1 := fun z : Wb U1 => (r_x z).cell 1
        have x_2 := fun z : Wb U1 => (r_x z).cell 2
        have x_f := fun (z : Wb U1) (i : Nat) => (r_x z).free i
        have p_0 := fun z : Wb U1 => (RPw.out.below (KX.out z)).cell 0
        have p_1 := fun z : Wb U1 => (RPw.out.below (KX.out z)).cell 1
        have p_f := fun (z : Wb U1) (i : Nat) => (RPw.out.below (KX.out z)).free i
        simp only [List.getElem?_cons_zero, List.getElem?_cons_succ] at r0 r1 x_0 x_1 x_2 p_0 p_1
        by_cases ce : oc = 0
        · subst ce
          have TN := Lib.hid (TG.out rfl)
          have OP := Lib.hid (OP.out rfl)
          clear TG TA
          have RX := Lib.hid (r_x z1)
          have KZ := Lib.hid (KX.out z1)
          clear r_x p_0 p_1 p_f
          go_upto_region 10 with fail
          refine to_cls ?_
          intro U2 hU2 z2
          have RX2 := Lib.hid ((Row.next (RX.out.set 2 (.int .i64 (a + (i : Int)))) hU2) z2)
          have KZ2 := Lib.hid ((KB.next (KB.put KZ.out XS.out 2 (.int .i64 (a + (i : Int)))) hU2) z2)
          simp only [List.set_cons_succ, List.set_cons_zero] at RX2
          clear hU2 r0 r1 x_0 x_1 x_2 x_f RX KZ
          have x_0 := RX2.out.cell 0
          have x_1 := RX2.out.cell 1
          have x_2 := RX2.out.cell 2
          simp only [List.getElem?_cons_zero, List.getElem?_cons_succ] at x_0 x_1 x_2
          have HO2 := Lib.hid (own_below HO.out KZ2.out)
          have k2a := Lib.hid (app_three z2.at (.int .i64 (ok : Int)) (.string (strL u)) (.int .i64 (a + (i : Int))))
          have k2b := Lib.hid (show ∀ v ∈ [Value.int .i64 (ok : Int), .string (strL u), .int .i64 (a + (i : Int))], v.oneCell' = true by simp [Value.oneCell'])
          have k2c := Lib.hid (show L.length + 1 ≤ maxLen by have := LS.out; unfold maxLen; omega)
          have k2d := Lib.hid (show (L.length + 1) * 32 ≤ 140737488355328 by have := LS.out; omega)
          have k2e := Lib.hid (show ∀ o : Obj, B ≤ (z2.at.alloc o).heap.size from fun o => by have := KZ2.out.size; have := WS.out; simp; omega)
          go_upto_region 11 with (at_builtin; refine wpList_append_own _ rfl (.tmp 41) (.tmp 43) 30 rfl B 63 i0 (.agg #[.int .i64 0, .string ⟨#[]⟩, .int .i64 0]) 3 32 Tryd.underlying30 hi hz0 hz1 hz2 rfl (by decide) _ _ _ rfl (HO2.out.alloc _) ⟨z2.at.heap.size, 0, none⟩ 1 1 [.int .i64 (ok : Int), .string (strL u), .int .i64 (a + (i : Int))] rfl rfl (k2a.out _) k2b.out k2c.out k2d.out (k2e.out _) ?_; intro v2 w2 h1 g1 _; have RX3 := Lib.hid (Row.grown g1 (RX2.out.old _) HO.out XS.out); have HB3 := Lib.hid (app_bel' (HB.out.trans (KZ2.out.mono WS.out)) (by have := KZ2.out.size; have := WS.out; omega) HO2.out g1))
          have HO3 := Lib.hid (show w2.ownsRow B 63 3 v2 (L ++ [(⟨ok, u, i⟩ : Tok)]).length (tokCells a (L ++ [(⟨ok, u, i⟩ : Tok)])) by rw [tokCells_snoc, List.length_append]; exact h1)
          clear h1 g1
          have x_1 := RX3.out.cell 1
          simp only [List.getElem?_cons_zero, List.getElem?_cons_succ] at x_1
          have o0 : (0 : Int) ≤ (on : Int) := by omega
          have o1 : (on : Int) ≤ 4194304 := by have := ON.out; omega
          go_wp2
          go_roundw
          case rel => exact ⟨i + on, L ++ [⟨ok, u, i⟩], ON.out, by go_num, TN.out, HO3.out, HB3.out⟩
          case measure => have := ON.out; have := HI.out; have := OP.out; simp [intOf] <;> omega
        · have TE := Lib.hid (TA.out ce)
          have e1 : ((oc : Int) != 0) = true := by simp; omega
          have e2 : ¬ (oc : Int) = 0 := by omega
          clear TG TA x_0 x_1 x_2 x_f r_x
          go_upto_region 8 with fail
          have KZ := Lib.hid (KX.out z1)
          have r1 := fun z : Wb z1.at => ((RRw.out.below KZ.out).at z).cell 1
          have p_0 := fun z : Wb z1.at => ((RPw.out.below KZ.out).at z).cell 0
          have p_1 := fun z : Wb z1.at => ((RPw.out.below KZ.out).at z).cell 1
          have p_f := fun (z : Wb z1.at) (i : Nat) => ((RPw.out.below KZ.out).at z).free i
          simp only [List.getElem?_cons_zero, List.getElem?_cons_succ] at r1 p_0 p_1
          clear r0
          refine wp_region_wb_tail 7 (by kernel_rfl) (by kernel_rfl) ?_
          simp only [List.take_succ_cons, List.take_zero, List.drop_succ_cons, List.drop_zero]
          repeat (go_big_quiet_step (fail))
          refine wpQuiet_nil ?_
          rintro _ ⟨x2, rfl⟩
          go_wp2
          refine bodyPost_ret (v := .tuple #[.slice none 0 0, .agg #[.int .i64 (oc : Int), .int .i64 (a + (i : Int))]]) (by simp [results, Tryd.results13, go_sem, *]) rfl ⟨.inl ⟨_, _, TE.out, rfl⟩, ?_⟩
          have KF := Lib.hid (show Below w.heap.size w x2.at from (KW.out.trans (KZ.out.mono KW.out.size)).trans (x2.bel.mono (by have := KW.out.size; have := KZ.out.size; omega)))
          have P1 := Lib.hid (show w.heap.size ≤ pR + 1 by have := PR.out; omega)
          repeat' (first | (with_reducible exact KF.out) | (with_reducible refine Below.setCell ?_ ?_ _) | (with_reducible exact P1.out))
    · obtain rfl : i = n := by omega
      have TD := Lib.hid (show toks l l.length 0 = (L ++ [⟨4, [], l.length⟩], none) from by
        have h := HT.out
        have e := HN.out
        subst e
        exact Tks.done h)
      have k2a := Lib.hid (app_three wr (.int .i64 4) (.string (strL [])) (.int .i64 (a + (i : Int))))
      have k2b := Lib.hid (show ∀ v ∈ [Value.int .i64 4, .string (strL []), .int .i64 (a + (i : Int))], v.oneCell' = true by simp [Value.oneCell'])
      have k2c := Lib.hid (show L.length + 1 ≤ maxLen by have := LS.out; unfold maxLen; omega)
      have k2d := Lib.hid (show (L.length + 1) * 32 ≤ 140737488355328 by have := LS.out; omega)
      have k2e := Lib.hid (show ∀ o : Obj, B ≤ (wr.alloc o).heap.size from fun o => by have := WS.out; simp; omega)
      clear c1 hi1 r0 r1
      go_wp2_with (at_builtin; refine wpList_append_own _ rfl (.tmp 50) (.tmp 58) 30 rfl B 63 i0 (.agg #[.int .i64 0, .string ⟨#[]⟩, .int .i64 0]) 3 32 Tryd.underlying30 hi hz0 hz1 hz2 rfl (by decide) _ _ _ rfl (HO.out.alloc _) ⟨wr.heap.size, 0, none⟩ 1 1 [.int .i64 4, .string (strL []), .int .i64 (a + (i : Int))] rfl rfl (k2a.out _) k2b.out k2c.out k2d.out (k2e.out _) ?_; intro v2 w2 h1 g1 _; have RP3 := Lib.hid (Row.grown' g1 (RPw.out.old _) (fun k hk => (HO.out.lt k hk).1) (show pR + 1 < B from SB.out)); have KF := Lib.hid (app_bel2 KW.out BW.out HO.out g1); have p_0 : w2.cell? ⟨pR + 1, 0, none⟩ = some (.int .i64 0) := RP3.out.cell 0; have p_1 : w2.cell? ⟨pR + 1, 1, none⟩ = some (.int .i64 0) := RP3.out.cell 1; have p_f := fun i => RP3.out.free i; have H1 := Lib.hid h1; clear h1 g1)
      refine bodyPost_ret (v := .tuple #[v2, .agg #[.int .i64 0, .int .i64 0]]) (by simp [results, Tryd.results13, go_sem, *]) rfl ⟨.inr ⟨by rw [TD.out], _, rfl, ?_⟩, ?_⟩
      · rw [TD.out]
        rw [show (L ++ [(⟨4, [], l.length⟩ : Tok)]).length = L.length + 1 by simp, tokCells_snoc, ← HN.out]
        exact own_base (own_set (own_set H1.out SB.out _ _) SB.out _ _) BW.out
      · have P1 := Lib.hid (show w.heap.size ≤ pR + 1 by have := PR.out; omega)
        repeat' (first | (with_reducible exact KF.out) | (with_reducible refine Below.setCell ?_ ?_ _) | (with_reducible exact P1.out))
end Go.Proofs.YtgpngjgilcbigaaDoor
