/-
  Layer 10: the law LexPlaces, walked.
-/
import Derived.Test.YtagbhhfflgikkaaDoorEu
set_option linter.unusedSimpArgs false
set_option linter.unusedVariables false
namespace GrL
open Go GrP
theorem chain_at {l : Tx} {T : List Tok} {j lo : Nat} (h : Chain l (T.drop j) lo) (hj : j < T.length) : lo ≤ T[j].pos ∧ T[j].pos + T[j].text.length ≤ l.length ∧ (l.drop T[j].pos).take T[j].text.length = T[j].text ∧ Chain l (T.drop (j + 1)) (T[j].pos + T[j].text.length) := by
  rw [List.drop_eq_getElem_cons hj] at h
  exact h
theorem rchain_at {s : Tx} {L : List (Tx × Nat)} {k lo : Nat} (h : RChain s (L.drop k) lo) (hk : k < L.length) : lo ≤ L[k].2 ∧ L[k].2 + L[k].1.length ≤ s.length ∧ (s.drop L[k].2).take L[k].1.length = L[k].1 ∧ RChain s (L.drop (k + 1)) (L[k].2 + L[k].1.length) := by
  rw [List.drop_eq_getElem_cons hk] at h
  exact h
theorem piece {s x u : Tx} {a p : Nat} (h : (s.drop a).take x.length = x) (h2 : p + u.length ≤ x.length) (h3 : (x.drop p).take u.length = u) : (s.drop (a + p)).take u.length = u := by
  rw [← h, List.drop_take, List.drop_drop, List.take_take, Nat.min_eq_left (by omega)] at h3
  exact h3
end GrL
namespace Go.Proofs.YtagbhhfflgikkaaDoor
open Go.RowKit GrP GrL Go.Shelf

theorem ltok_bad (l : Tx) (a : Int) (w : World) (hl : l.length ≤ 4194304) (ha0 : 0 ≤ a) (ha1 : a ≤ 1152921504606846976) {c p : Nat} (h : (toks l l.length 0).2 = some (c, p)) : Calls Tryd.prog 14 #[.agg #[.string (strL l), .int .i64 a]] w fun e w' => e = .returned (.tuple #[.slice none 0 0, .agg #[.int .i64 (c : Int), .int .i64 (a + (p : Int))]]) ∧ Below w.heap.size w w' := by
  refine (ltokens_any l a w hl ha0 ha1).mono ?_
  rintro e w' ⟨⟨c', p', h', rfl⟩ | ⟨h', _⟩, d⟩
  · rw [h] at h'
    cases h'
    exact ⟨rfl, d⟩
  · rw [h] at h'
    cases h'
theorem ltok_good (l : Tx) (a : Int) (w : World) (hl : l.length ≤ 4194304) (ha0 : 0 ≤ a) (ha1 : a ≤ 1152921504606846976) (h : (toks l l.length 0).2 = none) : Calls Tryd.prog 14 #[.agg #[.string (strL l), .int .i64 a]] w fun e w' => ∃ p n c, e = .returned (.tuple #[.slice p n c, .agg #[.int .i64 0, .int .i64 0]]) ∧ SlT a w' (.slice p n c) (toks l l.length 0).1 ∧ Below w.heap.size w w' := by
  refine (ltokens_any l a w hl ha0 ha1).mono ?_
  rintro e w' ⟨⟨c', p', h', rfl⟩ | ⟨_, v, rfl, ho⟩, d⟩
  · rw [h] at h'
    cases h'
  · obtain ⟨p, n, c, rfl⟩ := SlAt.form (SlAt.own ho)
    exact ⟨p, n, c, rfl, SlAt.own ho, d⟩

set_option maxRecDepth 100000 in
set_option maxHeartbeats 12800000 in
theorem lexPlaces_walk (s : Tx) (m : Int) (w : World) (hs : s.length ≤ 4194304) (hm : w.cell? ⟨0, 0, none⟩ = some (.int .i64 m)) : Calls Tryd.prog 6 #[.string (strL s)] w fun e w' => e = .returned (.bool true) ∧ Below w.heap.size w w' := by
  have AW := Lib.hid (awake_any m w hm)
  have LR := Lib.hid (fun (x : Wb w) => lrows_any s m x.at hs ((x.bel.cell (p := ⟨0, 0, none⟩) (World.block_lt_of_cell? w _ hm)).trans hm))
  have LL := Lib.hid (show (rowsL s).length ≤ 4194305 by have := rowsL_len s; omega)
  have RC := Lib.hid (rowsL_chain s)
  obtain ⟨L, hL⟩ : ∃ L, L = rowsL s := ⟨_, rfl⟩
  rw [← hL] at LR LL RC
  obtain ⟨n, hn⟩ : ∃ n, n = s.length := ⟨_, rfl⟩
  have hsz : (strL s).size = n := by rw [strL_size, hn]
  have HN := Lib.hid hn
  have N9 := Lib.hid (show n ≤ 4194304 by omega)
  clear hm hs hL hn
  go_enter Tryd.func6, Tryd.ntmps6
  go_upto_region 5 with (first | (go_at_call 7; refine AW.out.mono ?_; rintro e w1 ⟨rfl, d⟩; obtain ⟨x1, rfl⟩ := Wb.start d; clear d) | (go_at_call 10; refine (LR.out x1).mono ?_; rintro e w2 ⟨v1, rfl, o1, d⟩; obtain ⟨x2, rfl⟩ := Wb.next d; have S1 := Lib.hid (SlAt.own o1); clear d o1))
  obtain ⟨p1, n1, c1, rfl⟩ := SlAt.form S1.out
  have H1 := Lib.hid (show SlR x2.at (.slice p1 n1 c1) L from S1.out)
  have E1 := Lib.hid H1.out.len
  have KX := Lib.hid x2.bel
  obtain ⟨V, hV⟩ : ∃ V, V = x2.at := ⟨_, rfl⟩
  rw [← hV] at H1 KX ⊢
  clear hV S1
  have q9 : (n1 : Int) ≤ 4194305 := by have := E1.out; have := LL.out; omega
  go_wp2_with fail
  go_loopw [3, 5] (fun lv iv wr => ∃ k lo : Nat, k ≤ n1 ∧ iv = .int .i64 (k : Int) ∧ lv = .int .i64 (lo : Int) ∧ RChain s (L.drop k) lo ∧ Below V.heap.size V wr) (fun _ iv _ => n1 - (intOf iv).toNat)
  case atStart => exact ⟨0, 0, by omega, rfl, rfl, RC.out, Below.refl _ _⟩
  case round =>
    obtain ⟨k, lo, hk, rfl, rfl, hch, hb⟩ := hrel
    have BB := Lib.hid hb
    have CH := Lib.hid hch
    clear hb hch
    by_cases ck : k < n1
    · have l1 : k < L.length := by have := E1.out; omega
      obtain ⟨b1, rfl⟩ := SlR.addr H1.out (by omega)
      have z1 := Lib.hid (fun y : Wb wr => (H1.out.below (BB.out.trans (y.bel.mono BB.out.size))).at k l1)
      have CA := rchain_at CH.out l1
      obtain ⟨⟨x, a⟩, hxa⟩ : ∃ p, p = L[k]'l1 := ⟨_, rfl⟩
      rw [← hxa] at z1 CA
      simp only at z1 CA
      obtain ⟨c1', c2', c3', c4'⟩ := CA
      have LO := Lib.hid c1'
      have AL := Lib.hid c2'
      have PL := Lib.hid c3'
      have CN := Lib.hid c4'
      have y0 := fun y : Wb wr => (z1.out y).1
      have y1 := fun y : Wb wr => (z1.out y).2
      have y2 := y0 ⟨wr, Below.refl _ _⟩
      have y3 := y1 ⟨wr, Below.refl _ _⟩
      simp only [Wb.at] at y2 y3
      have HI := Lib.hid (show k + 1 ≤ n1 by omega)
      have XL := Lib.hid (show x.length ≤ 4194304 by have := N9.out; have := HN.out; omega)
      have A9 := Lib.hid (show a ≤ 4194304 by have := N9.out; have := HN.out; omega)
      have i0 : (0 : Int) ≤ (k : Int) := by omega
      have i1 : (k : Int) < (n1 : Int) := by omega
      have a0 : (0 : Int) ≤ (a : Int) := by omega
      have a9 : (a : Int) ≤ 4194304 := by have := A9.out; omega
      have xsz : (strL x).size = x.length := strL_size x
      obtain ⟨xn, hxn⟩ : ∃ xn, xn = x.length := ⟨_, rfl⟩
      have XN := Lib.hid hxn
      rw [← hxn] at xsz
      clear z1 hxa l1 hk ck c1' c2' c3' c4' hxn
      cases ht : (toks x x.length 0).2 with
      | some q =>
        obtain ⟨c, q⟩ := q
        have TK := Lib.hid (fun w => ltok_bad x (a : Int) w XL.out (by omega) (by omega) ht)
        have PL := toks_place x _ _ _ _ ht
        have cz : ((c : Int) != 0) = true := by simp; omega
        have cz2 : ¬ (c : Int) = 0 := by omega
        have g1 : (a : Int) ≤ (a : Int) + (q : Int) := by omega
        have g2 : (a : Int) + (q : Int) < (a : Int) + (xn : Int) := by have := XN.out; omega
        have x9 : (xn : Int) ≤ 4194304 := by have := XN.out; have := XL.out; omega
        have q0 : (0 : Int) ≤ (q : Int) := by omega
        clear ht PL
        go_upto_region 9 with (go_at_call 14; refine (TK.out _).mono ?_; rintro e w2 ⟨rfl, d⟩; obtain ⟨x3, rfl⟩ := Wb.start d; clear d)
        refine to_pt ?_
        intro U hU
        have BU := Lib.hid (show Below wr.heap.size wr U from (x3.bel.alloc x3.size _).trans (hU.mono (by have := x3.size; simp; omega)))
        have KU := Lib.hid (KX.out.trans ((BB.out.trans (BU.out.mono BB.out.size)).mono KX.out.size))
        have RX := (Row.new x3.at [.int .i64 (c : Int), .int .i64 ((a : Int) + (q : Int))] 25).below hU
        have p0 := RX.cell 0
        have p1 := RX.cell 1
        have pp0 := fun z : Wb U => (RX.at z).cell 0
        have pp1 := fun z : Wb U => (RX.at z).cell 1
        have t0 : ∀ z : Wb U, z.at.cell? (b1.add (k * 2)) = some (.string (strL x)) := fun z => y0 ⟨z.at, BU.out.trans (z.bel.mono BU.out.size)⟩
        have t1 : ∀ z : Wb U, z.at.cell? ⟨(b1.add (k * 2)).block, (b1.add (k * 2)).off + 1, none⟩ = some (.int .i64 (a : Int)) := fun z => y1 ⟨z.at, BU.out.trans (z.bel.mono BU.out.size)⟩
        simp only [List.getElem?_cons_zero, List.getElem?_cons_succ] at p0 p1 pp0 pp1
        clear RX hU y0 y1 y2 y3
        go_upto_region 10 with fail
        refine wp_region_wb (by kernel_rfl) (by kernel_rfl) ?_
        repeat (go_big_quiet_step (fail))
        refine wpQuiet_nil ?_
        rintro _ ⟨y, rfl⟩
        go_wp2
        go_ret
        exact ⟨rfl, KU.out.trans (y.bel.mono KU.out.size)⟩
      | none =>
        have TK := Lib.hid (fun w => ltok_good x (a : Int) w XL.out (by omega) (by omega) ht)
        have TC := Lib.hid (toks_chain x x.length 0 (by omega) ht)
        have TN := Lib.hid (show (toks x x.length 0).1.length ≤ 4194305 by have h := tkl_len x; rw [tkl, if_pos ht] at h; have := XL.out; omega)
        obtain ⟨T, hT⟩ : ∃ T, T = (toks x x.length 0).1 := ⟨_, rfl⟩
        rw [← hT] at TK TC TN
        clear ht hT
        go_upto_region 9 with (go_at_call 14; refine (TK.out _).mono ?_; rintro e w2 ⟨p2, n2, c2, rfl, s1, d⟩; obtain ⟨x3, rfl⟩ := Wb.start d; have ST := Lib.hid s1; clear d s1)
        refine to_pt ?_
        intro U hU
        have BU := Lib.hid (show Below wr.heap.size wr U from (x3.bel.alloc x3.size _).trans (hU.mono (by have := x3.size; simp; omega)))
        have KU := Lib.hid (KX.out.trans ((BB.out.trans (BU.out.mono BB.out.size)).mono KX.out.size))
        have RX := (Row.new x3.at [.int .i64 0, .int .i64 0] 25).below hU
        have p0 := RX.cell 0
        have p1 := RX.cell 1
        have pp0 := fun z : Wb U => (RX.at z).cell 0
        have pp1 := fun z : Wb U => (RX.at z).cell 1
        have t0 : ∀ z : Wb U, z.at.cell? (b1.add (k * 2)) = some (.string (strL x)) := fun z => y0 ⟨z.at, BU.out.trans (z.bel.mono BU.out.size)⟩
        have t1 : ∀ z : Wb U, z.at.cell? ⟨(b1.add (k * 2)).block, (b1.add (k * 2)).off + 1, none⟩ = some (.int .i64 (a : Int)) := fun z => y1 ⟨z.at, BU.out.trans (z.bel.mono BU.out.size)⟩
        simp only [List.getElem?_cons_zero, List.getElem?_cons_succ] at p0 p1 pp0 pp1
        have TU := Lib.hid (show SlT (a : Int) U (.slice p2 n2 c2) T from ST.out.below (((Below.refl x3.at.heap.size x3.at).alloc (Nat.le_refl _) _).trans (hU.mono (by simp))))
        have TE := Lib.hid TU.out.len
        have T9 := Lib.hid (show (n2 : Int) ≤ 4194305 by have := TE.out; have := TN.out; omega)
        have t9 := T9.out
        clear RX hU y0 y1 y2 y3 pp0 pp1 ST t0 t1
        go_wp2_with fail
        go_loopw [3, 8] (fun lv jv w2 => ∃ j ls lo2 : Nat, j ≤ n2 ∧ jv = .int .i64 (j : Int) ∧ lv = .int .i64 (ls : Int) ∧ Chain x (T.drop j) lo2 ∧ ls ≤ a + lo2 ∧ ls ≤ a + xn ∧ Below U.heap.size U w2) (fun _ jv _ => n2 - (intOf jv).toNat)
        case atStart => exact ⟨0, lo, 0, by omega, rfl, rfl, TC.out, by have := LO.out; omega, by have := LO.out; omega, Below.refl _ _⟩
        case round =>
          obtain ⟨j, ls, lo2, hj, rfl, rfl, hc2, hl1, hl2, hb2⟩ := hrel
          have B2 := Lib.hid hb2
          have L2 := Lib.hid hl2
          clear hb2 hl2
          by_cases cj : j < n2
          · have l2 : j < T.length := by have := TE.out; omega
            obtain ⟨b2, rfl⟩ := SlT.addr TU.out (by omega)
            have z2 := Lib.hid (fun y : Wb wr => (TU.out.below (B2.out.trans (y.bel.mono B2.out.size))).at j l2)
            obtain ⟨d1, d2, d3, d4⟩ := chain_at hc2 l2
            obtain ⟨⟨tk, u, pos⟩, htk⟩ : ∃ t, t = T[j]'l2 := ⟨_, rfl⟩
            rw [← htk] at z2 d1 d2 d3 d4
            simp only at z2 d1 d2 d3 d4
            have u0 := fun y : Wb wr => (z2.out y).1
            have u1 := fun y : Wb wr => (z2.out y).2.1
            have u2 := fun y : Wb wr => (z2.out y).2.2
            obtain ⟨un, hun⟩ : ∃ un, un = u.length := ⟨_, rfl⟩
            have usz : (strL u).size = un := by rw [strL_size, hun]
            have g1 : ¬ (a : Int) + (pos : Int) < (ls : Int) := by omega
            have g2 : ¬ (n : Int) < (a : Int) + (pos : Int) + (un : Int) := by have := AL.out; have := HN.out; omega
            have g3 : (a : Int) + (pos : Int) + (un : Int) ≤ 4194304 := by have := AL.out; have := HN.out; have := N9.out; omega
            have g4 : (0 : Int) ≤ (un : Int) := by omega
            have g5 : (0 : Int) ≤ (pos : Int) := by omega
            have CT := fun w => s_cut s (a + pos) (a + pos + un) (by omega) (by have := AL.out; omega) w
            rw [show a + pos + un - (a + pos) = un by omega, show (s.drop (a + pos)).take un = u by rw [hun]; exact piece PL.out (by omega) d3] at CT
            simp only [Int.natCast_add] at CT
            have D4 := Lib.hid (show Chain x (T.drop (j + 1)) (pos + un) by rw [hun]; exact d4)
            have D2 := Lib.hid (show pos + un ≤ xn by have := XN.out; omega)
            have JI := Lib.hid (show j + 1 ≤ n2 by omega)
            have j0 : (0 : Int) ≤ (j : Int) := by omega
            have j1 : (j : Int) < (n2 : Int) := by omega
            clear z2 d1 d2 d3 d4 htk hun l2 hc2 hl1 cj hj
            go_upto_region 14 with fail
            refine wp_region_wb (by kernel_rfl) (by kernel_rfl) ?_
            repeat (go_big_quiet_step (fail))
            refine wpQuiet_nil ?_
            rintro _ ⟨y, rfl⟩
            have u0 := y.lift u0
            have u1 := y.lift u1
            have u2 := y.lift u2
            go_upto_region 16 with fail
            refine wp_region_wb (by kernel_rfl) (by kernel_rfl) ?_
            repeat (go_big_quiet_step (fail))
            refine wpQuiet_nil ?_
            rintro _ ⟨y2, rfl⟩
            go_wp2
            go_roundw
            case rel => exact ⟨j + 1, a + pos + un, pos + un, JI.out, by go_num, by go_num, D4.out, by omega, by have := D2.out; omega, B2.out.trans ((y.bel.trans (y2.bel.mono y.size)).mono B2.out.size)⟩
            case measure => have := JI.out; simp [intOf]; omega
          · obtain rfl : j = n2 := by omega
            have i2 : ¬ (j : Int) < (j : Int) := by omega
            clear cj hj hc2 hl1
            go_wp2_with fail
            go_roundw
            case rel => exact ⟨k + 1, ls, HI.out, by go_num, rfl, CN.out.lower (by have := L2.out; have := XN.out; omega), BB.out.trans ((BU.out.trans (B2.out.mono BU.out.size)).mono BB.out.size)⟩
            case measure => have := HI.out; simp [intOf]; omega
    · obtain rfl : k = n1 := by omega
      have i2 : ¬ (k : Int) < (k : Int) := by omega
      clear ck hk
      go_wp2
      go_ret
      exact ⟨rfl, KX.out.trans (BB.out.mono KX.out.size)⟩
theorem lexPlaces_call (s : ByteArray) (w : World) (h : w.ShapedOpen Tryd.prog) (hs : s.data.toList.length ≤ 4194304) : Calls Tryd.prog 6 #[.string s] w fun e w' => e = .returned (.bool true) ∧ Below w.heap.size w w' := by
  obtain ⟨m, hm⟩ := max_of_shape w h
  rw [string_strL s]
  exact lexPlaces_walk _ m w hs hm
end Go.Proofs.YtagbhhfflgikkaaDoor
