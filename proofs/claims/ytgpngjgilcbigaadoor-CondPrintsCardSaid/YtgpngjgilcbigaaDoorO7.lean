/-
  Layer 11, the laws: CondPrints.
-/
import Derived.Test.YtgpngjgilcbigaaDoorO6
import Derived.Test.YtgpngjgilcbigaaDoorO2
import Derived.Test.YtgpngjgilcbigaaDoorOu
import Derived.Test.YtgpngjgilcbigaaDoorOf
set_option linter.unusedSimpArgs false
set_option linter.unusedVariables false
namespace GrC
open GrP GrL
theorem smallP_sum : ∀ (d : Nat) (ts : List Cnd), smallL d ts = true → ∀ t ∈ ts, t.small d = true := by
  intro d ts
  induction ts with
  | nil => intro _ t ht; simp at ht
  | cons a ts ih =>
    intro h t ht
    rw [smallL, Bool.and_eq_true] at h
    rcases List.mem_cons.1 ht with rfl | ht
    · exact h.1
    · exact ih h.2 t ht
theorem sumP_le_mul (M : Nat) : ∀ (ts : List Cnd), (∀ t ∈ ts, t.cnt ≤ M) → (ts.map Cnd.cnt).sum ≤ ts.length * M
  | [], _ => by simp
  | a :: ts, h => by
    have := sumP_le_mul M ts fun t ht => h t (List.mem_cons_of_mem _ ht)
    have ha := h a (List.mem_cons_self)
    simp only [List.map, List.sum_cons, List.length_cons, Nat.succ_mul]
    omega
theorem smallP_cnt : ∀ (d : Nat) (c : Cnd), c.small d = true → c.cnt ≤ 7 ^ d := by
  intro d
  induction d with
  | zero => intro c h; simp [Cnd.small] at h
  | succ d ih =>
    intro c h
    obtain ⟨k, co, r, ad, va, ts⟩ := c
    rw [Cnd.small, Bool.and_eq_true, decide_eq_true_eq] at h
    have h1 := sumP_le_mul (7 ^ d) ts fun t ht => ih t (smallP_sum d ts h.2 t ht)
    have h2 := cnt_args (.node k co r ad va ts)
    have h3 : ts.length * 7 ^ d ≤ 6 * 7 ^ d := Nat.mul_le_mul_right _ h.1
    have h4 : 1 ≤ 7 ^ d := Nat.one_le_pow _ _ (by decide)
    have h5 : (Cnd.node k co r ad va ts).args = ts := rfl
    rw [h5] at h2
    rw [Nat.pow_succ]
    omega
theorem smallP_cnt9 {c : Cnd} (h : c.small 9 = true) : c.cnt ≤ 1099511627776 := Nat.le_trans (smallP_cnt 9 c h) (by decide)
theorem toks_all {c : Cnd} (h : Rt c) : ∃ T, toks c.pr c.pr.length 0 = (T, none) ∧ T.map ktOf = c.tk ++ [(4, [])] ∧ T.length ≤ c.pr.length + 1 ∧ ∀ x ∈ T, x.text.length ≤ c.pr.length := by
  obtain ⟨L', h1, e⟩ := (lexes c h).1 [] [] [] (fun c h => by simp at h) (Tks.start ([] ++ (c.pr ++ [])))
  simp only [List.nil_append, List.append_nil, List.length_nil, Nat.zero_add] at h1
  refine ⟨L' ++ [⟨4, [], c.pr.length⟩], h1.done, by rw [List.map_append, e]; rfl, ?_, ?_⟩
  · have := h1.2.1
    simp
    omega
  · intro x hx
    rcases List.mem_append.1 hx with hx | hx
    · have := h1.2.2.1 x hx
      omega
    · simp at hx
      subst hx
      simp
theorem clean_cnt {c : Cnd} (h : Rt c) : c.clean.cnt = c.cnt := by
  induction h with
  | reg co r ad va _ _ _ _ _ _ => rw [Cnd.clean, if_pos rfl]; simp [Cnd.cnt, cntL]
  | cell co r ad va _ _ _ _ => rw [Cnd.clean, if_neg (by decide), if_pos rfl]; simp [Cnd.cnt, cntL]
  | flt co r ad va _ _ _ _ => rw [Cnd.clean, if_neg (by decide), if_neg (by decide), if_pos rfl]; simp [Cnd.cnt, cntL]
  | tru co r ad va => rw [Cnd.clean, if_neg (by decide), if_neg (by decide), if_neg (by decide), if_pos rfl]; simp [Cnd.cnt, cntL]
  | not co r ad va d _ ih => rw [Cnd.clean, if_neg (by decide), if_neg (by decide), if_neg (by decide), if_neg (by decide)]; simp [Cnd.cnt, cntL, cleanL, ih]
  | and co r ad va d f _ _ ih1 ih2 => rw [Cnd.clean, if_neg (by decide), if_neg (by decide), if_neg (by decide), if_neg (by decide)]; simp [Cnd.cnt, cntL, cleanL, ih1, ih2]
  | or co r ad va d f _ _ ih1 ih2 => rw [Cnd.clean, if_neg (by decide), if_neg (by decide), if_neg (by decide), if_neg (by decide)]; simp [Cnd.cnt, cntL, cleanL, ih1, ih2]
/-- what a right condition's text is read as -/
theorem right_reads {c : Cnd} (ho : c.ok) (hr : c.rightly 4 = 0) : Rt c ∧ c.cnt ≤ 64 ∧ ∃ T, toks c.pr c.pr.length 0 = (T, none) ∧ T.length ≤ 20000 ∧ 0 < T.length ∧ (∀ i (h : i < T.length), (T[i]'h).text.length ≤ 20000) ∧ c.pr.length ≤ 19200 ∧ Seg T 0 (c.tk ++ [(4, [])]) := by
  unfold Cnd.rightly at hr
  split at hr
  · simp at hr
  · next h64 =>
    have hR := rt_of c.cnt c (Nat.le_refl _) ho hr
    have hp := pr_len c.cnt c (Nat.le_refl _) ho
    obtain ⟨T, e1, e2, e3, e4⟩ := toks_all hR
    have e5 := congrArg List.length e2
    simp at e5
    exact ⟨hR, by omega, T, e1, by omega, by omega, fun i h => by have := e4 _ (List.getElem_mem h); omega, by omega, seg_map e2⟩
end GrC
namespace Go.Proofs.YtgpngjgilcbigaaDoor
open Go.RowKit GrP GrL GrC
theorem tok_of (l : Tx) (T : List GrL.Tok) (w : World) (h : toks l l.length 0 = (T, none)) (h0 : 0 < T.length) (hl : l.length ≤ 19200) : Calls Tryd.prog 13 #[.agg #[.string (strL l), .int .i64 0]] w fun e w' => ∃ g cap, e = .returned (.tuple #[.slice (some ⟨g, 0, none⟩) T.length cap, .agg #[.int .i64 0, .int .i64 0]]) ∧ (∀ j u, (tokCells 0 T)[j]? = some u → w'.cell? ⟨g, j, none⟩ = some u) ∧ Below w.heap.size w w' := by
  refine (ltokens_any l 0 w (by omega) (by decide) (by decide)).mono ?_
  rintro e w' ⟨⟨c, p, h2, _⟩ | ⟨_, v, rfl, ho⟩, d⟩
  · rw [h] at h2; cases h2
  · rw [h] at ho
    obtain ⟨rfl, h3⟩ | ⟨g, cap, rfl, _, _, hc⟩ := own_open ho
    · simp only at h3; omega
    · exact ⟨g, cap, rfl, hc, d⟩

set_option maxRecDepth 100000 in
set_option maxHeartbeats 12800000 in
theorem condPrints_call (c : Cnd) (p : Option Addr) (n q : Nat) (w : World) (ho : c.ok) (hn : n = c.args.length) (hl : LAt w c.args p 0) (ht : TB w) :
    Calls Tryd.prog 3 #[.agg #[.int .i64 c.k, .int .i64 c.co, .int .i64 c.r, .int .u64 c.ad, .int .u64 c.va, .slice p n q]] w fun e w' => e = .returned (.bool true) ∧ Below w.heap.size w w' := by
  have AW := Lib.hid (fun (U : World) (k : Below w.heap.size w U) => awake_any U (ht.below k))
  have SM := Lib.hid (fun (U : World) (k : Below w.heap.size w U) => csmall_any 9 c p n q U hn (hl.below k) (by decide))
  have RR := Lib.hid (fun (hc : c.cnt ≤ 1099511627776) (U : World) (k : Below w.heap.size w U) => rrightly_any 4 c p n q U hc hn (hl.below k))
  have SC := Lib.hid (fun h : c.small 9 = true => show c.cnt ≤ 1099511627776 from smallP_cnt9 h)
  have RD := Lib.hid (fun h : c.rightly 4 = 0 => right_reads ho h)
  have PR := Lib.hid (fun (hR : Rt c) (h64 : c.cnt ≤ 64) (U : World) (k : Below w.heap.size w U) => rprint_any 64 c p n q U h64 (by omega) ho hR hn (hl.below k))
  have PC := Lib.hid (fun (h64 : c.cnt ≤ 64) (U : World) (k : Below w.heap.size w U) => print_any 64 c p n q U h64 (by omega) ho hn (hl.below k) (ht.below k))
  have CL := Lib.hid (fun (h64 : c.cnt ≤ 64) (U : World) (k : Below w.heap.size w U) => clean_any 64 c p n q U h64 (by omega) hn (hl.below k))
  have SA := Lib.hid (fun (h64 : c.cnt ≤ 64) (d : Cnd) (hd : d = c) (U : World) (k : Below w.heap.size w U) (p2 : Option Addr) (n2 q2 : Nat) (hn2 : n2 = d.args.length) (hl2 : LAt U d.args p2 0) => show Calls Tryd.prog 18 #[.agg #[.int .i64 c.k, .int .i64 c.co, .int .i64 c.r, .int .u64 c.ad, .int .u64 c.va, .slice p n q], .agg #[.int .i64 d.k, .int .i64 d.co, .int .i64 d.r, .int .u64 d.ad, .int .u64 d.va, .slice p2 n2 q2]] U fun e w' => e = .returned (.bool true) ∧ Below U.heap.size U w' from
    (same_any 64 c d p n q p2 n2 q2 U h64 (by omega) hn (hl.below k) hn2 hl2).mono (fun e w' h => ⟨h.1.trans (by rw [hd, sameC_refl]), h.2⟩))
  have HT := Lib.hid ht
  obtain ⟨sm, hsm⟩ : ∃ b, b = c.small 9 := ⟨_, rfl⟩
  rw [← hsm] at SM SC
  obtain ⟨rt, hrt⟩ : ∃ r, r = c.rightly 4 := ⟨_, rfl⟩
  rw [← hrt] at RR RD
  obtain ⟨cb, hcb⟩ : ∃ b, b = cleanB c := ⟨_, rfl⟩
  rw [← hcb] at CL
  have CS := Lib.hid (fun (h : Rt c) (h2 : cb = true) => clean_same h (by rw [← hcb]; exact h2))
  obtain ⟨kk, hkk⟩ : ∃ k, k = c.k := ⟨_, rfl⟩
  obtain ⟨co, hcc⟩ : ∃ k, k = c.co := ⟨_, rfl⟩
  obtain ⟨rr, hrr⟩ : ∃ k, k = c.r := ⟨_, rfl⟩
  obtain ⟨aa, haa⟩ : ∃ k, k = c.ad := ⟨_, rfl⟩
  obtain ⟨vv, hvv⟩ : ∃ k, k = c.va := ⟨_, rfl⟩
  obtain ⟨ts, hts⟩ : ∃ ts, ts = c.args := ⟨_, rfl⟩
  rw [← hkk, ← hcc, ← hrr, ← haa, ← hvv] at SM RR PR PC CL SA
  rw [← hts] at hn hl
  rw [← hkk, ← hcc, ← hrr, ← haa, ← hvv]
  clear hsm hrt ht hkk hcc hrr haa hvv hn hcb ho
  go_enter Tryd.func3, Tryd.ntmps3
  go_upto_region 1 with fail
  refine to_cls ?_
  intro U0 hU0 y0
  have r_c : ∀ z : Wb U0, Row z.at w.heap.size [.int .i64 kk, .int .i64 co, .int .i64 rr, .int .u64 aa, .int .u64 vv, .slice p n q] 25 := Row.next (Row.new _ [.int .i64 kk, .int .i64 co, .int .i64 rr, .int .u64 aa, .int .u64 vv, .slice p n q] _) hU0
  have KK := Lib.hid (KB.next (KB.alloc (Below.refl w.heap.size w) _) hU0)
  clear hU0
  have c_0 := fun z : Wb U0 => (r_c z).cell 0
  have c_1 := fun z : Wb U0 => (r_c z).cell 1
  have c_2 := fun z : Wb U0 => (r_c z).cell 2
  have c_3 := fun z : Wb U0 => (r_c z).cell 3
  have c_4 := fun z : Wb U0 => (r_c z).cell 4
  have c_5 := fun z : Wb U0 => (r_c z).cell 5
  simp only [List.getElem?_cons_zero, List.getElem?_cons_succ] at c_0 c_1 c_2 c_3 c_4 c_5
  have LU := Lib.hid (fun z : Wb U0 => hl.below (KK.out z))
  clear r_c
  obtain ⟨pC, hpC⟩ : ∃ b, b = w.heap.size := ⟨_, rfl⟩
  rw [← hpC] at c_0 c_1 c_2 c_3 c_4 c_5
  simp only [← hpC]
  clear hpC hl
  have K0 := Lib.hid (KK.out y0)
  have c_0 := y0.lift c_0
  have c_1 := y0.lift c_1
  have c_2 := y0.lift c_2
  have c_3 := y0.lift c_3
  have c_4 := y0.lift c_4
  have c_5 := y0.lift c_5
  clear KK LU hts
  go_upto_region 3 with (go_at_call 8; refine (AW.out _ K0.out).mono ?_; rintro e w4 ⟨rfl, g⟩; obtain ⟨x4, rfl⟩ := Wb.start g; clear g)
  have K4 := Lib.hid (K0.out.trans (x4.bel.mono K0.out.size))
  have c_0 := x4.lift c_0
  have c_1 := x4.lift c_1
  have c_2 := x4.lift c_2
  have c_3 := x4.lift c_3
  have c_4 := x4.lift c_4
  have c_5 := x4.lift c_5
  clear AW
  cases sm with
  | false =>
    go_wp2_with (go_at_call 9; refine (SM.out _ K4.out).mono ?_; rintro e w5 ⟨rfl, g⟩; obtain ⟨x5, rfl⟩ := Wb.start g; clear g)
    go_ret
    exact ⟨rfl, K4.out.trans (x5.bel.mono K4.out.size)⟩
  | true =>
    have HC := Lib.hid (SC.out (by first | rfl | exact trivial))
    have SM4 := Lib.hid (SM.out x4.at K4.out)
    have RR4 := Lib.hid (fun z : Wb x4.at => RR.out HC.out z.at (K4.out.trans (z.bel.mono K4.out.size)))
    clear SM RR SC
    by_cases r0 : rt = 0
    · have RD1 := Lib.hid (RD.out r0)
      subst r0
      obtain ⟨hR, h64, T, t1, t2, t3, t4, t5, t6⟩ := RD1.out
      have R1 := Lib.hid (reads_all hR t6)
      have PR1 := Lib.hid (fun z : Wb x4.at => PR.out hR h64 z.at (K4.out.trans (z.bel.mono K4.out.size)))
      have PC1 := Lib.hid (fun z : Wb x4.at => PC.out h64 z.at (K4.out.trans (z.bel.mono K4.out.size)))
      have CL1 := Lib.hid (CL.out h64)
      have SA1 := Lib.hid (SA.out h64)
      have CS1 := Lib.hid (CS.out hR)
      have TX := Lib.hid (show toks c.pr c.pr.length 0 = (T, none) ∧ T.length ≤ 20000 ∧ 0 < T.length ∧ (∀ i (h : i < T.length), (T[i]'h).text.length ≤ 20000) ∧ c.pr.length ≤ 19200 from ⟨t1, t2, t3, t4, t5⟩)
      have H64 := Lib.hid (show c.clean.cnt ≤ 64 by rw [clean_cnt hR]; exact h64)
      clear RD RD1 PR PC CL SA CS t1 t2 t3 t4 t5 t6 hR h64
      obtain ⟨tx, htx⟩ : ∃ t, t = c.pr := ⟨_, rfl⟩
      rw [← htx] at PR1 PC1 TX
      obtain ⟨D, hD⟩ : ∃ d, d = c.clean := ⟨_, rfl⟩
      rw [← hD] at R1 H64 CS1
      have TK := Lib.hid (fun U => tok_of tx T U TX.out.1 TX.out.2.2.1 TX.out.2.2.2.2)
      have pf0 := pfield0
      clear htx hD
      go_upto_region 5 with (first | (go_at_call 9; refine SM4.out.mono ?_; rintro e w5 ⟨rfl, g⟩; obtain ⟨x5, rfl⟩ := Wb.start g; clear g) | (go_at_call 10; refine (RR4.out x5).mono ?_; rintro e w6 ⟨rfl, g⟩; obtain ⟨x6, rfl⟩ := Wb.next g; clear g))
      go_upto_region 8 with (first | (go_at_call 11; refine (PC1.out x6).mono ?_; rintro e w7 ⟨rfl, g⟩; obtain ⟨x7, rfl⟩ := Wb.next g; clear g) | (go_at_call 12; refine (PR1.out x7).mono ?_; rintro e w8 ⟨rfl, g⟩; obtain ⟨x8, rfl⟩ := Wb.next g; clear g))
      have TL := Lib.hid (show ∃ tl, tl = T.length from ⟨_, rfl⟩)
      go_upto_region 9 with (go_at_call 13; refine (TK.out _).mono ?_; rintro e w1 ⟨g, cap, rfl, h1, h2⟩)
      refine to_cls ?_
      intro U1 hU1 y1
      have B1 := Lib.hid ((KB.alloc (Below.refl w1.heap.size w1) (.cells #[.int .i64 0, .int .i64 0] 33)).trans ((hU1.trans (y1.bel.mono hU1.size)).mono (by simp)))
      have CE := Lib.hid (fun j u (hj : (tokCells 0 T)[j]? = some u) => keep_below B1.out _ _ (h1 j u hj))
      have RP1 := Lib.hid (show Row y1.at w1.heap.size [.int .i64 0, .int .i64 0] 33 from ((Row.new w1 [.int .i64 0, .int .i64 0] _).below hU1).below y1.bel)
      have X8 := Lib.hid x8.bel
      have h3 : Below x4.at.heap.size x4.at w1 := X8.out.trans (h2.mono X8.out.size)
      have K1 := Lib.hid (show Below x4.at.heap.size x4.at y1.at from h3.trans (B1.out.mono h3.size))
      obtain ⟨pB, hpB⟩ : ∃ b, b = w1.heap.size := ⟨_, rfl⟩
      have PB := Lib.hid (show x4.at.heap.size ≤ pB by rw [hpB]; exact h3.size)
      rw [← hpB] at RP1
      simp only [← hpB]
      clear hpB hU1 h1 h2 h3 B1 X8
      go_upto_region 10 with (go_at_call 14; refine (read_any g cap T _ CE.out (by have := TX.out.2.1; omega) TX.out.2.2.1 (fun i h => by have := TX.out.2.2.2.1 i h; omega)).mono ?_; rintro e w2 ⟨w0, tp, tc, R, rfl, a1, a2, a3, a4, a5⟩)
      have A2 := Lib.hid (show Below x4.at.heap.size x4.at w0 from K1.out.trans (a2.mono K1.out.size))
      have TB0 := Lib.hid (HT.out.below (K4.out.trans (A2.out.mono K4.out.size)))
      have K2 := Lib.hid (show Below x4.at.heap.size x4.at w2 from A2.out.trans (a3.mono A2.out.size))
      have PR := Lib.hid (show pB < R by have := RP1.out.lt; have := a2.size; omega)
      have RW := Lib.hid (show x4.at.heap.size ≤ R by have := A2.out.size; omega)
      have RP2 := Lib.hid ((RP1.out.below a2).below a3)
      have PS := Lib.hid (parse_ok a1 rfl TB0.out w2 a5 a3 a4 _ _ D R1.out.1 R1.out.2 H64.out)
      obtain ⟨z0, hz0⟩ : ∃ x, x = D.k := ⟨_, rfl⟩
      obtain ⟨z1, hz1⟩ : ∃ x, x = D.co := ⟨_, rfl⟩
      obtain ⟨z2, hz2⟩ : ∃ x, x = D.r := ⟨_, rfl⟩
      obtain ⟨z3, hz3⟩ : ∃ x, x = D.ad := ⟨_, rfl⟩
      obtain ⟨z4, hz4⟩ : ∃ x, x = D.va := ⟨_, rfl⟩
      rw [← hz0, ← hz1, ← hz2, ← hz3, ← hz4] at PS
      have SA1 := Lib.hid (fun (hd : D = c) => SA1.out D hd)
      rw [← hz0, ← hz1, ← hz2, ← hz3, ← hz4] at SA1
      obtain ⟨tj, htj⟩ : ∃ j : Int, j = ((c.tk.length : Nat) : Int) := ⟨_, rfl⟩
      rw [← htj] at PS
      clear a1 a2 a3 a4 a5 CE hz0 hz1 hz2 hz3 hz4 htj
      go_upto_region 11 with (go_at_call 15; refine (PS.out).mono ?_; rintro e w3 ⟨p5, n5, q5, rfl, hn5, ht5, g1, g2⟩; have N5 := Lib.hid hn5; clear hn5)
      have K3 := Lib.hid (show Below x4.at.heap.size x4.at w3 from g2.below K2.out RW.out RW.out)
      have RP3 := Lib.hid (show Row w3 pB [.int .i64 0, .int .i64 0] 33 from RP2.out.two g2 (Nat.ne_of_lt PR.out) (Nat.ne_of_lt PR.out))
      obtain ⟨pD, hpD⟩ : ∃ b, b = w3.heap.size := ⟨_, rfl⟩
      have PD := Lib.hid hpD
      have G1 := Lib.hid g1
      have H5 := Lib.hid ht5
      clear g1 g2 ht5
      simp only [← hpD]
      clear hpD
      refine to_cls ?_
      intro V1 hV1 x9
      have B2 := Lib.hid ((KB.alloc (Below.refl w3.heap.size w3) (.cells #[.int .i64 z0, .int .i64 z1, .int .i64 z2, .int .u64 z3, .int .u64 z4, .slice p5 n5 q5] 25)).trans ((hV1.trans (x9.bel.mono hV1.size)).mono (by simp)))
      have RC4 := Lib.hid (show Row x9.at pD [.int .i64 z0, .int .i64 z1, .int .i64 z2, .int .u64 z3, .int .u64 z4, .slice p5 n5 q5] 25 from PD.out ▸ ((Row.new w3 [.int .i64 z0, .int .i64 z1, .int .i64 z2, .int .u64 z3, .int .u64 z4, .slice p5 n5 q5] _).below hV1).below x9.bel)
      have RP4 := Lib.hid (RP3.out.below B2.out)
      have RR4 := Lib.hid (G1.out.below B2.out)
      have K5 := Lib.hid (show Below x4.at.heap.size x4.at x9.at from K3.out.trans (B2.out.mono K3.out.size))
      have K6 := Lib.hid (show Below w.heap.size w x9.at from K4.out.trans (K5.out.mono K4.out.size))
      have L4 := Lib.hid (show LAt x9.at D.args p5 0 from (H5.out.below B2.out).now)
      clear hV1
      have BA := Lib.hid (fun z : Wb x9.at => bad_any R _ _ _ _ z.at (RR4.out.below z.bel))
      have CLZ := Lib.hid (fun z : Wb x9.at => CL1.out z.at (K6.out.trans (z.bel.mono K6.out.size)))
      have SAZ := Lib.hid (fun (h : D = c) (z : Wb x9.at) => SA1.out h z.at (K6.out.trans (z.bel.mono K6.out.size)) p5 n5 q5 N5.out (L4.out.below z.bel))
      have p0 := RP4.out.cell 0
      have KC := Lib.hid (show x9.at.cell? ⟨pC, 0, none⟩ = some (.int .i64 kk) ∧ x9.at.cell? ⟨pC, 1, none⟩ = some (.int .i64 co) ∧ x9.at.cell? ⟨pC, 2, none⟩ = some (.int .i64 rr) ∧ x9.at.cell? ⟨pC, 3, none⟩ = some (.int .u64 aa) ∧ x9.at.cell? ⟨pC, 4, none⟩ = some (.int .u64 vv) ∧ x9.at.cell? ⟨pC, 5, none⟩ = some (.slice p n q) from ⟨c_0 ⟨x9.at, K5.out⟩, c_1 ⟨x9.at, K5.out⟩, c_2 ⟨x9.at, K5.out⟩, c_3 ⟨x9.at, K5.out⟩, c_4 ⟨x9.at, K5.out⟩, c_5 ⟨x9.at, K5.out⟩⟩)
      have d0 := fun z : Wb x9.at => (RC4.out.at z).cell 0
      have d1 := fun z : Wb x9.at => (RC4.out.at z).cell 1
      have d2 := fun z : Wb x9.at => (RC4.out.at z).cell 2
      have d3 := fun z : Wb x9.at => (RC4.out.at z).cell 3
      have d4 := fun z : Wb x9.at => (RC4.out.at z).cell 4
      have d5 := fun z : Wb x9.at => (RC4.out.at z).cell 5
      simp only [List.getElem?_cons_zero, List.getElem?_cons_succ] at p0 d0 d1 d2 d3 d4 d5
      obtain ⟨k0, k1, k2, k3, k4, k5⟩ := KC.out
      have c_0 := fun z : Wb x9.at => keep_below z.bel _ _ k0
      have c_1 := fun z : Wb x9.at => keep_below z.bel _ _ k1
      have c_2 := fun z : Wb x9.at => keep_below z.bel _ _ k2
      have c_3 := fun z : Wb x9.at => keep_below z.bel _ _ k3
      have c_4 := fun z : Wb x9.at => keep_below z.bel _ _ k4
      have c_5 := fun z : Wb x9.at => keep_below z.bel _ _ k5
      have p0 := fun z : Wb x9.at => keep_below z.bel _ _ p0
      have p00 := RP4.out.cell 0
      simp only [List.getElem?_cons_zero, List.getElem?_cons_succ] at p00
      cases cb with
      | false =>
        go_wp2_with (first | (go_at_call 16; refine (BA.out ⟨_, Below.refl _ _⟩).mono ?_; rintro e w4 ⟨rfl, g⟩; obtain ⟨u4, rfl⟩ := Wb.start (W := x9.at) g; clear g) | (go_at_call 17; refine (CLZ.out u4).mono ?_; rintro e w5 ⟨rfl, g⟩; obtain ⟨u5, rfl⟩ := Wb.next g; clear g))
        go_ret
        exact ⟨rfl, K6.out.trans (u5.bel.mono K6.out.size)⟩
      | true =>
        have SAT := Lib.hid (SAZ.out (CS1.out (by first | rfl | exact trivial)))
        go_wp2_with (first | (go_at_call 16; refine (BA.out ⟨_, Below.refl _ _⟩).mono ?_; rintro e w4 ⟨rfl, g⟩; obtain ⟨u4, rfl⟩ := Wb.start (W := x9.at) g; clear g) | (go_at_call 17; refine (CLZ.out u4).mono ?_; rintro e w5 ⟨rfl, g⟩; obtain ⟨u5, rfl⟩ := Wb.next g; clear g) | (go_at_call 18; refine (SAT.out u5).mono ?_; rintro e w6 ⟨rfl, g⟩; obtain ⟨u6, rfl⟩ := Wb.next g; clear g))
        go_ret
        exact ⟨rfl, K6.out.trans (u6.bel.mono K6.out.size)⟩
    · have rb : ((rt : Int) != 0) = true := by simp; omega
      go_wp2_with (first | (go_at_call 9; refine SM4.out.mono ?_; rintro e w5 ⟨rfl, g⟩; obtain ⟨x5, rfl⟩ := Wb.start g; clear g) | (go_at_call 10; refine (RR4.out x5).mono ?_; rintro e w6 ⟨rfl, g⟩; obtain ⟨x6, rfl⟩ := Wb.next g; clear g))
      go_ret
      exact ⟨rfl, K4.out.trans (x6.bel.mono K4.out.size)⟩
end Go.Proofs.YtgpngjgilcbigaaDoor
