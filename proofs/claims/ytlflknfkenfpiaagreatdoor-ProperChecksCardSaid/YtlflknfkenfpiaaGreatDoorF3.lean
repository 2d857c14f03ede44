/-
  Texts of one claim, merged.
-/
import Derived.Test.YtlflknfkenfpiaaGreatDoorE9
set_option linter.unusedSimpArgs false
set_option linter.unusedVariables false
namespace Go.Proofs.YtlflknfkenfpiaaGreatDoor
open Go.RowKit GrN
set_option maxRecDepth 100000 in
set_option maxHeartbeats 25600000 in
theorem ccore_r (Ks : List GrN.K) (TS PK : List Int) (PI : List (List Int)) (i : Nat) (nm : ByteArray) (pc : Option Addr) (nc cc : Nat) (pk : Option Addr) (nk ck : Nat) (fa : Bool) (ck0 cco cr cad cva : Int) (pg : Option Addr) (ng cg : Nat) (pt : Option Addr) (nt ct : Nat) (qt : Option Addr) (lt dt : Nat) (qc : Option Addr) (lc dc : Nat) (qk : Option Addr) (lk dk : Nat) (qi : Option Addr) (li di : Nat) (qa : Int) (w : World) (hi : i < Ks.length) (hnk : nk = Ks.length) (hm : nk ≤ 6) (hK : KsAt w pk Ks) (hc : ∀ c ∈ Ks, smallK c ∧ (∀ x ∈ c.code, -9223372036854775808 ≤ x.imm ∧ x.imm ≤ 9223372036854775807) ∧ (∀ x ∈ c.hand, -9223372036854775808 ≤ x.imm ∧ x.imm ≤ 9223372036854775807) ∧ 0 ≤ c.tab ∧ c.tab < 18446744073709551616)
    (hnt : nt = TS.length) (hmt : nt ≤ maxLen) (hT : NAt .u64 w pt TS) (hlk : lk = PK.length) (hmk : lk ≤ maxLen) (hPK : NAt .i64 w qk PK) (hli : li = PI.length) (hmi : li ≤ maxLen) (hPI : PsAt w qi PI) (hs : ShAt w) (gi : ¬ i < li) :
    Calls Tryz.prog 16 #[.agg #[.string nm, .slice pc nc cc, .slice pk nk ck, .bool fa, .int .i64 ck0, .int .i64 cco, .int .i64 cr, .int .u64 cad, .int .u64 cva, .slice pg ng cg, .slice pt nt ct, .slice qt lt dt, .slice qc lc dc, .slice qk lk dk, .slice qi li di, .int .i64 qa], .int .i64 (i : Int)] w fun e w' => e = .returned (pbV (coreS encB (Ks[i]'hi) TS (plc PK i) (PI.getD i []))) ∧ Below w.heap.size w w' := by
  obtain ⟨a, pr, cr2, px, cx, ph, ch, epk, c0, c1, c2, c3, c4, x1, x2⟩ := hK i hi
  obtain ⟨hsm, hb1, hb2, ht0, ht1⟩ := hc _ (List.getElem_mem hi)
  obtain ⟨x, hx⟩ : ∃ x, x = Ks[i]'hi := ⟨_, rfl⟩
  rw [← hx] at c0 c1 c2 c3 c4 x1 x2 hb1 hb2 ht0 ht1 hsm ⊢
  obtain ⟨rg, sp, tb, xc, xh⟩ := x
  simp only at c0 c1 c2 c3 c4 x1 x2 hb1 hb2 ht0 ht1
  have hn1 : xc.length ≤ 40 := hsm.1
  have hn2 : xh.length ≤ 40 := hsm.2
  have PKC := Lib.hid (fun (U : World) (b : Below w.heap.size w U) => place_any PK qk lk dk i U hlk (hPK.below b) hmk)
  obtain ⟨at_, hat⟩ : ∃ v, v = plc PK i := ⟨_, rfl⟩
  rw [← hat] at PKC ⊢
  have DC := Lib.hid (fun (U : World) (b : Below w.heap.size w U) => declared_any TS pt nt ct tb U hnt hmt (hT.below b))
  have BA := Lib.hid (fun (U : World) => base_any tb U ht0 ht1)
  have CK := Lib.hid (fun (U : World) (b : Below w.heap.size w U) (PL : List Int) (pp : Option Addr) (np cp : Nat) (h1 : np = PL.length) (h2 : np ≤ maxLen) (h3 : NAt .i64 U pp PL) => ccode_any xc px xc.length cx PL pp np cp false U rfl (by unfold maxLen; omega) (x1.below b) hb1 h1 h2 h3 (hs.below b))
  have HK := Lib.hid (fun (U : World) (b : Below w.heap.size w U) (PL : List Int) (pp : Option Addr) (np cp : Nat) (h1 : np = PL.length) (h2 : np ≤ maxLen) (h3 : NAt .i64 U pp PL) => ccode_any xh ph xh.length ch PL pp np cp true U rfl (by unfold maxLen; omega) (x2.below b) hb2 h1 h2 h3 (hs.below b))
  have CS := Lib.hid (fun PL => show coreS encB ⟨rg, sp, tb, xc, xh⟩ TS at_ PL = (if baseB tb = false then (133, at_) else if decide (tb ∈ TS) = false then (131, at_) else if sp < 0 ∨ 65535 < sp then (1, at_)
  else if 16 < xc.length then (136, plc PL 16) else if 16 < xh.length then (136, plc PL (xc.length + 16))
  else if (ans (firstF (codeF encB xc false) xc.length) PL).1 ≠ 0 then ans (firstF (codeF encB xc false) xc.length) PL
  else ansO (firstF (codeF encB xh true) xh.length) PL xc.length) from rfl)
  have LI := Lib.hid hli
  have i0 : (0 : Int) ≤ (i : Int) := by omega
  have gk : (i : Int) < (nk : Int) := by omega
  have nk9 : (nk : Int) ≤ 6 := by omega
  have m1 : (xc.length : Int) ≤ 40 := by omega
  have m2 : (xh.length : Int) ≤ 40 := by omega
  have n1 : (0 : Int) ≤ (xc.length : Int) := by omega
  have PP := Lib.hid (fun (U : World) (b : Below w.heap.size w U) => hPI.below b)
  obtain ⟨nx, hnx⟩ : ∃ k, k = xc.length := ⟨_, rfl⟩
  obtain ⟨nh, hnh⟩ : ∃ k, k = xh.length := ⟨_, rfl⟩
  rw [← hnx] at c3 CK CS m1 n1
  rw [← hnh] at c4 HK CS m2
  have NX := Lib.hid hnx
  subst epk
  have b0 := Below.refl w.heap.size w
  have LT0 := Lib.hid (World.block_lt_of_cell? w _ c0)
  have LT1 := Lib.hid (World.block_lt_of_cell? w _ c1)
  have BP := Lib.hid (fun U => problem_any 0 0 U)
  clear hx hsm hb1 hb2 ht0 ht1 hat hnt hmt hT hlk hmk hPK hmi hPI hs hc hK hm hnk hnx hnh hn1 hn2 x1 x2 BP hli b0
  have GD : PI.getD i [] = [] := by rw [List.getD_eq_getElem?_getD, List.getElem?_eq_none (by have := LI.out; omega)]; rfl
  rw [GD]
  have gi2 : ¬ (i : Int) < (li : Int) := by omega
  clear GD gi
  obtain ⟨RS, hRS⟩ : ∃ r, r = coreS encB ⟨rg, sp, tb, xc, xh⟩ TS at_ [] := ⟨_, rfl⟩
  rw [← hRS]
  have CS := Lib.hid (hRS.trans (CS.out []))
  clear hRS
  go_enter Tryz.func16, Tryz.ntmps16
  go_upto_region 1 with fail
  refine to_cls ?_
  intro U0 hU0 y0
  have r_s : ∀ z : Wb U0, Row z.at w.heap.size [.string nm, .slice pc nc cc, .slice (some a) nk ck, .bool fa, .int .i64 ck0, .int .i64 cco, .int .i64 cr, .int .u64 cad, .int .u64 cva, .slice pg ng cg, .slice pt nt ct, .slice qt lt dt, .slice qc lc dc, .slice qk lk dk, .slice qi li di, .int .i64 qa] 42 := Row.next ((Row.new _ [.string nm, .slice pc nc cc, .slice (some a) nk ck, .bool fa, .int .i64 ck0, .int .i64 cco, .int .i64 cr, .int .u64 cad, .int .u64 cva, .slice pg ng cg, .slice pt nt ct, .slice qt lt dt, .slice qc lc dc, .slice qk lk dk, .slice qi li di, .int .i64 qa] _).old _) hU0
  have r_p : ∀ z : Wb U0, Row z.at (w.heap.size + 1) [.int .i64 0, .int .i64 0] 39 := Row.next (Row.new' _ [.int .i64 0, .int .i64 0] _ _ (by simp)) hU0
  have KK := Lib.hid (KB.next (KB.alloc (KB.alloc (Below.refl w.heap.size w) _) _) hU0)
  clear hU0
  obtain ⟨pS, hpS⟩ : ∃ b, b = w.heap.size := ⟨_, rfl⟩
  have PS := Lib.hid (show w.heap.size ≤ pS by omega)
  have PA := Lib.hid (show w.heap.size ≤ pS + 1 by omega)
  rw [← hpS] at r_s r_p
  simp only [← hpS]
  clear hpS
  have RS0 := Lib.hid r_s
  have RP0 := Lib.hid r_p
  have g0 := fun q : Wb y0.at => keep_below ((KK.out y0).trans (q.bel.mono (KK.out y0).size)) _ _ c0
  have g1 := fun q : Wb y0.at => keep_below ((KK.out y0).trans (q.bel.mono (KK.out y0).size)) _ _ c1
  have g2 := fun q : Wb y0.at => keep_below ((KK.out y0).trans (q.bel.mono (KK.out y0).size)) _ _ c2
  have g3 := fun q : Wb y0.at => keep_below ((KK.out y0).trans (q.bel.mono (KK.out y0).size)) _ _ c3
  have g4 := fun q : Wb y0.at => keep_below ((KK.out y0).trans (q.bel.mono (KK.out y0).size)) _ _ c4
  have s2 := fun q : Wb y0.at => ((r_s y0).below q.bel).cell 2
  have s13 := fun q : Wb y0.at => ((r_s y0).below q.bel).cell 13
  simp only [List.getElem?_cons_zero, List.getElem?_cons_succ] at s2 s13
  have PK1 := Lib.hid (fun q : Wb y0.at => Calls.same_below (PKC.out q.at ((KK.out y0).trans (q.bel.mono (KK.out y0).size))) (Below.refl _ _))
  clear r_s r_p c0 c1 c2 c3 c4
  refine wp_region_wb_block 11 _ (.cells #[.slice none 0 0, .int .i64 0, .int .u64 0, .slice none 0 0, .slice none 0 0] 54) (by kernel_rfl) (by kernel_rfl) rfl rfl (fun a w => by simp [go_sem]) (by simp) ?_
  intro yq
  have h0 := fun q : Wb yq.at => (keep_below q.bel _ _ (g0 yq))
  have h1 := fun q : Wb yq.at => (keep_below q.bel _ _ (g1 yq))
  have h2 := fun q : Wb yq.at => (keep_below q.bel _ _ (g2 yq))
  have h3 := fun q : Wb yq.at => (keep_below q.bel _ _ (g3 yq))
  have h4 := fun q : Wb yq.at => (keep_below q.bel _ _ (g4 yq))
  have t2 := fun q : Wb yq.at => (keep_below q.bel _ _ (s2 yq))
  have t13 := fun q : Wb yq.at => (keep_below q.bel _ _ (s13 yq))
  have PK2 := Lib.hid (fun q : Wb yq.at => Calls.same_below (PKC.out q.at ((KK.out y0).trans ((yq.bel.trans (q.bel.mono yq.bel.size)).mono (KK.out y0).size))) (Below.refl _ _))
  clear g0 g1 g2 g3 g4 s2 s13 PK1
  simp only [List.take_succ_cons, List.take_zero, List.drop_succ_cons, List.drop_zero]
  repeat (go_big_quiet_step ((go_at_call 15; exact Calls.wb (PK2.out _))))
  refine wpQuiet_nil ?_
  clear h0 h1 h2 h3 h4 t2 t13 PK2
  clear yq
  intro zz xx
  have K0 : Below w.heap.size w zz.at := (KK.out y0).trans (zz.bel.mono (KK.out y0).size)
  have r_c := ((Row.new zz.at [.slice none 0 0, .int .i64 0, .int .u64 0, .slice none 0 0, .slice none 0 0] 54).at xx)
  have r_s := (((RS0.out y0).below zz.bel).old (.cells #[.slice none 0 0, .int .i64 0, .int .u64 0, .slice none 0 0, .slice none 0 0] 54)).at xx
  have r_p := (((RP0.out y0).below zz.bel).old (.cells #[.slice none 0 0, .int .i64 0, .int .u64 0, .slice none 0 0, .slice none 0 0] 54)).at xx
  have K1 : Below w.heap.size w xx.at := (KB.alloc K0 _).trans (xx.bel.mono (KB.alloc K0 _).size)
  have lS : pS < zz.at.heap.size := ((RS0.out y0).below zz.bel).lt
  have lP : pS + 1 < zz.at.heap.size := ((RP0.out y0).below zz.bel).lt
  obtain ⟨pC, hpC⟩ : ∃ b, b = zz.at.heap.size := ⟨_, rfl⟩
  rw [← hpC] at r_c lS lP
  simp only [← hpC]
  have PCB := Lib.hid (show w.heap.size ≤ pC by rw [hpC]; exact K0.size)
  have fC := fun k => r_c.free k
  have d0 := r_c.cell 0
  have d1 := r_c.cell 1
  have d2 := r_c.cell 2
  have d3 := r_c.cell 3
  have d4 := r_c.cell 4
  simp only [List.getElem?_cons_zero, List.getElem?_cons_succ] at d0 d1 d2 d3 d4
  obtain ⟨X, hX⟩ : ∃ X, X = xx.at := ⟨_, rfl⟩
  rw [← hX] at r_c r_s r_p K1 fC d0 d1 d2 d3 d4 ⊢
  have r_c5 := ((((r_c.set 0 (.slice pr rg cr2)).set 1 (.int .i64 sp)).set 2 (.int .u64 tb)).set 3 (.slice px nx cx)).set 4 (.slice ph nh ch)
  simp only [List.set_cons_zero, List.set_cons_succ] at r_c5
  have r_s5 := ((((r_s.oth (show pS ≠ pC by omega) 0 (.slice pr rg cr2)).oth (show pS ≠ pC by omega) 1 (.int .i64 sp)).oth (show pS ≠ pC by omega) 2 (.int .u64 tb)).oth (show pS ≠ pC by omega) 3 (.slice px nx cx)).oth (show pS ≠ pC by omega) 4 (.slice ph nh ch)
  have r_p5 := ((((r_p.oth (show pS + 1 ≠ pC by omega) 0 (.slice pr rg cr2)).oth (show pS + 1 ≠ pC by omega) 1 (.int .i64 sp)).oth (show pS + 1 ≠ pC by omega) 2 (.int .u64 tb)).oth (show pS + 1 ≠ pC by omega) 3 (.slice px nx cx)).oth (show pS + 1 ≠ pC by omega) 4 (.slice ph nh ch)
  have K5 := KB.put (KB.put (KB.put (KB.put (KB.put K1 PCB.out 0 (.slice pr rg cr2)) PCB.out 1 (.int .i64 sp)) PCB.out 2 (.int .u64 tb)) PCB.out 3 (.slice px nx cx)) PCB.out 4 (.slice ph nh ch)
  have C5 := Lib.hid r_c5
  have S5 := Lib.hid r_s5
  have P5 := Lib.hid r_p5
  have B5 := Lib.hid K5
  clear r_c r_s r_p r_c5 r_s5 r_p5 K1 K5 hX RS0 RP0 K0 hpC
  trace "A"
  go_upto_region 2 with fail
  trace "B"
  refine to_cls ?_
  intro U1 hU1 y1
  have rc := Row.next C5.out hU1
  have rs := Row.next S5.out hU1
  have rp := Row.next P5.out hU1
  have KQ := Lib.hid (KB.next B5.out hU1)
  clear hU1 C5 S5 P5 B5 fC d0 d1 d2 d3 d4 lS lP
  have e1 := fun z : Wb U1 => (rc z).cell 1
  have e2 := fun z : Wb U1 => (rc z).cell 2
  have e3 := fun z : Wb U1 => (rc z).cell 3
  have e4 := fun z : Wb U1 => (rc z).cell 4
  have s10 := fun z : Wb U1 => (rs z).cell 10
  have s14 := fun z : Wb U1 => (rs z).cell 14
  have p0 := fun z : Wb U1 => (rp z).cell 0
  have p1 := fun z : Wb U1 => (rp z).cell 1
  have pf := fun (z : Wb U1) (k : Nat) => (rp z).free k
  simp only [List.getElem?_cons_zero, List.getElem?_cons_succ] at e1 e2 e3 e4 s10 s14 p0 p1
  clear rc rs rp
  have ml : min (nx : Int) 0 = 0 := by omega
  go_wp2_with fail
  · have h77 : True := trivial
    clear h77
    have PQ := Lib.hid (fun (U : World) (b : Below w.heap.size w U) (k : Nat) => place_any [] none 0 0 k U rfl (NAt.nil _ _ _) (Nat.zero_le _))
    have HN := Lib.hid (show 0 = (([] : List Int)).length from rfl)
    have HB := Lib.hid (show ∀ U, Below w.heap.size w U → NAt .i64 U none (([] : List Int)) from fun U b => NAt.nil _ _ _)
    have PR := Lib.hid (fun (U : World) (b : Below w.heap.size w U) (k : Nat) => place_any (([] : List Int)) none 0 0 k U HN.out (HB.out U b) (by exact Nat.zero_le _))
    have CQ := Lib.hid (fun (U : World) (b : Below w.heap.size w U) => CK.out U b [] none 0 0 rfl (Nat.zero_le _) (NAt.nil _ _ _))
    have HR := Lib.hid (fun (U : World) (b : Below w.heap.size w U) => HK.out U b (([] : List Int)) none 0 0 HN.out (by exact Nat.zero_le _) (HB.out U b))
    have DB := Lib.hid (show plc (([] : List Int)) 16 = plc [] (nx + 16) from by simp [plc])
    have DA := Lib.hid (show ans (firstF (codeF encB xh true) nh) (([] : List Int)) = ansO (firstF (codeF encB xh true) nh) [] nx from by cases firstF (codeF encB xh true) nh <;> simp [ans, ansO, plc])
    clear CK HK HB HN
    cases cb : baseB tb with
    | false =>
      rw [cb] at BA
      have E := Lib.hid (show RS = (133, at_) by rw [CS.out]; rw [if_pos cb])
      have PB := Lib.hid (problem_at 133 at_ (by decide))
      clear cb CS
      refine (BA.out _).mono ?_
      rintro e w3 ⟨rfl, rfl⟩
      go_wp2_with fail
      refine (PB.out _).mono ?_
      rintro e w9 ⟨rfl, b⟩
      obtain ⟨y9, rfl⟩ := Wb.next b
      clear b
      go_wp2
      refine bodyPost_ret (v := .agg #[.int .i64 133, .int .i64 at_]) (by simp [results, Tryz.results16, go_sem, *]) rfl ⟨by rw [E.out]; rfl, ?_⟩
      repeat' (first | (with_reducible exact KQ.out _) | (with_reducible refine Below.setCell ?_ ?_ _) | (with_reducible exact PA.out))
    | true =>
      rw [cb] at BA
      have CS := Lib.hid (CS.out.trans (if_neg (by rw [cb]; decide)))
      clear cb
      refine (BA.out _).mono ?_
      rintro e w3 ⟨rfl, rfl⟩
      have DC1 := Lib.hid (fun z : Wb U1 => DC.out z.at (KQ.out z))
      cases cd : decide (tb ∈ TS) with
      | false =>
        rw [cd] at DC1
        have E := Lib.hid (show RS = (131, at_) by rw [CS.out]; rw [if_pos cd])
        have PB := Lib.hid (problem_at 131 at_ (by decide))
        clear cd CS
        go_wp2_with fail
        refine (DC1.out _).mono ?_
        rintro e w4 ⟨rfl, b⟩
        obtain ⟨y4, rfl⟩ := Wb.next b
        clear b
        go_wp2_with fail
        refine (PB.out _).mono ?_
        rintro e w9 ⟨rfl, b⟩
        obtain ⟨y9, rfl⟩ := Wb.next b
        clear b
        go_wp2
        refine bodyPost_ret (v := .agg #[.int .i64 131, .int .i64 at_]) (by simp [results, Tryz.results16, go_sem, *]) rfl ⟨by rw [E.out]; rfl, ?_⟩
        repeat' (first | (with_reducible exact KQ.out _) | (with_reducible refine Below.setCell ?_ ?_ _) | (with_reducible exact PA.out))
      | true =>
        rw [cd] at DC1
        have CS := Lib.hid (CS.out.trans (if_neg (by rw [cd]; decide)))
        clear cd
        go_wp2_with fail
        refine (DC1.out _).mono ?_
        rintro e w4 ⟨rfl, b⟩
        obtain ⟨y4, rfl⟩ := Wb.next b
        clear b
        by_cases gs : sp < 0
        · have E := Lib.hid (show RS = (1, at_) by rw [CS.out]; rw [if_pos (.inl gs)])
          have PB := Lib.hid (problem_at 1 at_ (by decide))
          clear CS
          go_wp2_with fail
          refine (PB.out _).mono ?_
          rintro e w9 ⟨rfl, b⟩
          obtain ⟨y9, rfl⟩ := Wb.next b
          clear b
          go_wp2
          refine bodyPost_ret (v := .agg #[.int .i64 1, .int .i64 at_]) (by simp [results, Tryz.results16, go_sem, *]) rfl ⟨by rw [E.out]; rfl, ?_⟩
          repeat' (first | (with_reducible exact KQ.out _) | (with_reducible refine Below.setCell ?_ ?_ _) | (with_reducible exact PA.out))
        by_cases gt : 65535 < sp
        · have E := Lib.hid (show RS = (1, at_) by rw [CS.out]; rw [if_pos (.inr gt)])
          have PB := Lib.hid (problem_at 1 at_ (by decide))
          clear CS
          go_wp2_with fail
          refine (PB.out _).mono ?_
          rintro e w9 ⟨rfl, b⟩
          obtain ⟨y9, rfl⟩ := Wb.next b
          clear b
          go_wp2
          refine bodyPost_ret (v := .agg #[.int .i64 1, .int .i64 at_]) (by simp [results, Tryz.results16, go_sem, *]) rfl ⟨by rw [E.out]; rfl, ?_⟩
          repeat' (first | (with_reducible exact KQ.out _) | (with_reducible refine Below.setCell ?_ ?_ _) | (with_reducible exact PA.out))
        have CS := Lib.hid (CS.out.trans (if_neg (by omega)))
        by_cases gc : 16 < nx
        · have gc2 : (16 : Int) < (nx : Int) := by omega
          obtain ⟨pv, hpv⟩ : ∃ v, v = plc [] 16 := ⟨_, rfl⟩
          have PQ := Lib.hid (show ∀ z : Wb U1, Calls Tryz.prog 15 #[.slice none 0 0, .int .i64 16] z.at fun e w' => e = .returned (.int .i64 pv) ∧ z.at = w' from fun z => by rw [hpv]; exact PQ.out z.at (KQ.out z) 16)
          have E := Lib.hid (show RS = (136, pv) by rw [CS.out]; rw [if_pos gc, hpv])
          have PB := Lib.hid (problem_at 136 pv (by decide))
          clear CS hpv gc
          go_wp2_with fail
          refine (PQ.out _).mono ?_
          rintro e w5 ⟨rfl, rfl⟩
          go_wp2_with fail
          refine (PB.out _).mono ?_
          rintro e w9 ⟨rfl, b⟩
          obtain ⟨y9, rfl⟩ := Wb.next b
          clear b
          go_wp2
          refine bodyPost_ret (v := .agg #[.int .i64 136, .int .i64 pv]) (by simp [results, Tryz.results16, go_sem, *]) rfl ⟨by rw [E.out]; rfl, ?_⟩
          repeat' (first | (with_reducible exact KQ.out _) | (with_reducible refine Below.setCell ?_ ?_ _) | (with_reducible exact PA.out))
        have gc2 : ¬ (16 : Int) < (nx : Int) := by omega
        have CS := Lib.hid (CS.out.trans (if_neg gc))
        clear gc
        by_cases gh : 16 < nh
        · have gh2 : (16 : Int) < (nh : Int) := by omega
          obtain ⟨pv, hpv⟩ : ∃ v, v = plc (([] : List Int)) 16 := ⟨_, rfl⟩
          have PR := Lib.hid (show ∀ z : Wb U1, Calls Tryz.prog 15 #[.slice none 0 0, .int .i64 16] z.at fun e w' => e = .returned (.int .i64 pv) ∧ z.at = w' from fun z => by rw [hpv]; exact PR.out z.at (KQ.out z) 16)
          have E := Lib.hid (show RS = (136, pv) by rw [CS.out]; rw [if_pos gh, hpv, DB.out])
          have PB := Lib.hid (problem_at 136 pv (by decide))
          clear CS hpv gh
          go_wp2_with fail
          refine (PR.out _).mono ?_
          rintro e w5 ⟨rfl, rfl⟩
          go_wp2_with fail
          refine (PB.out _).mono ?_
          rintro e w9 ⟨rfl, b⟩
          obtain ⟨y9, rfl⟩ := Wb.next b
          clear b
          go_wp2
          refine bodyPost_ret (v := .agg #[.int .i64 136, .int .i64 pv]) (by simp [results, Tryz.results16, go_sem, *]) rfl ⟨by rw [E.out]; rfl, ?_⟩
          repeat' (first | (with_reducible exact KQ.out _) | (with_reducible refine Below.setCell ?_ ?_ _) | (with_reducible exact PA.out))
        have gh2 : ¬ (16 : Int) < (nh : Int) := by omega
        have CS := Lib.hid (CS.out.trans (if_neg gh))
        clear gh PQ PR
        obtain ⟨v, hv⟩ : ∃ v, v = ans (firstF (codeF encB xc false) nx) ([]) := ⟨_, rfl⟩
        rw [← hv] at CS CQ
        obtain ⟨v1, v2⟩ := v
        clear hv
        have CQ1 := Lib.hid (show ∀ z : Wb U1, Calls Tryz.prog 33 #[.slice px nx cx, .slice none 0 0, .bool false] z.at fun e w' => e = .returned (.agg #[.int .i64 v1, .int .i64 v2]) ∧ Below z.at.heap.size z.at w' from fun z => CQ.out z.at (KQ.out z))
        clear CQ
        go_wp2_with fail
        refine (CQ1.out _).mono ?_
        rintro e w5 ⟨rfl, b⟩
        obtain ⟨y5, rfl⟩ := Wb.next b
        clear b
        go_upto_region 17 with fail
        refine to_cls ?_
        intro U2 hU2 y6
        have r9 : ∀ q : Wb U2, Row q.at y5.at.heap.size [.int .i64 v1, .int .i64 v2] 39 := Row.next (Row.new _ [.int .i64 v1, .int .i64 v2] _) hU2
        have K2 := Lib.hid (fun q : Wb U2 => ((KB.alloc (Below.refl y5.at.heap.size y5.at) _).trans ((hU2.mono (by simp)).trans (q.bel.mono (Nat.le_trans (by simp) hU2.size)))))
        have n0 := fun q : Wb U2 => (r9 q).cell 0
        have n1 := fun q : Wb U2 => (r9 q).cell 1
        simp only [List.getElem?_cons_zero, List.getElem?_cons_succ] at n0 n1
        have l9 : pS + 1 < y5.at.heap.size := World.block_lt_of_cell? _ ⟨pS + 1, 0, none⟩ (p0 y5)
        have f4 := fun q : Wb U2 => keep_below (K2.out q) _ _ (e4 y5)
        have P0 := fun q : Wb U2 => keep_below (K2.out q) _ _ (p0 y5)
        have P1 := fun q : Wb U2 => keep_below (K2.out q) _ _ (p1 y5)
        have PF := fun (q : Wb U2) (k : Nat) => ((K2.out q).frozen (p := ⟨pS + 1, k, none⟩) l9).trans (pf y5 k)
        have KQ2 := Lib.hid (fun q : Wb U2 => (KQ.out y5).trans ((K2.out q).mono (KQ.out y5).size))
        clear r9 hU2 l9
        obtain ⟨pN, hpN⟩ : ∃ b, b = y5.at.heap.size := ⟨_, rfl⟩
        rw [← hpN] at n0 n1
        simp only [← hpN]
        clear hpN e1 e2 e3 e4 s10 s14 p0 p1 pf
        by_cases ev : v1 = 0
        · subst ev
          have CS := Lib.hid (CS.out.trans (if_neg (by simp)))
          obtain ⟨u, hu⟩ : ∃ v, v = ans (firstF (codeF encB xh true) nh) (([] : List Int)) := ⟨_, rfl⟩
          have E := Lib.hid (show RS = u by rw [CS.out, hu, DA.out])
          have HQ1 := Lib.hid (show ∀ z : Wb U2, Calls Tryz.prog 33 #[.slice ph nh ch, .slice none 0 0, .bool true] z.at fun e w' => e = .returned (pbV u) ∧ Below z.at.heap.size z.at w' from fun z => by rw [hu]; exact HR.out z.at (KQ2.out z))
          clear hu CS HR
          obtain ⟨u1, u2⟩ := u
          have HQ1 := Lib.hid (show ∀ z : Wb U2, Calls Tryz.prog 33 #[.slice ph nh ch, .slice none 0 0, .bool true] z.at fun e w' => e = .returned (.agg #[.int .i64 u1, .int .i64 u2]) ∧ Below z.at.heap.size z.at w' from HQ1.out)
          go_wp2_with fail
          refine (HQ1.out _).mono ?_
          rintro e w7 ⟨rfl, b⟩
          obtain ⟨y7, rfl⟩ := Wb.next b
          clear b
          go_wp2
          refine bodyPost_ret (v := .agg #[.int .i64 u1, .int .i64 u2]) (by simp [results, Tryz.results16, go_sem, *]) rfl ⟨by rw [E.out]; rfl, ?_⟩
          repeat' (first | (with_reducible exact KQ2.out _) | (with_reducible refine Below.setCell ?_ ?_ _) | (with_reducible exact PA.out))
        · have nz : (v1 != 0) = true := by simpa using ev
          have E := Lib.hid (show RS = (v1, v2) by rw [CS.out, if_pos ev])
          clear CS HR ev
          go_wp2
          refine bodyPost_ret (v := .agg #[.int .i64 v1, .int .i64 v2]) (by simp [results, Tryz.results16, go_sem, *]) rfl ⟨by rw [E.out]; rfl, ?_⟩
          repeat' (first | (with_reducible exact KQ2.out _) | (with_reducible refine Below.setCell ?_ ?_ _) | (with_reducible exact PA.out))
  · have h77 : True := trivial
    clear h77
    have PQ := Lib.hid (fun (U : World) (b : Below w.heap.size w U) (k : Nat) => place_any [] none 0 0 k U rfl (NAt.nil _ _ _) (Nat.zero_le _))
    have HN := Lib.hid (show 0 = (([] : List Int)).length from rfl)
    have HB := Lib.hid (show ∀ U, Below w.heap.size w U → NAt .i64 U none (([] : List Int)) from fun U b => NAt.nil _ _ _)
    have PR := Lib.hid (fun (U : World) (b : Below w.heap.size w U) (k : Nat) => place_any (([] : List Int)) none 0 0 k U HN.out (HB.out U b) (by exact Nat.zero_le _))
    have CQ := Lib.hid (fun (U : World) (b : Below w.heap.size w U) => CK.out U b [] none 0 0 rfl (Nat.zero_le _) (NAt.nil _ _ _))
    have HR := Lib.hid (fun (U : World) (b : Below w.heap.size w U) => HK.out U b (([] : List Int)) none 0 0 HN.out (by exact Nat.zero_le _) (HB.out U b))
    have DB := Lib.hid (show plc (([] : List Int)) 16 = plc [] (nx + 16) from by simp [plc])
    have DA := Lib.hid (show ans (firstF (codeF encB xh true) nh) (([] : List Int)) = ansO (firstF (codeF encB xh true) nh) [] nx from by cases firstF (codeF encB xh true) nh <;> simp [ans, ansO, plc])
    clear CK HK HB HN
    cases cb : baseB tb with
    | false =>
      rw [cb] at BA
      have E := Lib.hid (show RS = (133, at_) by rw [CS.out]; rw [if_pos cb])
      have PB := Lib.hid (problem_at 133 at_ (by decide))
      clear cb CS
      refine (BA.out _).mono ?_
      rintro e w3 ⟨rfl, rfl⟩
      go_wp2_with fail
      refine (PB.out _).mono ?_
      rintro e w9 ⟨rfl, b⟩
      obtain ⟨y9, rfl⟩ := Wb.next b
      clear b
      go_wp2
      refine bodyPost_ret (v := .agg #[.int .i64 133, .int .i64 at_]) (by simp [results, Tryz.results16, go_sem, *]) rfl ⟨by rw [E.out]; rfl, ?_⟩
      repeat' (first | (with_reducible exact KQ.out _) | (with_reducible refine Below.setCell ?_ ?_ _) | (with_reducible exact PA.out))
    | true =>
      rw [cb] at BA
      have CS := Lib.hid (CS.out.trans (if_neg (by rw [cb]; decide)))
      clear cb
      refine (BA.out _).mono ?_
      rintro e w3 ⟨rfl, rfl⟩
      have DC1 := Lib.hid (fun z : Wb U1 => DC.out z.at (KQ.out z))
      cases cd : decide (tb ∈ TS) with
      | false =>
        rw [cd] at DC1
        have E := Lib.hid (show RS = (131, at_) by rw [CS.out]; rw [if_pos cd])
        have PB := Lib.hid (problem_at 131 at_ (by decide))
        clear cd CS
        go_wp2_with fail
        refine (DC1.out _).mono ?_
        rintro e w4 ⟨rfl, b⟩
        obtain ⟨y4, rfl⟩ := Wb.next b
        clear b
        go_wp2_with fail
        refine (PB.out _).mono ?_
        rintro e w9 ⟨rfl, b⟩
        obtain ⟨y9, rfl⟩ := Wb.next b
        clear b
        go_wp2
        refine bodyPost_ret (v := .agg #[.int .i64 131, .int .i64 at_]) (by simp [results, Tryz.results16, go_sem, *]) rfl ⟨by rw [E.out]; rfl, ?_⟩
        repeat' (first | (with_reducible exact KQ.out _) | (with_reducible refine Below.setCell ?_ ?_ _) | (with_reducible exact PA.out))
      | true =>
        rw [cd] at DC1
        have CS := Lib.hid (CS.out.trans (if_neg (by rw [cd]; decide)))
        clear cd
        go_wp2_with fail
        refine (DC1.out _).mono ?_
        rintro e w4 ⟨rfl, b⟩
        obtain ⟨y4, rfl⟩ := Wb.next b
        clear b
        by_cases gs : sp < 0
        · have E := Lib.hid (show RS = (1, at_) by rw [CS.out]; rw [if_pos (.inl gs)])
          have PB := Lib.hid (problem_at 1 at_ (by decide))
          clear CS
          go_wp2_with fail
          refine (PB.out _).mono ?_
          rintro e w9 ⟨rfl, b⟩
          obtain ⟨y9, rfl⟩ := Wb.next b
          clear b
          go_wp2
          refine bodyPost_ret (v := .agg #[.int .i64 1, .int .i64 at_]) (by simp [results, Tryz.results16, go_sem, *]) rfl ⟨by rw [E.out]; rfl, ?_⟩
          repeat' (first | (with_reducible exact KQ.out _) | (with_reducible refine Below.setCell ?_ ?_ _) | (with_reducible exact PA.out))
        by_cases gt : 65535 < sp
        · have E := Lib.hid (show RS = (1, at_) by rw [CS.out]; rw [if_pos (.inr gt)])
          have PB := Lib.hid (problem_at 1 at_ (by decide))
          clear CS
          go_wp2_with fail
          refine (PB.out _).mono ?_
          rintro e w9 ⟨rfl, b⟩
          obtain ⟨y9, rfl⟩ := Wb.next b
          clear b
          go_wp2
          refine bodyPost_ret (v := .agg #[.int .i64 1, .int .i64 at_]) (by simp [results, Tryz.results16, go_sem, *]) rfl ⟨by rw [E.out]; rfl, ?_⟩
          repeat' (first | (with_reducible exact KQ.out _) | (with_reducible refine Below.setCell ?_ ?_ _) | (with_reducible exact PA.out))
        have CS := Lib.hid (CS.out.trans (if_neg (by omega)))
        by_cases gc : 16 < nx
        · exfalso
          omega
        have gc2 : ¬ (16 : Int) < (nx : Int) := by omega
        have CS := Lib.hid (CS.out.trans (if_neg gc))
        clear gc
        by_cases gh : 16 < nh
        · have gh2 : (16 : Int) < (nh : Int) := by omega
          obtain ⟨pv, hpv⟩ : ∃ v, v = plc (([] : List Int)) 16 := ⟨_, rfl⟩
          have PR := Lib.hid (show ∀ z : Wb U1, Calls Tryz.prog 15 #[.slice none 0 0, .int .i64 16] z.at fun e w' => e = .returned (.int .i64 pv) ∧ z.at = w' from fun z => by rw [hpv]; exact PR.out z.at (KQ.out z) 16)
          have E := Lib.hid (show RS = (136, pv) by rw [CS.out]; rw [if_pos gh, hpv, DB.out])
          have PB := Lib.hid (problem_at 136 pv (by decide))
          clear CS hpv gh
          go_wp2_with fail
          refine (PR.out _).mono ?_
          rintro e w5 ⟨rfl, rfl⟩
          go_wp2_with fail
          refine (PB.out _).mono ?_
          rintro e w9 ⟨rfl, b⟩
          obtain ⟨y9, rfl⟩ := Wb.next b
          clear b
          go_wp2
          refine bodyPost_ret (v := .agg #[.int .i64 136, .int .i64 pv]) (by simp [results, Tryz.results16, go_sem, *]) rfl ⟨by rw [E.out]; rfl, ?_⟩
          repeat' (first | (with_reducible exact KQ.out _) | (with_reducible refine Below.setCell ?_ ?_ _) | (with_reducible exact PA.out))
        have gh2 : ¬ (16 : Int) < (nh : Int) := by omega
        have CS := Lib.hid (CS.out.trans (if_neg gh))
        clear gh PQ PR
        obtain ⟨v, hv⟩ : ∃ v, v = ans (firstF (codeF encB xc false) nx) ([]) := ⟨_, rfl⟩
        rw [← hv] at CS CQ
        obtain ⟨v1, v2⟩ := v
        clear hv
        have CQ1 := Lib.hid (show ∀ z : Wb U1, Calls Tryz.prog 33 #[.slice px nx cx, .slice none 0 0, .bool false] z.at fun e w' => e = .returned (.agg #[.int .i64 v1, .int .i64 v2]) ∧ Below z.at.heap.size z.at w' from fun z => CQ.out z.at (KQ.out z))
        clear CQ
        go_wp2_with fail
        refine (CQ1.out _).mono ?_
        rintro e w5 ⟨rfl, b⟩
        obtain ⟨y5, rfl⟩ := Wb.next b
        clear b
        go_upto_region 17 with fail
        refine to_cls ?_
        intro U2 hU2 y6
        have r9 : ∀ q : Wb U2, Row q.at y5.at.heap.size [.int .i64 v1, .int .i64 v2] 39 := Row.next (Row.new _ [.int .i64 v1, .int .i64 v2] _) hU2
        have K2 := Lib.hid (fun q : Wb U2 => ((KB.alloc (Below.refl y5.at.heap.size y5.at) _).trans ((hU2.mono (by simp)).trans (q.bel.mono (Nat.le_trans (by simp) hU2.size)))))
        have n0 := fun q : Wb U2 => (r9 q).cell 0
        have n1 := fun q : Wb U2 => (r9 q).cell 1
        simp only [List.getElem?_cons_zero, List.getElem?_cons_succ] at n0 n1
        have l9 : pS + 1 < y5.at.heap.size := World.block_lt_of_cell? _ ⟨pS + 1, 0, none⟩ (p0 y5)
        have f4 := fun q : Wb U2 => keep_below (K2.out q) _ _ (e4 y5)
        have P0 := fun q : Wb U2 => keep_below (K2.out q) _ _ (p0 y5)
        have P1 := fun q : Wb U2 => keep_below (K2.out q) _ _ (p1 y5)
        have PF := fun (q : Wb U2) (k : Nat) => ((K2.out q).frozen (p := ⟨pS + 1, k, none⟩) l9).trans (pf y5 k)
        have KQ2 := Lib.hid (fun q : Wb U2 => (KQ.out y5).trans ((K2.out q).mono (KQ.out y5).size))
        clear r9 hU2 l9
        obtain ⟨pN, hpN⟩ : ∃ b, b = y5.at.heap.size := ⟨_, rfl⟩
        rw [← hpN] at n0 n1
        simp only [← hpN]
        clear hpN e1 e2 e3 e4 s10 s14 p0 p1 pf
        by_cases ev : v1 = 0
        · subst ev
          have CS := Lib.hid (CS.out.trans (if_neg (by simp)))
          obtain ⟨u, hu⟩ : ∃ v, v = ans (firstF (codeF encB xh true) nh) (([] : List Int)) := ⟨_, rfl⟩
          have E := Lib.hid (show RS = u by rw [CS.out, hu, DA.out])
          have HQ1 := Lib.hid (show ∀ z : Wb U2, Calls Tryz.prog 33 #[.slice ph nh ch, .slice none 0 0, .bool true] z.at fun e w' => e = .returned (pbV u) ∧ Below z.at.heap.size z.at w' from fun z => by rw [hu]; exact HR.out z.at (KQ2.out z))
          clear hu CS HR
          obtain ⟨u1, u2⟩ := u
          have HQ1 := Lib.hid (show ∀ z : Wb U2, Calls Tryz.prog 33 #[.slice ph nh ch, .slice none 0 0, .bool true] z.at fun e w' => e = .returned (.agg #[.int .i64 u1, .int .i64 u2]) ∧ Below z.at.heap.size z.at w' from HQ1.out)
          go_wp2_with fail
          refine (HQ1.out _).mono ?_
          rintro e w7 ⟨rfl, b⟩
          obtain ⟨y7, rfl⟩ := Wb.next b
          clear b
          go_wp2
          refine bodyPost_ret (v := .agg #[.int .i64 u1, .int .i64 u2]) (by simp [results, Tryz.results16, go_sem, *]) rfl ⟨by rw [E.out]; rfl, ?_⟩
          repeat' (first | (with_reducible exact KQ2.out _) | (with_reducible refine Below.setCell ?_ ?_ _) | (with_reducible exact PA.out))
        · have nz : (v1 != 0) = true := by simpa using ev
          have E := Lib.hid (show RS = (v1, v2) by rw [CS.out, if_pos ev])
          clear CS HR ev
          go_wp2
          refine bodyPost_ret (v := .agg #[.int .i64 v1, .int .i64 v2]) (by simp [results, Tryz.results16, go_sem, *]) rfl ⟨by rw [E.out]; rfl, ?_⟩
          repeat' (first | (with_reducible exact KQ2.out _) | (with_reducible refine Below.setCell ?_ ?_ _) | (with_reducible exact PA.out))
end Go.Proofs.YtlflknfkenfpiaaGreatDoor
