/-
  Texts of one claim, merged.
-/
import Derived.Test.YtlflknfkenfpiaaGreatDoorE9
set_option linter.unusedSimpArgs false
set_option linter.unusedVariables false
namespace Go.Proofs.YtlflknfkenfpiaaGreatDoor
open Go.RowKit GrN
set_option maxRecDepth 100000 in
set_option maxHeartbeats 25600000 in
theorem rcore_any (rg : Nat) (sp tb : Int) (xc xh : List GrI.I) (TS PL : List Int) (pr : Option Addr) (cr2 : Nat) (px : Option Addr) (nx cx : Nat) (ph : Option Addr) (nh ch : Nat) (pt : Option Addr) (nt ct : Nat) (at_ : Int) (pp : Option Addr) (np cp : Nat) (w : World)
    (hnx : nx = xc.length) (hnh : nh = xh.length) (m1 : nx ≤ 40) (m2 : nh ≤ 40) (x1 : XsAt w px xc) (x2 : XsAt w ph xh) (ht0 : 0 ≤ tb) (ht1 : tb < 18446744073709551616)
    (hnt : nt = TS.length) (hmt : nt ≤ maxLen) (hT : NAt .u64 w pt TS) (hnp : np = PL.length) (hmp : np ≤ maxLen) (hP : NAt .i64 w pp PL) :
    Calls Tryz.prog 20 #[.agg #[.slice pr rg cr2, .int .i64 sp, .int .u64 tb, .slice px nx cx, .slice ph nh ch], .slice pt nt ct, .int .i64 at_, .slice pp np cp] w fun e w' => e = .returned (.tuple #[.int .i64 (coreS encB ⟨rg, sp, tb, xc, xh⟩ TS at_ PL).1, .int .i64 (coreS encB ⟨rg, sp, tb, xc, xh⟩ TS at_ PL).2]) ∧ Below w.heap.size w w' := by
  obtain ⟨RS, hRS⟩ : ∃ r, r = coreS encB ⟨rg, sp, tb, xc, xh⟩ TS at_ PL := ⟨_, rfl⟩
  rw [← hRS]
  have CS := Lib.hid (show RS = (if baseB tb = false then (133, at_) else if decide (tb ∈ TS) = false then (131, at_) else if sp < 0 ∨ 65535 < sp then (1, at_)
  else if 16 < nx then (136, plc PL 16) else if 16 < nh then (136, plc PL (nx + 16))
  else if (ans (firstF (codeF encB xc false) nx) PL).1 ≠ 0 then ans (firstF (codeF encB xc false) nx) PL
  else ansO (firstF (codeF encB xh true) nh) PL nx) by rw [hRS, hnx, hnh]; rfl)
  have AC := Lib.hid (fun (U : World) (b : Below w.heap.size w U) (i : Nat) => at_any PL pp np cp i U hnp (hP.below b) hmp)
  have XC := Lib.hid (fun (U : World) (b : Below w.heap.size w U) => x1.below b)
  have XH := Lib.hid (fun (U : World) (b : Below w.heap.size w U) => x2.below b)
  have XT := Lib.hid (fun (U : World) (b : Below w.heap.size w U) => hT.below b)
  have NX := Lib.hid hnx
  have NH := Lib.hid hnh
  have NT := Lib.hid hnt
  have m1 : (nx : Int) ≤ 40 := by omega
  have m2 : (nh : Int) ≤ 40 := by omega
  have n1 : (0 : Int) ≤ (nx : Int) := by omega
  have n2 : (0 : Int) ≤ (nh : Int) := by omega
  have n3 : (0 : Int) ≤ (nt : Int) := by omega
  have n4 : (nt : Int) ≤ 9223372036854775807 := by unfold maxLen at hmt; omega
  have TM : tb.tmod 4096 = tb % 4096 := Int.tmod_eq_emod_of_nonneg ht0
  clear hRS hnx hnh x1 x2 hnt hmt hT hnp hmp hP
  go_enter Tryz.func20, Tryz.ntmps20
  go_upto_region 1 with fail
  refine to_cls ?_
  intro U0 hU0 y0
  have r_k : ∀ z : Wb U0, Row z.at w.heap.size [.slice pr rg cr2, .int .i64 sp, .int .u64 tb, .slice px nx cx, .slice ph nh ch] 54 := Row.next (Row.new _ [.slice pr rg cr2, .int .i64 sp, .int .u64 tb, .slice px nx cx, .slice ph nh ch] _) hU0
  have KK := Lib.hid (KB.next (KB.alloc (Below.refl w.heap.size w) _) hU0)
  clear hU0
  have d1 := fun z : Wb U0 => (r_k z).cell 1
  have d2 := fun z : Wb U0 => (r_k z).cell 2
  have d3 := fun z : Wb U0 => (r_k z).cell 3
  have d4 := fun z : Wb U0 => (r_k z).cell 4
  simp only [List.getElem?_cons_zero, List.getElem?_cons_succ] at d1 d2 d3 d4
  clear r_k
  obtain ⟨pK, hpK⟩ : ∃ b, b = w.heap.size := ⟨_, rfl⟩
  rw [← hpK] at d1 d2 d3 d4
  simp only [← hpK]
  clear hpK
  cases cb : baseB tb with
  | false =>
    have E := Lib.hid (show RS = (133, at_) by rw [CS.out, if_pos cb])
    have c0 : (tb % 4096 != 0) = true := by simpa [baseB] using cb
    clear CS cb ht0 ht1
    go_wp2
    refine bodyPost_ret (v := .tuple #[.int .i64 133, .int .i64 at_]) (by simp [results, Tryz.results20, go_sem, *]) rfl ⟨by rw [E.out], KK.out _⟩
  | true =>
    have CS := Lib.hid (CS.out.trans (if_neg (by rw [cb]; decide)))
    have c0 : (tb % 4096 != 0) = false := by simpa [baseB] using cb
    clear cb
    have T0 : decide (tb ∈ TS.take 0) = false := by simp
    go_wp2_with fail
    go_loopw [10, 11] (fun kv iv wr => ∃ (i : Nat) (z : Wb U0), i ≤ nt ∧ iv = .int .i64 (i : Int) ∧ kv = .bool (decide (tb ∈ TS.take i)) ∧ wr = z.at) (fun _ iv _ => nt - (intOf iv).toNat)
    case atStart => exact ⟨0, y0, by omega, rfl, by rw [T0], rfl⟩
    case round =>
      obtain ⟨i, z, hi, rfl, rfl, rfl⟩ := hrel
      have i0 : (0 : Int) ≤ (i : Int) := by omega
      by_cases ci : i < nt
      · have l1 : i < TS.length := by have := NT.out; omega
        obtain ⟨a, epp, c1⟩ := XT.out z.at (KK.out z) i l1
        have IL := Lib.hid (show i + 1 ≤ nt by omega)
        have g1 : (i : Int) < (nt : Int) := by omega
        have TK := Lib.hid (show decide (tb ∈ TS.take (i + 1)) = (decide (tb ∈ TS.take i) || (TS[i]'l1 == tb)) by
          rw [take_succ' TS i l1]
          simp only [List.mem_append, List.mem_singleton]
          rw [Bool.decide_or, show (TS[i]'l1 == tb) = decide (tb = TS[i]'l1) by rw [Bool.eq_iff_iff, beq_iff_eq, decide_eq_true_iff]; exact eq_comm])
        obtain ⟨x, hx⟩ : ∃ x, x = TS[i]'l1 := ⟨_, rfl⟩
        rw [← hx] at c1 TK
        have W1 : IntKind.i64.wrap ((i : Int) + 1) = (i : Int) + 1 := IntWalk.i64_in _ ⟨by omega, by omega⟩
        subst epp
        have f1 := fun q : Wb z.at => keep_below q.bel _ _ c1
        have f2 := fun q : Wb z.at => keep_below q.bel _ _ (d2 z)
        obtain ⟨kn, hkn⟩ : ∃ k, k = decide (tb ∈ TS.take i) := ⟨_, rfl⟩
        rw [← hkn] at TK ⊢
        clear hx hi ci l1 c1 hkn
        go_upto_region 7 with fail
        cases kn with
        | true =>
          refine wp_region_wb (by kernel_rfl) (by kernel_rfl) ?_
          repeat (go_big_quiet_step (fail))
          refine wpQuiet_nil ?_
          rintro _ ⟨x1', rfl⟩
          clear f1 f2
          go_wp2_with fail
          go_roundw
          case rel => exact ⟨i + 1, ⟨x1'.at, z.bel.trans (x1'.bel.mono z.size)⟩, IL.out, by go_num, by rw [TK.out]; rfl, rfl⟩
          case measure => have := IL.out; simp [intOf] <;> omega
        | false =>
          obtain ⟨eq, heq⟩ : ∃ b, b = (x == tb) := ⟨_, rfl⟩
          have TK := Lib.hid (show decide (tb ∈ TS.take (i + 1)) = eq by rw [TK.out, heq]; rfl)
          have EQ : decide (x = tb) = eq := by rw [heq, Bool.eq_iff_iff]; simp
          refine wp_region_wb (by kernel_rfl) (by kernel_rfl) ?_
          repeat (go_big_quiet_step (fail))
          refine wpQuiet_nil ?_
          rintro _ ⟨x1', rfl⟩
          clear f1 f2
          go_wp2_with fail
          go_roundw
          case rel => exact ⟨i + 1, ⟨x1'.at, z.bel.trans (x1'.bel.mono z.size)⟩, IL.out, by go_num, by rw [TK.out]; simp [*], rfl⟩
          case measure => have := IL.out; simp [intOf] <;> omega
      · have g1 : ¬ (i : Int) < (nt : Int) := by omega
        have KN : decide (tb ∈ TS.take i) = decide (tb ∈ TS) := by rw [List.take_of_length_le (by have := NT.out; omega)]
        rw [KN]
        clear ci hi KN T0
        cases cd : decide (tb ∈ TS) with
        | false =>
          have E := Lib.hid (show RS = (131, at_) by rw [CS.out, if_pos cd])
          clear CS cd
          go_wp2
          refine bodyPost_ret (v := .tuple #[.int .i64 131, .int .i64 at_]) (by simp [results, Tryz.results20, go_sem, *]) rfl ⟨by rw [E.out], KK.out z⟩
        | true =>
          have CS := Lib.hid (CS.out.trans (if_neg (by rw [cd]; decide)))
          clear cd
          by_cases gs : sp < 0
          · have E := Lib.hid (show RS = (1, at_) by rw [CS.out, if_pos (.inl gs)])
            clear CS
            go_wp2
            refine bodyPost_ret (v := .tuple #[.int .i64 1, .int .i64 at_]) (by simp [results, Tryz.results20, go_sem, *]) rfl ⟨by rw [E.out], KK.out z⟩
          by_cases gt : 65535 < sp
          · have E := Lib.hid (show RS = (1, at_) by rw [CS.out, if_pos (.inr gt)])
            clear CS
            go_wp2
            refine bodyPost_ret (v := .tuple #[.int .i64 1, .int .i64 at_]) (by simp [results, Tryz.results20, go_sem, *]) rfl ⟨by rw [E.out], KK.out z⟩
          have CS := Lib.hid (CS.out.trans (if_neg (by omega)))
          by_cases gc : 16 < nx
          · have gc2 : (16 : Int) < (nx : Int) := by omega
            obtain ⟨pv, hpv⟩ : ∃ v, v = plc PL 16 := ⟨_, rfl⟩
            have AQ := Lib.hid (show Calls Tryz.prog 18 #[.slice pp np cp, .int .i64 16] z.at fun e w' => e = .returned (.int .i64 pv) ∧ z.at = w' from by rw [hpv]; exact AC.out z.at (KK.out z) 16)
            have E := Lib.hid (show RS = (136, pv) by rw [CS.out, if_pos gc, hpv])
            clear CS hpv gc
            go_wp2_with fail
            refine AQ.out.mono ?_
            rintro e w5 ⟨rfl, rfl⟩
            go_wp2
            refine bodyPost_ret (v := .tuple #[.int .i64 136, .int .i64 pv]) (by simp [results, Tryz.results20, go_sem, *]) rfl ⟨by rw [E.out], KK.out z⟩
          have gc2 : ¬ (16 : Int) < (nx : Int) := by omega
          have CS := Lib.hid (CS.out.trans (if_neg gc))
          have nx16 : (nx : Int) ≤ 16 := by omega
          by_cases gh : 16 < nh
          · have gh2 : (16 : Int) < (nh : Int) := by omega
            obtain ⟨pv, hpv⟩ : ∃ v, v = plc PL (nx + 16) := ⟨_, rfl⟩
            have W1 : IntKind.i64.wrap ((nx : Int) + 16) = (nx : Int) + 16 := IntWalk.i64_in _ ⟨by omega, by omega⟩
            have AQ := Lib.hid (show Calls Tryz.prog 18 #[.slice pp np cp, .int .i64 ((nx : Int) + 16)] z.at fun e w' => e = .returned (.int .i64 pv) ∧ z.at = w' from by rw [hpv]; exact AC.out z.at (KK.out z) (nx + 16))
            have E := Lib.hid (show RS = (136, pv) by rw [CS.out, if_pos gh, hpv])
            clear CS hpv gc gh
            go_wp2_with fail
            refine AQ.out.mono ?_
            rintro e w5 ⟨rfl, rfl⟩
            go_wp2
            refine bodyPost_ret (v := .tuple #[.int .i64 136, .int .i64 pv]) (by simp [results, Tryz.results20, go_sem, *]) rfl ⟨by rw [E.out], KK.out z⟩
          have gh2 : ¬ (16 : Int) < (nh : Int) := by omega
          have nh16 : (nh : Int) ≤ 16 := by omega
          have CS := Lib.hid (CS.out.trans (if_neg gh))
          clear gc gh
          go_wp2_with fail
          clear gs gt gh2 gc2
          go_loopw [12] (fun iv wr => ∃ (i : Nat) (z : Wb U0), i ≤ nx ∧ iv = .int .i64 (i : Int) ∧ (∀ j, j < i → codeF encB xc false j = 0) ∧ wr = z.at) (fun iv _ => nx - (intOf iv).toNat)
          case atStart => exact ⟨0, z, by omega, rfl, fun j h => by omega, rfl⟩
          case round =>
            obtain ⟨i, z, hi, rfl, hall, rfl⟩ := hrel
            have HA := Lib.hid hall
            clear hall
            have i0 : (0 : Int) ≤ (i : Int) := by omega
            by_cases ci : i < nx
            · have l1 : i < xc.length := by have := NX.out; omega
              obtain ⟨a, epp, c0, c1, c2, c3, c4, c5⟩ := XC.out z.at (KK.out z) i l1
              have IL := Lib.hid (show i + 1 ≤ nx by omega)
              have IN := Lib.hid ci
              have g1 : (i : Int) < (nx : Int) := by omega
              have CF := Lib.hid (codeF_at encB xc false i l1)
              obtain ⟨x, hx⟩ : ∃ x, x = xc[i]'l1 := ⟨_, rfl⟩
              rw [← hx] at c0 c1 c2 c3 c4 c5 CF
              obtain ⟨op, d, mn, m, imm, kind⟩ := x
              simp only at c0 c1 c2 c3 c4 c5
              obtain ⟨v, hv⟩ : ∃ v, v = instrS (encB ⟨op, d, mn, m, imm, kind⟩) op imm ((nx : Int) - (i : Int)) false := ⟨_, rfl⟩
              have NV := Lib.hid (show codeF encB xc false i = v by rw [CF.out, hv, NX.out])
              have IC := Lib.hid (fun U => show Calls Tryz.prog 36 #[.agg #[.int .i64 op, .int .i64 d, .int .i64 mn, .int .i64 m, .int .i64 imm, .int .i64 kind], .int .i64 ((nx : Int) - (i : Int)), .bool false] U fun e w' => e = .returned (.int .i64 v) ∧ Below U.heap.size U w' from by rw [hv]; exact rinstr_any op d mn m imm kind ((nx : Int) - (i : Int)) false U)
              have W1 : IntKind.i64.wrap ((i : Int) + 1) = (i : Int) + 1 := IntWalk.i64_in _ ⟨by omega, by omega⟩
              have W2 : IntKind.i64.wrap ((nx : Int) - (i : Int)) = (nx : Int) - (i : Int) := IntWalk.i64_in _ ⟨by omega, by omega⟩
              subst epp
              have f0 := fun q : Wb z.at => keep_below q.bel _ _ c0
              have f1 := fun q : Wb z.at => keep_below q.bel _ _ c1
              have f2 := fun q : Wb z.at => keep_below q.bel _ _ c2
              have f3 := fun q : Wb z.at => keep_below q.bel _ _ c3
              have f4 := fun q : Wb z.at => keep_below q.bel _ _ c4
              have f5 := fun q : Wb z.at => keep_below q.bel _ _ c5
              have fk := fun q : Wb z.at => keep_below q.bel _ _ (d3 z)
              clear hx hi ci l1 c0 c1 c2 c3 c4 c5 hv CF
              go_upto_region 19 with fail
              refine wp_region_wb (by kernel_rfl) (by kernel_rfl) ?_
              repeat (go_big_quiet_step ((go_at_call 36; with_reducible exact Calls.wb (x := _) (IC.out _))))
              refine wpQuiet_nil ?_
              rintro _ ⟨x1', rfl⟩
              obtain ⟨z2, hz2⟩ : ∃ z2 : Wb U0, z2.at = x1'.at := ⟨⟨x1'.at, z.bel.trans (x1'.bel.mono z.size)⟩, rfl⟩
              rw [← hz2]
              clear f0 f1 f2 f3 f4 f5 fk hz2 IC
              by_cases ev : v = 0
              · have AL := Lib.hid (show ∀ j, j < i + 1 → codeF encB xc false j = 0 from fun j hj => by
                  rcases Nat.lt_succ_iff_lt_or_eq.1 hj with h | rfl
                  · exact HA.out j h
                  · rw [NV.out, ev])
                subst ev
                clear NV
                go_wp2_with fail
                go_roundw
                case rel => exact ⟨i + 1, z2, IL.out, by go_num, AL.out, rfl⟩
                case measure => have := IL.out; simp [intOf] <;> omega
              · have nz : (v != 0) = true := by simpa using ev
                obtain ⟨pv, hpv⟩ : ∃ v, v = plc PL i := ⟨_, rfl⟩
                have AQ := Lib.hid (show Calls Tryz.prog 18 #[.slice pp np cp, .int .i64 (i : Int)] z2.at fun e w' => e = .returned (.int .i64 pv) ∧ z2.at = w' from by rw [hpv]; exact AC.out z2.at (KK.out z2) i)
                have E := Lib.hid (show RS = (v, pv) by
                  have e1 : firstF (codeF encB xc false) nx = some (i, v) := by rw [first_some IN.out HA.out (by rw [NV.out]; exact ev), NV.out]
                  rw [CS.out, e1, if_pos (by exact ev), hpv]; rfl)
                clear CS hpv ev NV
                go_wp2_with fail
                refine AQ.out.mono ?_
                rintro e w5 ⟨rfl, rfl⟩
                go_wp2
                refine bodyPost_ret (v := .tuple #[.int .i64 v, .int .i64 pv]) (by simp [results, Tryz.results20, go_sem, *]) rfl ⟨by rw [E.out], KK.out z2⟩
            · have g1 : ¬ (i : Int) < (nx : Int) := by omega
              have hin : i = nx := by omega
              clear ci hi i0
              obtain rfl : nx = i := hin.symm
              have CS := Lib.hid (CS.out.trans (if_neg (by rw [first_none HA.out]; simp [ans])))
              clear HA
              go_wp2_with fail
              go_loopw [14] (fun iv wr => ∃ (i : Nat) (z : Wb U0), i ≤ nh ∧ iv = .int .i64 (i : Int) ∧ (∀ j, j < i → codeF encB xh true j = 0) ∧ wr = z.at) (fun iv _ => nh - (intOf iv).toNat)
              case atStart => exact ⟨0, z, by omega, rfl, fun j h => by omega, rfl⟩
              case round =>
                obtain ⟨i, z, hi, rfl, hall, rfl⟩ := hrel
                have HA := Lib.hid hall
                clear hall
                have i0 : (0 : Int) ≤ (i : Int) := by omega
                by_cases ci : i < nh
                · have l1 : i < xh.length := by have := NH.out; omega
                  obtain ⟨a, epp, c0, c1, c2, c3, c4, c5⟩ := XH.out z.at (KK.out z) i l1
                  have IL := Lib.hid (show i + 1 ≤ nh by omega)
                  have IN := Lib.hid ci
                  have g1 : (i : Int) < (nh : Int) := by omega
                  have CF := Lib.hid (codeF_at encB xh true i l1)
                  obtain ⟨x, hx⟩ : ∃ x, x = xh[i]'l1 := ⟨_, rfl⟩
                  rw [← hx] at c0 c1 c2 c3 c4 c5 CF
                  obtain ⟨op, d, mn, m, imm, kind⟩ := x
                  simp only at c0 c1 c2 c3 c4 c5
                  obtain ⟨v, hv⟩ : ∃ v, v = instrS (encB ⟨op, d, mn, m, imm, kind⟩) op imm ((nh : Int) - (i : Int)) true := ⟨_, rfl⟩
                  have NV := Lib.hid (show codeF encB xh true i = v by rw [CF.out, hv, NH.out])
                  have IC := Lib.hid (fun U => show Calls Tryz.prog 36 #[.agg #[.int .i64 op, .int .i64 d, .int .i64 mn, .int .i64 m, .int .i64 imm, .int .i64 kind], .int .i64 ((nh : Int) - (i : Int)), .bool true] U fun e w' => e = .returned (.int .i64 v) ∧ Below U.heap.size U w' from by rw [hv]; exact rinstr_any op d mn m imm kind ((nh : Int) - (i : Int)) true U)
                  have W1 : IntKind.i64.wrap ((i : Int) + 1) = (i : Int) + 1 := IntWalk.i64_in _ ⟨by omega, by omega⟩
                  have W2 : IntKind.i64.wrap ((nh : Int) - (i : Int)) = (nh : Int) - (i : Int) := IntWalk.i64_in _ ⟨by omega, by omega⟩
                  subst epp
                  have f0 := fun q : Wb z.at => keep_below q.bel _ _ c0
                  have f1 := fun q : Wb z.at => keep_below q.bel _ _ c1
                  have f2 := fun q : Wb z.at => keep_below q.bel _ _ c2
                  have f3 := fun q : Wb z.at => keep_below q.bel _ _ c3
                  have f4 := fun q : Wb z.at => keep_below q.bel _ _ c4
                  have f5 := fun q : Wb z.at => keep_below q.bel _ _ c5
                  have fk := fun q : Wb z.at => keep_below q.bel _ _ (d4 z)
                  clear hx hi ci l1 c0 c1 c2 c3 c4 c5 hv CF
                  go_upto_region 25 with fail
                  refine wp_region_wb (by kernel_rfl) (by kernel_rfl) ?_
                  repeat (go_big_quiet_step ((go_at_call 36; with_reducible exact Calls.wb (x := _) (IC.out _))))
                  refine wpQuiet_nil ?_
                  rintro _ ⟨x1', rfl⟩
                  obtain ⟨z2, hz2⟩ : ∃ z2 : Wb U0, z2.at = x1'.at := ⟨⟨x1'.at, z.bel.trans (x1'.bel.mono z.size)⟩, rfl⟩
                  rw [← hz2]
                  clear f0 f1 f2 f3 f4 f5 fk hz2 IC
                  by_cases ev : v = 0
                  · have AL := Lib.hid (show ∀ j, j < i + 1 → codeF encB xh true j = 0 from fun j hj => by
                      rcases Nat.lt_succ_iff_lt_or_eq.1 hj with h | rfl
                      · exact HA.out j h
                      · rw [NV.out, ev])
                    subst ev
                    clear NV
                    go_wp2_with fail
                    go_roundw
                    case rel => exact ⟨i + 1, z2, IL.out, by go_num, AL.out, rfl⟩
                    case measure => have := IL.out; simp [intOf] <;> omega
                  · have nz : (v != 0) = true := by simpa using ev
                    obtain ⟨pv, hpv⟩ : ∃ v, v = plc PL (nx + i) := ⟨_, rfl⟩
                    have W3 : IntKind.i64.wrap ((nx : Int) + (i : Int)) = (nx : Int) + (i : Int) := IntWalk.i64_in _ ⟨by omega, by omega⟩
                    have AQ := Lib.hid (show Calls Tryz.prog 18 #[.slice pp np cp, .int .i64 ((nx : Int) + (i : Int))] z2.at fun e w' => e = .returned (.int .i64 pv) ∧ z2.at = w' from by rw [hpv]; exact AC.out z2.at (KK.out z2) (nx + i))
                    have E := Lib.hid (show RS = (v, pv) by
                      have e1 : firstF (codeF encB xh true) nh = some (i, v) := by rw [first_some IN.out HA.out (by rw [NV.out]; exact ev), NV.out]
                      rw [CS.out, e1, hpv]; rfl)
                    clear CS hpv ev NV
                    go_wp2_with fail
                    refine AQ.out.mono ?_
                    rintro e w5 ⟨rfl, rfl⟩
                    go_wp2
                    refine bodyPost_ret (v := .tuple #[.int .i64 v, .int .i64 pv]) (by simp [results, Tryz.results20, go_sem, *]) rfl ⟨by rw [E.out], KK.out z2⟩
                · have g1 : ¬ (i : Int) < (nh : Int) := by omega
                  have hin : i = nh := by omega
                  subst hin
                  clear ci hi i0
                  have E := Lib.hid (show RS = (0, 0) by rw [CS.out, first_none HA.out]; rfl)
                  clear CS HA
                  go_wp2
                  refine bodyPost_ret (v := .tuple #[.int .i64 0, .int .i64 0]) (by simp [results, Tryz.results20, go_sem, *]) rfl ⟨by rw [E.out], KK.out z⟩
end Go.Proofs.YtlflknfkenfpiaaGreatDoor
namespace Go.Proofs.YtlflknfkenfpiaaGreatDoor
open Go.RowKit GrN
set_option maxRecDepth 100000 in
set_option maxHeartbeats 25600000 in
theorem rcheck_all (TS PT : List Int) (Cs : List (Int × Int)) (PC : List Int) (Ks : List GrN.K) (PK : List Int) (PI : List (List Int)) (rc : Int) (nm : ByteArray) (pc : Option Addr) (nc cc : Nat) (pk : Option Addr) (nk ck : Nat) (fa : Bool) (ck0 cco cr cad cva : Int) (pg : Option Addr) (ng cg : Nat) (pt : Option Addr) (nt ct : Nat) (qt : Option Addr) (lt dt : Nat) (qc : Option Addr) (lc dc : Nat) (qk : Option Addr) (lk dk : Nat) (qi : Option Addr) (li di : Nat) (qa : Int) (qz : Int) (w : World)
    (hnt : nt = TS.length) (hmt : nt ≤ 1000000) (hbt : ∀ x ∈ TS, 0 ≤ x ∧ x < 18446744073709551616) (hT : NAt .u64 w pt TS) (hlt : lt = PT.length) (hmlt : lt ≤ maxLen) (hPT : NAt .i64 w qt PT)
    (hnc : nc = Cs.length) (hmc : nc ≤ 1000000) (hbc : ∀ x ∈ Cs, 0 ≤ x.1 ∧ x.1 < 18446744073709551616) (hC : DsAt w pc Cs) (hlc : lc = PC.length) (hmlc : lc ≤ maxLen) (hPC : NAt .i64 w qc PC)
    (hnk : nk = Ks.length) (hm : nk ≤ 6) (hK : KsAt w pk Ks) (hc : ∀ c ∈ Ks, smallK c ∧ 0 ≤ c.tab ∧ c.tab < 18446744073709551616)
    (hlk : lk = PK.length) (hmk : lk ≤ maxLen) (hPK : NAt .i64 w qk PK) (hli : li = PI.length) (hmi : li ≤ maxLen) (hPI : PsAt w qi PI)
    (hR : ∀ U, Below w.heap.size w U → Calls Tryz.prog 21 #[.agg #[.int .i64 ck0, .int .i64 cco, .int .i64 cr, .int .u64 cad, .int .u64 cva, .slice pg ng cg], .int .i64 (nk : Int)] U fun e w' => e = .returned (.int .i64 rc) ∧ Below U.heap.size U w') :
    Calls Tryz.prog 7 #[.agg #[.string nm, .slice pc nc cc, .slice pk nk ck, .bool fa, .int .i64 ck0, .int .i64 cco, .int .i64 cr, .int .u64 cad, .int .u64 cva, .slice pg ng cg, .slice pt nt ct, .slice qt lt dt, .slice qc lc dc, .slice qk lk dk, .slice qi li di, .int .i64 qa, .int .i64 qz]] w fun e w' => e = .returned (.tuple #[.int .i64 (checkS (ans (firstF (tabF TS) TS.length) PT) (cellsA Cs PC) nk (plc PK 4) (coreF encB Ks TS PK PI) (EventsS Ks) (plc PK 0) rc qa).1, .int .i64 (checkS (ans (firstF (tabF TS) TS.length) PT) (cellsA Cs PC) nk (plc PK 4) (coreF encB Ks TS PK PI) (EventsS Ks) (plc PK 0) rc qa).2]) ∧ Below w.heap.size w w' := by
  obtain ⟨RS, hRS⟩ : ∃ r, r = checkS (ans (firstF (tabF TS) TS.length) PT) (cellsA Cs PC) nk (plc PK 4) (coreF encB Ks TS PK PI) (EventsS Ks) (plc PK 0) rc qa := ⟨_, rfl⟩
  rw [← hRS]
  have mt : nt ≤ maxLen := by unfold maxLen; omega
  have APT := Lib.hid (fun (U : World) (b : Below w.heap.size w U) (i : Nat) => at_any PT qt lt dt i U hlt (hPT.below b) hmlt)
  have APC := Lib.hid (fun (U : World) (b : Below w.heap.size w U) (i : Nat) => at_any PC qc lc dc i U hlc (hPC.below b) hmlc)
  have APK := Lib.hid (fun (U : World) (b : Below w.heap.size w U) (i : Nat) => at_any PK qk lk dk i U hlk (hPK.below b) hmk)
  have XT := Lib.hid (fun (U : World) (b : Below w.heap.size w U) => hT.below b)
  have XD := Lib.hid (fun (U : World) (b : Below w.heap.size w U) => hC.below b)
  have XK := Lib.hid (fun (U : World) (b : Below w.heap.size w U) => hK.below b)
  have XI := Lib.hid (fun (U : World) (b : Below w.heap.size w U) => hPI.below b)
  have RK := Lib.hid (fun (U : World) (b : Below w.heap.size w U) (rg : Nat) (sp tb : Int) (xc xh : List GrI.I) (PL : List Int) (pr : Option Addr) (cr2 : Nat) (px : Option Addr) (cx : Nat) (ph : Option Addr) (ch : Nat) (at_ : Int) (pp : Option Addr) (np cp : Nat) (m1 : xc.length ≤ 40) (m2 : xh.length ≤ 40) (x1 : XsAt U px xc) (x2 : XsAt U ph xh) (ht0 : 0 ≤ tb) (ht1 : tb < 18446744073709551616) (hnp : np = PL.length) (hmp : np ≤ maxLen) (hP : NAt .i64 U pp PL) =>
    rcore_any rg sp tb xc xh TS PL pr cr2 px xc.length cx ph xh.length ch pt nt ct at_ pp np cp U rfl rfl m1 m2 x1 x2 ht0 ht1 hnt mt (hT.below b) hnp hmp hP)
  have EC := Lib.hid (fun (U : World) (b : Below w.heap.size w U) => revents_any Ks nm pc nc cc pk nk ck fa ck0 cco cr cad cva pg ng cg U hnk hm (hK.below b) (fun c h => (hc c h).1))
  have RC := Lib.hid hR
  have HBT := Lib.hid hbt
  have HBC := Lib.hid hbc
  have HBK := Lib.hid hc
  have NT := Lib.hid hnt
  have NC := Lib.hid hnc
  have NK := Lib.hid hnk
  have LI := Lib.hid hli
  have LM := Lib.hid hmi
  have E0 := Lib.hid (show RS = checkS (ans (firstF (tabF TS) nt) PT) (cellsA Cs PC) nk (plc PK 4) (coreF encB Ks TS PK PI) (EventsS Ks) (plc PK 0) rc qa by rw [hRS, hnt])
  obtain ⟨ev, hev⟩ : ∃ x, x = EventsS Ks := ⟨_, rfl⟩
  rw [← hev] at EC E0
  have k6 : (nk : Int) ≤ 6 := by omega
  have k0 : (0 : Int) ≤ (nk : Int) := by omega
  have t9 : (nt : Int) ≤ 1000000 := by omega
  have t0 : (0 : Int) ≤ (nt : Int) := by omega
  have c9 : (nc : Int) ≤ 1000000 := by omega
  have c0 : (0 : Int) ≤ (nc : Int) := by omega
  have l0 : (0 : Int) ≤ (li : Int) := by omega
  have l9 : (li : Int) ≤ 9223372036854775807 := by unfold maxLen at hmi; omega
  clear hnt hmt hbt hT hlt hmlt hPT hnc hmc hbc hC hlc hmlc hPC hnk hm hK hc hlk hmk hPK hli hmi hPI hR hev hRS mt
  go_enter Tryz.func7, Tryz.ntmps7
  go_upto_region 1 with fail
  refine to_cls ?_
  intro U0 hU0 y0
  have RS0 := Lib.hid (show ∀ z : Wb U0, Row z.at w.heap.size [.string nm, .slice pc nc cc, .slice pk nk ck, .bool fa, .int .i64 ck0, .int .i64 cco, .int .i64 cr, .int .u64 cad, .int .u64 cva, .slice pg ng cg, .slice pt nt ct, .slice qt lt dt, .slice qc lc dc, .slice qk lk dk, .slice qi li di, .int .i64 qa, .int .i64 qz] 46 from Row.next (Row.new _ [.string nm, .slice pc nc cc, .slice pk nk ck, .bool fa, .int .i64 ck0, .int .i64 cco, .int .i64 cr, .int .u64 cad, .int .u64 cva, .slice pg ng cg, .slice pt nt ct, .slice qt lt dt, .slice qc lc dc, .slice qk lk dk, .slice qi li di, .int .i64 qa, .int .i64 qz] _) hU0)
  have KK := Lib.hid (KB.next (KB.alloc (Below.refl w.heap.size w) _) hU0)
  clear hU0
  obtain ⟨pS, hpS⟩ : ∃ b, b = w.heap.size := ⟨_, rfl⟩
  rw [← hpS] at RS0
  simp only [← hpS]
  clear hpS
  have s1 := fun z : Wb U0 => (RS0.out z).cell 1
  have s2 := fun z : Wb U0 => (RS0.out z).cell 2
  have s10 := fun z : Wb U0 => (RS0.out z).cell 10
  have s11 := fun z : Wb U0 => (RS0.out z).cell 11
  have s12 := fun z : Wb U0 => (RS0.out z).cell 12
  have s13 := fun z : Wb U0 => (RS0.out z).cell 13
  have s14 := fun z : Wb U0 => (RS0.out z).cell 14
  have s15 := fun z : Wb U0 => (RS0.out z).cell 15
  simp only [List.getElem?_cons_zero, List.getElem?_cons_succ] at s1 s2 s10 s11 s12 s13 s14 s15
  go_wp2_with fail
  go_loopw [4] (fun iv wr => ∃ (i : Nat) (z : Wb U0), i ≤ nt ∧ iv = .int .i64 (i : Int) ∧ (∀ j, j < i → tabF TS j = 0) ∧ wr = z.at) (fun iv _ => nt - (intOf iv).toNat)
  case atStart => exact ⟨0, y0, by omega, rfl, fun j h => by omega, rfl⟩
  case round =>
    obtain ⟨i, z, hi, rfl, hall, rfl⟩ := hrel
    have HA := Lib.hid hall
    clear hall
    have i0 : (0 : Int) ≤ (i : Int) := by omega
    by_cases ci : i < nt
    · have l1 : i < TS.length := by have := NT.out; omega
      obtain ⟨a, epp, q1⟩ := XT.out z.at (KK.out z) i l1
      have IL := Lib.hid (show i + 1 ≤ nt by omega)
      have IN := Lib.hid ci
      have IT := Lib.hid l1
      have g1 : (i : Int) < (nt : Int) := by omega
      have TF := Lib.hid (tabF_at TS i l1)
      have BD := HBT.out _ (List.getElem_mem l1)
      obtain ⟨x, hx⟩ : ∃ x, x = TS[i]'l1 := ⟨_, rfl⟩
      rw [← hx] at q1 TF BD
      obtain ⟨b0, b1⟩ := BD
      have TM : x.tmod 4096 = x % 4096 := Int.tmod_eq_emod_of_nonneg b0
      have W1 : IntKind.i64.wrap ((i : Int) + 1) = (i : Int) + 1 := IntWalk.i64_in _ ⟨by omega, by omega⟩
      have ST := Lib.hid (show ∀ v, v ≠ 0 → tabF TS i = v → RS = (v, plc PT i) from fun v h1 h2 => by
        rw [E0.out, first_some IN.out HA.out (by rw [h2]; exact h1), h2]
        rw [checkS, ans, if_pos h1])
      subst epp
      clear hx hi ci l1
      obtain ⟨pv, hpv⟩ : ∃ v, v = plc PT i := ⟨_, rfl⟩
      have AQ := Lib.hid (show Calls Tryz.prog 18 #[.slice qt lt dt, .int .i64 (i : Int)] z.at fun e w' => e = .returned (.int .i64 pv) ∧ z.at = w' from by rw [hpv]; exact APT.out z.at (KK.out z) i)
      cases cb : baseB x with
      | false =>
        have e0 : (x % 4096 != 0) = true := by simpa [baseB] using cb
        have E := Lib.hid (show RS = (133, pv) by rw [ST.out 133 (by decide) (by rw [TF.out, if_pos (.inl cb)]), hpv])
        clear E0 ST TF cb b0 b1 hpv
        go_wp2_with fail
        refine AQ.out.mono ?_
        rintro e w5 ⟨rfl, rfl⟩
        go_wp2
        refine bodyPost_ret (v := .tuple #[.int .i64 133, .int .i64 pv]) (by simp [results, Tryz.results7, go_sem, *]) rfl ⟨by rw [E.out], KK.out z⟩
      | true =>
        have e0 : (x % 4096 != 0) = false := by simpa [baseB] using cb
        by_cases gx : 4294967296 ≤ x
        · have E := Lib.hid (show RS = (133, pv) by rw [ST.out 133 (by decide) (by rw [TF.out, if_pos (.inr gx)]), hpv])
          clear E0 ST TF cb b0 b1 hpv
          go_wp2_with fail
          refine AQ.out.mono ?_
          rintro e w5 ⟨rfl, rfl⟩
          go_wp2
          refine bodyPost_ret (v := .tuple #[.int .i64 133, .int .i64 pv]) (by simp [results, Tryz.results7, go_sem, *]) rfl ⟨by rw [E.out], KK.out z⟩
        have TF := Lib.hid (TF.out.trans (if_neg (by rw [cb]; simp; omega)))
        clear cb
        go_wp2_with fail
        clear q1
        go_loopw [6] (fun kv wr => ∃ (k : Nat) (z : Wb U0), k ≤ i ∧ kv = .int .i64 (k : Int) ∧ (∀ j, (h : j < TS.length) → j < k → TS[j]'h ≠ x) ∧ wr = z.at) (fun kv _ => i - (intOf kv).toNat)
        case atStart => exact ⟨0, z, by omega, rfl, fun j _ h => by omega, rfl⟩
        case round =>
          clear AQ hpv pv
          obtain ⟨k, z, hk, rfl, hno, rfl⟩ := hrel
          have HN := Lib.hid hno
          clear hno
          have k0' : (0 : Int) ≤ (k : Int) := by omega
          by_cases ck' : k < i
          · have l2 : k < TS.length := by have := IT.out; omega
            obtain ⟨a2, epp, q2⟩ := XT.out z.at (KK.out z) k l2
            simp only [Option.some.injEq] at epp
            subst epp
            have KL := Lib.hid (show k + 1 ≤ i by omega)
            have g2 : (k : Int) < (i : Int) := by omega
            have g3 : (k : Int) < (nt : Int) := by omega
            have W2 : IntKind.i64.wrap ((k : Int) + 1) = (k : Int) + 1 := IntWalk.i64_in _ ⟨by omega, by omega⟩
            obtain ⟨x2, hx2⟩ : ∃ x, x = TS[k]'l2 := ⟨_, rfl⟩
            rw [← hx2] at q2
            have HX2 := Lib.hid hx2
            by_cases ex : x2 = x
            · have ME := Lib.hid (show x ∈ TS.take i from by
                rw [← ex, HX2.out]
                exact List.mem_iff_getElem.2 ⟨k, by rw [List.length_take]; have := IT.out; omega, by rw [List.getElem_take]⟩)
              have ex' : decide (x2 = x) = true := by simpa using ex
              have ex2 : (x2 == x) = true := by simpa using ex
              obtain ⟨pv, hpv⟩ : ∃ v, v = plc PT i := ⟨_, rfl⟩
              have AQ := Lib.hid (show Calls Tryz.prog 18 #[.slice qt lt dt, .int .i64 (i : Int)] z.at fun e w' => e = .returned (.int .i64 pv) ∧ z.at = w' from by rw [hpv]; exact APT.out z.at (KK.out z) i)
              have E := Lib.hid (show RS = (132, pv) by rw [ST.out 132 (by decide) (by rw [TF.out, if_pos ME.out]), hpv])
              clear E0 ST TF b0 b1 hpv hx2 hk ck' gx ex ex'
              go_wp2_with fail
              refine AQ.out.mono ?_
              rintro e w5 ⟨rfl, rfl⟩
              go_wp2
              refine bodyPost_ret (v := .tuple #[.int .i64 132, .int .i64 pv]) (by simp [results, Tryz.results7, go_sem, *]) rfl ⟨by rw [E.out], KK.out z⟩
            · have ex' : decide (x2 = x) = false := by simpa using ex
              have ex2 : (x2 == x) = false := by simpa using ex
              have HM := Lib.hid (show ∀ j, (h : j < TS.length) → j < k + 1 → TS[j]'h ≠ x from fun j h hj => by
                by_cases e : j = k
                · subst e
                  rw [← HX2.out]
                  exact ex
                · exact HN.out j h (by omega))
              clear hx2 hk ck' gx ex
              go_wp2_with fail
              go_roundw
              case rel => exact ⟨k + 1, z, KL.out, by go_num, HM.out, rfl⟩
              case measure => have := KL.out; simp [intOf] <;> omega
          · obtain rfl : i = k := by omega
            have g2 : ¬ (i : Int) < (i : Int) := by omega
            have T0 := Lib.hid (show tabF TS i = 0 by
              rw [TF.out, if_neg (fun hm => by
                obtain ⟨j, hj, e⟩ := List.mem_iff_getElem.1 hm
                rw [List.length_take] at hj
                rw [List.getElem_take] at e
                exact HN.out j (by omega) (by omega) e)])
            have AL := Lib.hid (show ∀ j, j < i + 1 → tabF TS j = 0 from fun j hj => by
              rcases Nat.lt_succ_iff_lt_or_eq.1 hj with h | rfl
              · exact HA.out j h
              · exact T0.out)
            clear hk ck' gx
            go_wp2_with fail
            go_roundw
            case rel => exact ⟨i + 1, z, IL.out, by go_num, AL.out, rfl⟩
            case measure => have := IL.out; simp [intOf] <;> omega
    · have g1 : ¬ (i : Int) < (nt : Int) := by omega
      obtain rfl : nt = i := by omega
      have E0 := Lib.hid (show RS = checkS (0, 0) (cellsA Cs PC) nk (plc PK 4) (coreF encB Ks TS PK PI) ev (plc PK 0) rc qa by rw [E0.out, first_none HA.out]; rfl)
      clear ci hi i0 HA
      by_cases gl : 192 < nc
      · have gl2 : (192 : Int) < (nc : Int) := by omega
        obtain ⟨pv, hpv⟩ : ∃ v, v = plc PC 192 := ⟨_, rfl⟩
        have AQ := Lib.hid (show Calls Tryz.prog 18 #[.slice qc lc dc, .int .i64 192] z.at fun e w' => e = .returned (.int .i64 pv) ∧ z.at = w' from by rw [hpv]; exact APC.out z.at (KK.out z) 192)
        have E := Lib.hid (show RS = (2, pv) by
          rw [E0.out, cellsA, if_pos (by have := NC.out; omega), hpv]
          rfl)
        clear E0 gl hpv
        go_wp2_with fail
        refine AQ.out.mono ?_
        rintro e w5 ⟨rfl, rfl⟩
        go_wp2
        refine bodyPost_ret (v := .tuple #[.int .i64 2, .int .i64 pv]) (by simp [results, Tryz.results7, go_sem, *]) rfl ⟨by rw [E.out], KK.out z⟩
      have gl2 : ¬ (192 : Int) < (nc : Int) := by omega
      have E0 := Lib.hid (show RS = checkS (0, 0) (ans (firstF (cellF Cs) nc) PC) nk (plc PK 4) (coreF encB Ks TS PK PI) ev (plc PK 0) rc qa by rw [E0.out, cellsA, if_neg (by have := NC.out; omega), NC.out])
      clear gl
      go_wp2_with fail
      clear gl2 g1
      go_loopw [7] (fun iv wr => ∃ (i : Nat) (z : Wb U0), i ≤ nc ∧ iv = .int .i64 (i : Int) ∧ (∀ j, j < i → cellF Cs j = 0) ∧ wr = z.at) (fun iv _ => nc - (intOf iv).toNat)
      case atStart => exact ⟨0, z, by omega, rfl, fun j h => by omega, rfl⟩
      case round =>
        obtain ⟨i, z, hi, rfl, hall, rfl⟩ := hrel
        have HA := Lib.hid hall
        clear hall
        have i0 : (0 : Int) ≤ (i : Int) := by omega
        by_cases ci : i < nc
        · have l1 : i < Cs.length := by have := NC.out; omega
          obtain ⟨a, epp, q1, q9⟩ := XD.out z.at (KK.out z) i l1
          clear q9
          have IL := Lib.hid (show i + 1 ≤ nc by omega)
          have IN := Lib.hid ci
          have IT := Lib.hid l1
          have g1 : (i : Int) < (nc : Int) := by omega
          have TF := Lib.hid (cellF_at Cs i l1)
          have BD := HBC.out _ (List.getElem_mem l1)
          obtain ⟨xx, hx⟩ : ∃ x, x = Cs[i]'l1 := ⟨_, rfl⟩
          rw [← hx] at q1 TF BD
          have HX := Lib.hid hx
          obtain ⟨x, x9⟩ := xx
          simp only at q1 TF BD
          obtain ⟨b0, b1⟩ := BD
          have W1 : IntKind.i64.wrap ((i : Int) + 1) = (i : Int) + 1 := IntWalk.i64_in _ ⟨by omega, by omega⟩
          have ST := Lib.hid (show ∀ v, v ≠ 0 → cellF Cs i = v → RS = (v, plc PC i) from fun v h1 h2 => by
            rw [E0.out, first_some IN.out HA.out (by rw [h2]; exact h1), h2]
            rw [checkS, ans, if_neg (by simp), if_pos h1])
          subst epp
          clear hx hi ci
          have CA := Lib.hid (fun U => rcheck_any x U b0 b1)
          obtain ⟨v, hv⟩ : ∃ v, v = codeA x := ⟨_, rfl⟩
          rw [← hv] at CA TF
          obtain ⟨pv, hpv⟩ : ∃ v, v = plc PC i := ⟨_, rfl⟩
          have AQ := Lib.hid (show Calls Tryz.prog 18 #[.slice qc lc dc, .int .i64 (i : Int)] z.at fun e w' => e = .returned (.int .i64 pv) ∧ z.at = w' from by rw [hpv]; exact APC.out z.at (KK.out z) i)
          go_wp2_with fail
          refine (CA.out _).mono ?_
          rintro e w4 ⟨rfl, rfl⟩
          by_cases cv : ¬ v = 0
          · have nz : (v != 0) = true := by simpa using cv
            have E := Lib.hid (show RS = (v, pv) by rw [ST.out v cv (by rw [TF.out, if_pos cv]), hpv])
            clear E0 ST TF cv b0 b1 hpv hv
            clear q1
            go_wp2_with fail
            refine AQ.out.mono ?_
            rintro e w5 ⟨rfl, rfl⟩
            go_wp2
            refine bodyPost_ret (v := .tuple #[.int .i64 v, .int .i64 pv]) (by simp [results, Tryz.results7, go_sem, *]) rfl ⟨by rw [E.out], KK.out z⟩
          have cv := Decidable.not_not.1 cv
          have TG := Lib.hid (TF.out.trans (if_neg (by simp [cv])))
          clear TF
          clear hv
          subst cv
          go_wp2_with fail
          clear q1
          go_loopw [9] (fun kv wr => ∃ (k : Nat) (z : Wb U0), k ≤ i ∧ kv = .int .i64 (k : Int) ∧ (∀ j, (h : j < Cs.length) → j < k → (Cs[j]'h).1 ≠ x) ∧ wr = z.at) (fun kv _ => i - (intOf kv).toNat)
          case atStart => exact ⟨0, z, by omega, rfl, fun j _ h => by omega, rfl⟩
          case round =>
            clear AQ hpv pv
            obtain ⟨k, z, hk, rfl, hno, rfl⟩ := hrel
            have HN := Lib.hid hno
            clear hno
            have k0' : (0 : Int) ≤ (k : Int) := by omega
            by_cases ck' : k < i
            · have l2 : k < Cs.length := by have := IT.out; omega
              obtain ⟨a2, epp, q2, q9⟩ := XD.out z.at (KK.out z) k l2
              obtain ⟨a3, epp3, q3, q8⟩ := XD.out z.at (KK.out z) i IT.out
              clear q9 q8
              simp only [Option.some.injEq] at epp epp3
              subst epp
              subst epp3
              have KL := Lib.hid (show k + 1 ≤ i by omega)
              have g2 : (k : Int) < (i : Int) := by omega
              have g3 : (k : Int) < (nc : Int) := by omega
              have W2 : IntKind.i64.wrap ((k : Int) + 1) = (k : Int) + 1 := IntWalk.i64_in _ ⟨by omega, by omega⟩
              rw [← HX.out] at q3
              obtain ⟨y2, hx2⟩ : ∃ x, x = Cs[k]'l2 := ⟨_, rfl⟩
              rw [← hx2] at q2
              have HX2 := Lib.hid hx2
              obtain ⟨x2, x8⟩ := y2
              simp only at q2 q3
              have q2' := fun q : Wb z.at => keep_below q.bel _ _ q2
              have q3' := fun q : Wb z.at => keep_below q.bel _ _ q3
              have s1' := fun q : Wb z.at => keep_below q.bel _ _ (s1 z)
              obtain ⟨eb, heb⟩ : ∃ b, b = decide (x2 = x) := ⟨_, rfl⟩
              have EB := Lib.hid heb
              have eb2 : (x2 == x) = eb := by rw [heb, Bool.eq_iff_iff, beq_iff_eq, decide_eq_true_iff]
              have eb3 : decide (x2 = x) = eb := heb.symm
              clear hx2 hk ck' q2 q3 heb
              go_upto_region 23 with fail
              refine wp_region_wb (by kernel_rfl) (by kernel_rfl) ?_
              repeat (go_big_quiet_step (fail))
              refine wpQuiet_nil ?_
              rintro _ ⟨x1', rfl⟩
              obtain ⟨z2, hz2⟩ : ∃ z2 : Wb U0, z2.at = x1'.at := ⟨⟨x1'.at, z.bel.trans (x1'.bel.mono z.size)⟩, rfl⟩
              rw [← hz2]
              clear q2' q3' s1' hz2 eb2 eb3
              cases eb with
              | true =>
                have ex : x2 = x := by simpa using EB.out.symm
                have ME := Lib.hid (show x ∈ (Cs.take i).map Prod.fst from by
                  rw [← ex]
                  exact List.mem_map.2 ⟨Cs[k]'l2, List.mem_iff_getElem.2 ⟨k, by rw [List.length_take]; have := IT.out; have := KL.out; omega, by rw [List.getElem_take]⟩, by rw [← HX2.out]⟩)
                obtain ⟨pv, hpv⟩ : ∃ v, v = plc PC i := ⟨_, rfl⟩
                have AQ := Lib.hid (show Calls Tryz.prog 18 #[.slice qc lc dc, .int .i64 (i : Int)] z2.at fun e w' => e = .returned (.int .i64 pv) ∧ z2.at = w' from by rw [hpv]; exact APC.out z2.at (KK.out z2) i)
                have E := Lib.hid (show RS = (130, pv) by rw [ST.out 130 (by decide) (by rw [TG.out, if_pos ME.out]), hpv])
                clear E0 ST TG b0 b1 hpv ex
                go_wp2_with fail
                refine AQ.out.mono ?_
                rintro e w5 ⟨rfl, rfl⟩
                go_wp2
                refine bodyPost_ret (v := .tuple #[.int .i64 130, .int .i64 pv]) (by simp [results, Tryz.results7, go_sem, *]) rfl ⟨by rw [E.out], KK.out z2⟩
              | false =>
                have ex : ¬ x2 = x := by simpa using EB.out.symm
                have HM := Lib.hid (show ∀ j, (h : j < Cs.length) → j < k + 1 → (Cs[j]'h).1 ≠ x from fun j h hj => by
                  by_cases e : j = k
                  · subst e
                    rw [← HX2.out]
                    exact ex
                  · exact HN.out j h (by omega))
                clear ex
                go_wp2_with fail
                go_roundw
                case rel => exact ⟨k + 1, z2, KL.out, by go_num, HM.out, rfl⟩
                case measure => have := KL.out; simp [intOf] <;> omega
            · obtain rfl : i = k := by omega
              have g2 : ¬ (i : Int) < (i : Int) := by omega
              have T0 := Lib.hid (show cellF Cs i = 0 by
                rw [TG.out, if_neg (fun hm => by
                  obtain ⟨c, hc1, hc2⟩ := List.mem_map.1 hm
                  obtain ⟨j, hj, e⟩ := List.mem_iff_getElem.1 hc1
                  rw [List.length_take] at hj
                  rw [List.getElem_take] at e
                  exact HN.out j (by omega) (by omega) (by rw [e]; exact hc2))])
              have AL := Lib.hid (show ∀ j, j < i + 1 → cellF Cs j = 0 from fun j hj => by
                rcases Nat.lt_succ_iff_lt_or_eq.1 hj with h | rfl
                · exact HA.out j h
                · exact T0.out)
              clear hk ck'
              go_wp2_with fail
              go_roundw
              case rel => exact ⟨i + 1, z, IL.out, by go_num, AL.out, rfl⟩
              case measure => have := IL.out; simp [intOf] <;> omega
        · have g1 : ¬ (i : Int) < (nc : Int) := by omega
          obtain rfl : nc = i := by omega
          have E0 := Lib.hid (show RS = checkS (0, 0) (0, 0) nk (plc PK 4) (coreF encB Ks TS PK PI) ev (plc PK 0) rc qa by rw [E0.out, first_none HA.out]; rfl)
          clear ci hi i0 HA
          by_cases gz : nk = 0 ∨ 4 < nk
          · have gz1 : (nk : Int) < 1 ∨ ¬ (nk : Int) < 1 := by omega
            obtain ⟨pv, hpv⟩ : ∃ v, v = plc PK 4 := ⟨_, rfl⟩
            have AQ := Lib.hid (show Calls Tryz.prog 18 #[.slice qk lk dk, .int .i64 4] z.at fun e w' => e = .returned (.int .i64 pv) ∧ z.at = w' from by rw [hpv]; exact APK.out z.at (KK.out z) 4)
            have E := Lib.hid (show RS = (135, pv) by rw [E0.out, checkS, if_neg (by simp), if_neg (by simp), if_pos gz, hpv])
            clear E0 hpv
            rcases gz1 with gz1 | gz1
            · clear gz
              go_wp2_with fail
              refine AQ.out.mono ?_
              rintro e w5 ⟨rfl, rfl⟩
              go_wp2
              refine bodyPost_ret (v := .tuple #[.int .i64 135, .int .i64 pv]) (by simp [results, Tryz.results7, go_sem, *]) rfl ⟨by rw [E.out], KK.out z⟩
            · have gz2 : (4 : Int) < (nk : Int) := by omega
              clear gz
              go_wp2_with fail
              refine AQ.out.mono ?_
              rintro e w5 ⟨rfl, rfl⟩
              go_wp2
              refine bodyPost_ret (v := .tuple #[.int .i64 135, .int .i64 pv]) (by simp [results, Tryz.results7, go_sem, *]) rfl ⟨by rw [E.out], KK.out z⟩
          have gz1 : ¬ (nk : Int) < 1 := by omega
          have gz2 : ¬ (4 : Int) < (nk : Int) := by omega
          have E0 := Lib.hid (show RS = (if (firstP (coreF encB Ks TS PK PI) nk).1 ≠ 0 then firstP (coreF encB Ks TS PK PI) nk else if 64 < ev then (137, plc PK 0) else pbS rc qa) by rw [E0.out, checkS, if_neg (by simp), if_neg (by simp), if_neg gz])
          clear gz
          go_wp2_with fail
          clear gz1 gz2 g1
          go_loopw [11] (fun iv wr => ∃ (i : Nat) (z : Wb U0), i ≤ nk ∧ iv = .int .i64 (i : Int) ∧ (∀ j, j < i → (coreF encB Ks TS PK PI j).1 = 0) ∧ wr = z.at) (fun iv _ => nk - (intOf iv).toNat)
          case atStart => exact ⟨0, z, by omega, rfl, fun j h => by omega, rfl⟩
          case round =>
            obtain ⟨i, z, hi, rfl, hall, rfl⟩ := hrel
            have HA := Lib.hid hall
            clear hall
            have i0 : (0 : Int) ≤ (i : Int) := by omega
            by_cases ci : i < nk
            · have l1 : i < Ks.length := by have := NK.out; omega
              obtain ⟨a, pr, cr2, px, cx, ph, ch, epk, q0, q1, q2, q3, q4, x1, x2⟩ := XK.out z.at (KK.out z) i l1
              obtain ⟨hsm, ht0, ht1⟩ := HBK.out _ (List.getElem_mem l1)
              have IL := Lib.hid (show i + 1 ≤ nk by omega)
              have IN := Lib.hid ci
              have g1 : (i : Int) < (nk : Int) := by omega
              have CF := Lib.hid (coreF_at encB Ks TS PK PI i l1)
              obtain ⟨x, hx⟩ : ∃ x, x = Ks[i]'l1 := ⟨_, rfl⟩
              rw [← hx] at q0 q1 q2 q3 q4 x1 x2 hsm ht0 ht1 CF
              obtain ⟨rg, sp, tb, xc, xh⟩ := x
              simp only at q0 q1 q2 q3 q4 x1 x2 ht0 ht1
              have W1 : IntKind.i64.wrap ((i : Int) + 1) = (i : Int) + 1 := IntWalk.i64_in _ ⟨by omega, by omega⟩
              have SM := Lib.hid hsm
              have X1 := Lib.hid (fun q : Wb z.at => x1.below q.bel)
              have X2 := Lib.hid (fun q : Wb z.at => x2.below q.bel)
              have HT0 := Lib.hid (And.intro ht0 ht1)
              have KQ := Lib.hid (fun q : Wb z.at => (KK.out z).trans (q.bel.mono (KK.out z).size))
              subst epk
              have f0 := fun q : Wb z.at => keep_below q.bel _ _ q0
              have f1 := fun q : Wb z.at => keep_below q.bel _ _ q1
              have f2 := fun q : Wb z.at => keep_below q.bel _ _ q2
              have f3 := fun q : Wb z.at => keep_below q.bel _ _ q3
              have f4 := fun q : Wb z.at => keep_below q.bel _ _ q4
              have s2' := fun q : Wb z.at => keep_below q.bel _ _ (s2 z)
              have s10' := fun q : Wb z.at => keep_below q.bel _ _ (s10 z)
              have s13' := fun q : Wb z.at => keep_below q.bel _ _ (s13 z)
              have AK := Lib.hid (fun q : Wb z.at => Calls.same_below (APK.out q.at (KQ.out q) i) (Below.refl _ _))
              obtain ⟨nx, hnx⟩ : ∃ k, k = xc.length := ⟨_, rfl⟩
              obtain ⟨nh, hnh⟩ : ∃ k, k = xh.length := ⟨_, rfl⟩
              rw [← hnx] at f3
              rw [← hnh] at f4
              have NX := Lib.hid hnx
              have NH := Lib.hid hnh
              obtain ⟨r, hr⟩ : ∃ r, r = coreF encB Ks TS PK PI i := ⟨_, rfl⟩
              have HR := Lib.hid hr
              rw [← hr] at CF
              clear hx q0 q1 q2 q3 q4 x1 x2 hsm ht0 ht1 hnx hnh hr l1 hi ci
              obtain ⟨av, hav⟩ : ∃ v, v = plc PK i := ⟨_, rfl⟩
              rw [← hav] at AK CF
              clear hav
              by_cases gi : i < li
              · have l3 : i < PI.length := by have := LI.out; omega
                obtain ⟨ai, qq, cq, eqi, fi, hq1, hq2, hq3⟩ := XI.out z.at (KK.out z) i l3
                have gi2 : (i : Int) < (li : Int) := by omega
                have GD : PI.getD i [] = PI[i]'l3 := by simp [l3]
                rw [GD] at CF
                obtain ⟨PL, hPL⟩ : ∃ x, x = PI[i]'l3 := ⟨_, rfl⟩
                rw [← hPL] at fi hq1 hq3 CF
                obtain ⟨nq, hnq⟩ : ∃ k, k = PL.length := ⟨_, rfl⟩
                rw [← hnq] at fi hq1
                subst eqi
                have RQ := Lib.hid (fun q : Wb z.at => (show Calls Tryz.prog 20 #[.agg #[.slice pr rg cr2, .int .i64 sp, .int .u64 tb, .slice px nx cx, .slice ph nh ch], .slice pt nt ct, .int .i64 av, .slice qq nq cq] q.at fun e w' => e = .returned (.tuple #[.int .i64 r.1, .int .i64 r.2]) ∧ Below q.at.heap.size q.at w' from by
                  rw [CF.out, NX.out, NH.out]
                  exact RK.out q.at (KQ.out q) rg sp tb xc xh PL pr cr2 px cx ph ch av qq nq cq SM.out.1 SM.out.2 (X1.out q) (X2.out q) HT0.out.1 HT0.out.2 hnq (by omega) (hq3.below q.bel)))
                clear CF GD hPL hnq hq3 hq1 hq2 l3 gi SM X1 X2 HT0 KQ NX NH
                obtain ⟨r1, r2⟩ := r
                simp only at RQ
                go_upto_region 34 with fail
                refine wp_region_wb (by kernel_rfl) (by kernel_rfl) ?_
                repeat (go_big_quiet_step (first | (go_at_call 18; with_reducible exact Calls.wb (x := _) (AK.out _)) | (go_at_call 20; with_reducible exact Calls.wb (x := _) (RQ.out _))))
                refine wpQuiet_nil ?_
                rintro _ ⟨x1', rfl⟩
                obtain ⟨z2, hz2⟩ : ∃ z2 : Wb U0, z2.at = x1'.at := ⟨⟨x1'.at, z.bel.trans (x1'.bel.mono z.size)⟩, rfl⟩
                rw [← hz2]
                clear f0 f1 f2 f3 f4 s2' s10' s13' hz2 AK RQ
                by_cases cx' : r1 = 0
                · have AL := Lib.hid (show ∀ j, j < i + 1 → (coreF encB Ks TS PK PI j).1 = 0 from fun j hj => by
                    rcases Nat.lt_succ_iff_lt_or_eq.1 hj with h | rfl
                    · exact HA.out j h
                    · rw [← HR.out]
                      exact cx')
                  clear HR
                  subst cx'
                  go_wp2_with fail
                  go_roundw
                  case rel => exact ⟨i + 1, z2, IL.out, by go_num, AL.out, rfl⟩
                  case measure => have := IL.out; simp [intOf] <;> omega
                · have nz : (r1 != 0) = true := by simpa using cx'
                  have E := Lib.hid (show RS = (r1, r2) by
                    rw [E0.out, firstP_some IN.out HA.out (by rw [← HR.out]; exact cx'), ← HR.out, if_pos cx'])
                  clear E0 cx' HR
                  go_wp2
                  refine bodyPost_ret (v := .tuple #[.int .i64 r1, .int .i64 r2]) (by simp [results, Tryz.results7, go_sem, *]) rfl ⟨by rw [E.out], KK.out z2⟩
              · have gi2 : ¬ (i : Int) < (li : Int) := by omega
                have GD : PI.getD i [] = [] := by rw [List.getD_eq_getElem?_getD, List.getElem?_eq_none (by have := LI.out; omega)]; rfl
                rw [GD] at CF
                have RQ := Lib.hid (fun q : Wb z.at => (show Calls Tryz.prog 20 #[.agg #[.slice pr rg cr2, .int .i64 sp, .int .u64 tb, .slice px nx cx, .slice ph nh ch], .slice pt nt ct, .int .i64 av, .slice none 0 0] q.at fun e w' => e = .returned (.tuple #[.int .i64 r.1, .int .i64 r.2]) ∧ Below q.at.heap.size q.at w' from by
                  rw [CF.out, NX.out, NH.out]
                  exact RK.out q.at (KQ.out q) rg sp tb xc xh [] pr cr2 px cx ph ch av none 0 0 SM.out.1 SM.out.2 (X1.out q) (X2.out q) HT0.out.1 HT0.out.2 rfl (Nat.zero_le _) (NAt.nil _ _ _)))
                clear CF GD gi SM X1 X2 HT0 KQ NX NH
                obtain ⟨r1, r2⟩ := r
                simp only at RQ
                go_upto_region 34 with fail
                refine wp_region_wb (by kernel_rfl) (by kernel_rfl) ?_
                repeat (go_big_quiet_step (first | (go_at_call 18; with_reducible exact Calls.wb (x := _) (AK.out _)) | (go_at_call 20; with_reducible exact Calls.wb (x := _) (RQ.out _))))
                refine wpQuiet_nil ?_
                rintro _ ⟨x1', rfl⟩
                obtain ⟨z2, hz2⟩ : ∃ z2 : Wb U0, z2.at = x1'.at := ⟨⟨x1'.at, z.bel.trans (x1'.bel.mono z.size)⟩, rfl⟩
                rw [← hz2]
                clear f0 f1 f2 f3 f4 s2' s10' s13' hz2 AK RQ
                by_cases cx' : r1 = 0
                · have AL := Lib.hid (show ∀ j, j < i + 1 → (coreF encB Ks TS PK PI j).1 = 0 from fun j hj => by
                    rcases Nat.lt_succ_iff_lt_or_eq.1 hj with h | rfl
                    · exact HA.out j h
                    · rw [← HR.out]
                      exact cx')
                  clear HR
                  subst cx'
                  go_wp2_with fail
                  go_roundw
                  case rel => exact ⟨i + 1, z2, IL.out, by go_num, AL.out, rfl⟩
                  case measure => have := IL.out; simp [intOf] <;> omega
                · have nz : (r1 != 0) = true := by simpa using cx'
                  have E := Lib.hid (show RS = (r1, r2) by
                    rw [E0.out, firstP_some IN.out HA.out (by rw [← HR.out]; exact cx'), ← HR.out, if_pos cx'])
                  clear E0 cx' HR
                  go_wp2
                  refine bodyPost_ret (v := .tuple #[.int .i64 r1, .int .i64 r2]) (by simp [results, Tryz.results7, go_sem, *]) rfl ⟨by rw [E.out], KK.out z2⟩
            · have g1 : ¬ (i : Int) < (nk : Int) := by omega
              obtain rfl : nk = i := by omega
              have E0 := Lib.hid (show RS = (if 64 < ev then (137, plc PK 0) else pbS rc qa) by rw [E0.out, firstP_none HA.out, if_neg (by simp)])
              clear ci hi HA
              have s0 := fun z : Wb U0 => (RS0.out z).cell 0
              have s3 := fun z : Wb U0 => (RS0.out z).cell 3
              have s4 := fun z : Wb U0 => (RS0.out z).cell 4
              have s5 := fun z : Wb U0 => (RS0.out z).cell 5
              have s6 := fun z : Wb U0 => (RS0.out z).cell 6
              have s7 := fun z : Wb U0 => (RS0.out z).cell 7
              have s8 := fun z : Wb U0 => (RS0.out z).cell 8
              have s9 := fun z : Wb U0 => (RS0.out z).cell 9
              simp only [List.getElem?_cons_zero, List.getElem?_cons_succ] at s0 s3 s4 s5 s6 s7 s8 s9
              go_wp2_with fail
              refine (EC.out _ (KK.out z)).mono ?_
              rintro e w3 ⟨rfl, b⟩
              obtain ⟨v3, rfl⟩ := Wb.next b
              clear b
              by_cases ce : 64 < ev
              · obtain ⟨pv, hpv⟩ : ∃ v, v = plc PK 0 := ⟨_, rfl⟩
                have AQ := Lib.hid (show Calls Tryz.prog 18 #[.slice qk lk dk, .int .i64 0] v3.at fun e w' => e = .returned (.int .i64 pv) ∧ v3.at = w' from by rw [hpv]; exact APK.out v3.at (KK.out v3) 0)
                have E := Lib.hid (show RS = (137, pv) by rw [E0.out, if_pos ce, hpv])
                clear E0 hpv
                go_wp2_with fail
                refine AQ.out.mono ?_
                rintro e w5 ⟨rfl, rfl⟩
                go_wp2
                refine bodyPost_ret (v := .tuple #[.int .i64 137, .int .i64 pv]) (by simp [results, Tryz.results7, go_sem, *]) rfl ⟨by rw [E.out], KK.out v3⟩
              have E0 := Lib.hid (E0.out.trans (if_neg ce))
              go_wp2_with fail
              refine (RC.out _ (KK.out _)).mono ?_
              rintro e w4 ⟨rfl, b⟩
              obtain ⟨v4, rfl⟩ := Wb.next b
              clear b
              by_cases cr0 : rc = 0
              · have E := Lib.hid (show RS = (0, 0) by rw [E0.out, pbS, if_pos cr0])
                clear E0
                subst cr0
                go_wp2
                refine bodyPost_ret (v := .tuple #[.int .i64 0, .int .i64 0]) (by simp [results, Tryz.results7, go_sem, *]) rfl ⟨by rw [E.out], KK.out v4⟩
              have nz : (rc != 0) = true := by simpa using cr0
              have E := Lib.hid (show RS = (rc, qa) by rw [E0.out, pbS, if_neg cr0])
              clear E0 cr0
              have s15' := fun q : Wb v4.at => keep_below q.bel _ _ (s15 v4)
              go_upto_region 41 with fail
              refine wp_region_wb (by kernel_rfl) (by kernel_rfl) ?_
              repeat (go_big_quiet_step (fail))
              refine wpQuiet_nil ?_
              rintro _ ⟨x1', rfl⟩
              obtain ⟨z2, hz2⟩ : ∃ z2 : Wb U0, z2.at = x1'.at := ⟨⟨x1'.at, v4.bel.trans (x1'.bel.mono v4.size)⟩, rfl⟩
              rw [← hz2]
              clear s15' hz2
              go_wp2
              refine bodyPost_ret (v := .tuple #[.int .i64 rc, .int .i64 qa]) (by simp [results, Tryz.results7, go_sem, *]) rfl ⟨by rw [E.out], KK.out z2⟩
end Go.Proofs.YtlflknfkenfpiaaGreatDoor
