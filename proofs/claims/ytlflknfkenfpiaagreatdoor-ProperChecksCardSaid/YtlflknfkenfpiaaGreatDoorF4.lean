/-
  Texts of one claim, merged.
-/
import Derived.Test.YtlflknfkenfpiaaGreatDoorF1
import Derived.Test.YtlflknfkenfpiaaGreatDoorF2
import Derived.Test.YtlflknfkenfpiaaGreatDoorF3
import Derived.Test.YtlflknfkenfpiaaGreatDoorE9
set_option linter.unusedSimpArgs false
set_option linter.unusedVariables false
namespace Go.Proofs.YtlflknfkenfpiaaGreatDoor
open Go.RowKit GrN
theorem ccore_any (Ks : List GrN.K) (TS PK : List Int) (PI : List (List Int)) (i : Nat) (nm : ByteArray) (pc : Option Addr) (nc cc : Nat) (pk : Option Addr) (nk ck : Nat) (fa : Bool) (ck0 cco cr cad cva : Int) (pg : Option Addr) (ng cg : Nat) (pt : Option Addr) (nt ct : Nat) (qt : Option Addr) (lt dt : Nat) (qc : Option Addr) (lc dc : Nat) (qk : Option Addr) (lk dk : Nat) (qi : Option Addr) (li di : Nat) (qa : Int) (w : World) (hi : i < Ks.length) (hnk : nk = Ks.length) (hm : nk ≤ 6) (hK : KsAt w pk Ks) (hc : ∀ c ∈ Ks, smallK c ∧ (∀ x ∈ c.code, -9223372036854775808 ≤ x.imm ∧ x.imm ≤ 9223372036854775807) ∧ (∀ x ∈ c.hand, -9223372036854775808 ≤ x.imm ∧ x.imm ≤ 9223372036854775807) ∧ 0 ≤ c.tab ∧ c.tab < 18446744073709551616)
    (hnt : nt = TS.length) (hmt : nt ≤ maxLen) (hT : NAt .u64 w pt TS) (hlk : lk = PK.length) (hmk : lk ≤ maxLen) (hPK : NAt .i64 w qk PK) (hli : li = PI.length) (hmi : li ≤ maxLen) (hPI : PsAt w qi PI) (hs : ShAt w) :
    Calls Tryz.prog 16 #[.agg #[.string nm, .slice pc nc cc, .slice pk nk ck, .bool fa, .int .i64 ck0, .int .i64 cco, .int .i64 cr, .int .u64 cad, .int .u64 cva, .slice pg ng cg, .slice pt nt ct, .slice qt lt dt, .slice qc lc dc, .slice qk lk dk, .slice qi li di, .int .i64 qa], .int .i64 (i : Int)] w fun e w' => e = .returned (pbV (coreS encB (Ks[i]'hi) TS (plc PK i) (PI.getD i []))) ∧ Below w.heap.size w w' := by
  by_cases gi : i < li
  · by_cases gl : (PI.getD i []).length < (Ks[i]'hi).code.length
    · exact ccore_p Ks TS PK PI i nm pc nc cc pk nk ck fa ck0 cco cr cad cva pg ng cg pt nt ct qt lt dt qc lc dc qk lk dk qi li di qa w hi hnk hm hK hc hnt hmt hT hlk hmk hPK hli hmi hPI hs gi gl
    · exact ccore_q Ks TS PK PI i nm pc nc cc pk nk ck fa ck0 cco cr cad cva pg ng cg pt nt ct qt lt dt qc lc dc qk lk dk qi li di qa w hi hnk hm hK hc hnt hmt hT hlk hmk hPK hli hmi hPI hs gi gl
  · exact ccore_r Ks TS PK PI i nm pc nc cc pk nk ck fa ck0 cco cr cad cva pg ng cg pt nt ct qt lt dt qc lc dc qk lk dk qi li di qa w hi hnk hm hK hc hnt hmt hT hlk hmk hPK hli hmi hPI hs gi
end Go.Proofs.YtlflknfkenfpiaaGreatDoor
namespace Go.Proofs.YtlflknfkenfpiaaGreatDoor
open Go.RowKit GrN
set_option maxRecDepth 100000 in
set_option maxHeartbeats 25600000 in
theorem pcheck_any (TS PT : List Int) (Cs : List (Int × Int)) (PC : List Int) (Ks : List GrN.K) (PK : List Int) (PI : List (List Int)) (rc : Int) (nm : ByteArray) (pc : Option Addr) (nc cc : Nat) (pk : Option Addr) (nk ck : Nat) (fa : Bool) (ck0 cco cr cad cva : Int) (pg : Option Addr) (ng cg : Nat) (pt : Option Addr) (nt ct : Nat) (qt : Option Addr) (lt dt : Nat) (qc : Option Addr) (lc dc : Nat) (qk : Option Addr) (lk dk : Nat) (qi : Option Addr) (li di : Nat) (qa : Int) (w : World)
    (hnt : nt = TS.length) (hmt : nt ≤ 1000000) (hbt : ∀ x ∈ TS, 0 ≤ x ∧ x < 18446744073709551616) (hT : NAt .u64 w pt TS) (hlt : lt = PT.length) (hmlt : lt ≤ maxLen) (hPT : NAt .i64 w qt PT)
    (hnc : nc = Cs.length) (hmc : nc ≤ 1000000) (hbc : ∀ x ∈ Cs, 0 ≤ x.1 ∧ x.1 < 18446744073709551616) (hC : DsAt w pc Cs) (hlc : lc = PC.length) (hmlc : lc ≤ maxLen) (hPC : NAt .i64 w qc PC)
    (hnk : nk = Ks.length) (hm : nk ≤ 6) (hK : KsAt w pk Ks) (hc : ∀ c ∈ Ks, smallK c ∧ (∀ x ∈ c.code, -9223372036854775808 ≤ x.imm ∧ x.imm ≤ 9223372036854775807) ∧ (∀ x ∈ c.hand, -9223372036854775808 ≤ x.imm ∧ x.imm ≤ 9223372036854775807) ∧ 0 ≤ c.tab ∧ c.tab < 18446744073709551616)
    (hlk : lk = PK.length) (hmk : lk ≤ maxLen) (hPK : NAt .i64 w qk PK) (hli : li = PI.length) (hmi : li ≤ maxLen) (hPI : PsAt w qi PI) (hs : ShAt w)
    (hR : ∀ U, Below w.heap.size w U → Calls Tryz.prog 17 #[.agg #[.int .i64 ck0, .int .i64 cco, .int .i64 cr, .int .u64 cad, .int .u64 cva, .slice pg ng cg], .int .i64 (nk : Int)] U fun e w' => e = .returned (.int .i64 rc) ∧ Below U.heap.size U w') :
    Calls Tryz.prog 6 #[.agg #[.string nm, .slice pc nc cc, .slice pk nk ck, .bool fa, .int .i64 ck0, .int .i64 cco, .int .i64 cr, .int .u64 cad, .int .u64 cva, .slice pg ng cg, .slice pt nt ct, .slice qt lt dt, .slice qc lc dc, .slice qk lk dk, .slice qi li di, .int .i64 qa]] w fun e w' => e = .returned (pbV (checkS (ans (firstF (tabF TS) TS.length) PT) (cellsA Cs PC) nk (plc PK 4) (coreF encB Ks TS PK PI) (EventsS Ks) (plc PK 0) rc qa)) ∧ Below w.heap.size w w' := by
  obtain ⟨RS, hRS⟩ : ∃ r, r = checkS (ans (firstF (tabF TS) TS.length) PT) (cellsA Cs PC) nk (plc PK 4) (coreF encB Ks TS PK PI) (EventsS Ks) (plc PK 0) rc qa := ⟨_, rfl⟩
  rw [← hRS]
  have mt : nt ≤ maxLen := by unfold maxLen; omega
  have TC := Lib.hid (fun (U : World) (b : Below w.heap.size w U) => ctables_any TS PT nm pc nc cc pk nk ck fa ck0 cco cr cad cva pg ng cg pt nt ct qt lt dt qc lc dc qk lk dk qi li di qa U hnt hmt hbt (hT.below b) hlt hmlt (hPT.below b))
  have CC := Lib.hid (fun (U : World) (b : Below w.heap.size w U) => ccells_any Cs PC nm pc nc cc pk nk ck fa ck0 cco cr cad cva pg ng cg pt nt ct qt lt dt qc lc dc qk lk dk qi li di qa U hnc hmc hbc (hC.below b) hlc hmlc (hPC.below b))
  have CO := Lib.hid (fun (U : World) (b : Below w.heap.size w U) (i : Nat) (h : i < nk) => (show Calls Tryz.prog 16 #[.agg #[.string nm, .slice pc nc cc, .slice pk nk ck, .bool fa, .int .i64 ck0, .int .i64 cco, .int .i64 cr, .int .u64 cad, .int .u64 cva, .slice pg ng cg, .slice pt nt ct, .slice qt lt dt, .slice qc lc dc, .slice qk lk dk, .slice qi li di, .int .i64 qa], .int .i64 (i : Int)] U fun e w' => e = .returned (pbV (coreF encB Ks TS PK PI i)) ∧ Below U.heap.size U w' from by
    rw [coreF_at encB Ks TS PK PI i (by omega)]
    exact ccore_any Ks TS PK PI i nm pc nc cc pk nk ck fa ck0 cco cr cad cva pg ng cg pt nt ct qt lt dt qc lc dc qk lk dk qi li di qa U (by omega) hnk hm (hK.below b) hc hnt mt (hT.below b) hlk hmk (hPK.below b) hli hmi (hPI.below b) (hs.below b)))
  have EC := Lib.hid (fun (U : World) (b : Below w.heap.size w U) => cevents_any Ks nm pc nc cc pk nk ck fa ck0 cco cr cad cva pg ng cg U hnk hm (hK.below b) (fun c h => (hc c h).1))
  have PL := Lib.hid (fun (U : World) (b : Below w.heap.size w U) (i : Nat) => place_any PK qk lk dk i U hlk (hPK.below b) hmk)
  have RC := Lib.hid hR
  obtain ⟨A, hA⟩ : ∃ x, x = ans (firstF (tabF TS) TS.length) PT := ⟨_, rfl⟩
  rw [← hA] at TC hRS
  obtain ⟨B, hB⟩ : ∃ x, x = cellsA Cs PC := ⟨_, rfl⟩
  rw [← hB] at CC hRS
  obtain ⟨cf, hcf⟩ : ∃ x, x = coreF encB Ks TS PK PI := ⟨_, rfl⟩
  simp only [← hcf] at CO hRS
  obtain ⟨ev, hev⟩ : ∃ x, x = EventsS Ks := ⟨_, rfl⟩
  rw [← hev] at EC hRS
  obtain ⟨p4, hp4⟩ : ∃ x, x = plc PK 4 := ⟨_, rfl⟩
  have PL4 := Lib.hid (fun (U : World) (b : Below w.heap.size w U) => PL.out U b 4)
  rw [← hp4] at PL4 hRS
  obtain ⟨pz, hpz⟩ : ∃ x, x = plc PK 0 := ⟨_, rfl⟩
  have PL0 := Lib.hid (fun (U : World) (b : Below w.heap.size w U) => PL.out U b 0)
  rw [← hpz] at PL0 hRS
  have k6 : (nk : Int) ≤ 6 := by omega
  have k0 : (0 : Int) ≤ (nk : Int) := by omega
  obtain ⟨a1, a2⟩ := A
  obtain ⟨b1, b2⟩ := B
  have E0 := Lib.hid hRS
  have TC := Lib.hid (show ∀ U, Below w.heap.size w U → Calls Tryz.prog 12 #[.agg #[.string nm, .slice pc nc cc, .slice pk nk ck, .bool fa, .int .i64 ck0, .int .i64 cco, .int .i64 cr, .int .u64 cad, .int .u64 cva, .slice pg ng cg, .slice pt nt ct, .slice qt lt dt, .slice qc lc dc, .slice qk lk dk, .slice qi li di, .int .i64 qa]] U fun e w' => e = .returned (.agg #[.int .i64 a1, .int .i64 a2]) ∧ Below U.heap.size U w' from TC.out)
  have CC := Lib.hid (show ∀ U, Below w.heap.size w U → Calls Tryz.prog 13 #[.agg #[.string nm, .slice pc nc cc, .slice pk nk ck, .bool fa, .int .i64 ck0, .int .i64 cco, .int .i64 cr, .int .u64 cad, .int .u64 cva, .slice pg ng cg, .slice pt nt ct, .slice qt lt dt, .slice qc lc dc, .slice qk lk dk, .slice qi li di, .int .i64 qa]] U fun e w' => e = .returned (.agg #[.int .i64 b1, .int .i64 b2]) ∧ Below U.heap.size U w' from CC.out)
  clear hnt hmt hbt hT hlt hmlt hPT hnc hmc hbc hC hlc hmlc hPC hnk hm hK hc hlk hmk hPK hli hmi hPI hs hR hA hB hcf hev hp4 hpz hRS mt PL
  go_enter Tryz.func6, Tryz.ntmps6
  go_upto_region 1 with fail
  refine to_cls ?_
  intro U0 hU0 y0
  have RS0 := Lib.hid (show ∀ z : Wb U0, Row z.at w.heap.size [.string nm, .slice pc nc cc, .slice pk nk ck, .bool fa, .int .i64 ck0, .int .i64 cco, .int .i64 cr, .int .u64 cad, .int .u64 cva, .slice pg ng cg, .slice pt nt ct, .slice qt lt dt, .slice qc lc dc, .slice qk lk dk, .slice qi li di, .int .i64 qa] 42 from Row.next ((Row.new _ [.string nm, .slice pc nc cc, .slice pk nk ck, .bool fa, .int .i64 ck0, .int .i64 cco, .int .i64 cr, .int .u64 cad, .int .u64 cva, .slice pg ng cg, .slice pt nt ct, .slice qt lt dt, .slice qc lc dc, .slice qk lk dk, .slice qi li di, .int .i64 qa] _).old _) hU0)
  have RP0 := Lib.hid (show ∀ z : Wb U0, Row z.at (w.heap.size + 1) [.int .i64 0, .int .i64 0] 39 from Row.next (Row.new' _ [.int .i64 0, .int .i64 0] _ _ (by simp)) hU0)
  have KK0 := Lib.hid (KB.next (KB.alloc (KB.alloc (Below.refl w.heap.size w) _) _) hU0)
  clear hU0
  obtain ⟨pS, hpS⟩ : ∃ b, b = w.heap.size := ⟨_, rfl⟩
  have PA := Lib.hid (show w.heap.size ≤ pS + 1 by omega)
  rw [← hpS] at RS0 RP0
  simp only [← hpS]
  clear hpS
  have s0 := fun z : Wb U0 => (RS0.out z).cell 0
  have s1 := fun z : Wb U0 => (RS0.out z).cell 1
  have s2 := fun z : Wb U0 => (RS0.out z).cell 2
  have s3 := fun z : Wb U0 => (RS0.out z).cell 3
  have s4 := fun z : Wb U0 => (RS0.out z).cell 4
  have s5 := fun z : Wb U0 => (RS0.out z).cell 5
  have s6 := fun z : Wb U0 => (RS0.out z).cell 6
  have s7 := fun z : Wb U0 => (RS0.out z).cell 7
  have s8 := fun z : Wb U0 => (RS0.out z).cell 8
  have s9 := fun z : Wb U0 => (RS0.out z).cell 9
  have s10 := fun z : Wb U0 => (RS0.out z).cell 10
  have s11 := fun z : Wb U0 => (RS0.out z).cell 11
  have s12 := fun z : Wb U0 => (RS0.out z).cell 12
  have s13 := fun z : Wb U0 => (RS0.out z).cell 13
  have s14 := fun z : Wb U0 => (RS0.out z).cell 14
  have s15 := fun z : Wb U0 => (RS0.out z).cell 15
  have p0 := fun z : Wb U0 => (RP0.out z).cell 0
  have p1 := fun z : Wb U0 => (RP0.out z).cell 1
  have pf := fun (z : Wb U0) (k : Nat) => (RP0.out z).free k
  simp only [List.getElem?_cons_zero, List.getElem?_cons_succ] at s0 s1 s2 s3 s4 s5 s6 s7 s8 s9 s10 s11 s12 s13 s14 s15 p0 p1
  go_wp2_with fail
  refine (TC.out _ (KK0.out _)).mono ?_
  rintro e w1 ⟨rfl, b⟩
  obtain ⟨v1, rfl⟩ := Wb.next b
  clear b
  clear s0 s1 s2 s3 s4 s5 s6 s7 s8 s9 s10 s11 s12 s13 s14 s15 p0 p1 pf
  go_upto_region 2 with fail
  refine to_cls ?_
  intro U1 hU1 y1
  have r9 : ∀ q : Wb U1, Row q.at v1.at.heap.size [.int .i64 a1, .int .i64 a2] 39 := Row.next (Row.new _ [.int .i64 a1, .int .i64 a2] _) hU1
  have K1 := Lib.hid (fun q : Wb U1 => ((KB.alloc (Below.refl v1.at.heap.size v1.at) _).trans ((hU1.mono (by simp)).trans (q.bel.mono (Nat.le_trans (by simp) hU1.size)))))
  have RS1 := Lib.hid (fun q : Wb U1 => (RS0.out v1).below (K1.out q))
  have RP1 := Lib.hid (fun q : Wb U1 => (RP0.out v1).below (K1.out q))
  have KK1 := Lib.hid (fun q : Wb U1 => (KK0.out v1).trans ((K1.out q).mono (KK0.out v1).size))
  have n0 := fun q : Wb U1 => (r9 q).cell 0
  have n1 := fun q : Wb U1 => (r9 q).cell 1
  simp only [List.getElem?_cons_zero, List.getElem?_cons_succ] at n0 n1
  clear r9 hU1
  obtain ⟨pN1, hpN⟩ : ∃ b, b = v1.at.heap.size := ⟨_, rfl⟩
  rw [← hpN] at n0 n1
  simp only [← hpN]
  clear hpN
  have s0 := fun z : Wb U1 => (RS1.out z).cell 0
  have s1 := fun z : Wb U1 => (RS1.out z).cell 1
  have s2 := fun z : Wb U1 => (RS1.out z).cell 2
  have s3 := fun z : Wb U1 => (RS1.out z).cell 3
  have s4 := fun z : Wb U1 => (RS1.out z).cell 4
  have s5 := fun z : Wb U1 => (RS1.out z).cell 5
  have s6 := fun z : Wb U1 => (RS1.out z).cell 6
  have s7 := fun z : Wb U1 => (RS1.out z).cell 7
  have s8 := fun z : Wb U1 => (RS1.out z).cell 8
  have s9 := fun z : Wb U1 => (RS1.out z).cell 9
  have s10 := fun z : Wb U1 => (RS1.out z).cell 10
  have s11 := fun z : Wb U1 => (RS1.out z).cell 11
  have s12 := fun z : Wb U1 => (RS1.out z).cell 12
  have s13 := fun z : Wb U1 => (RS1.out z).cell 13
  have s14 := fun z : Wb U1 => (RS1.out z).cell 14
  have s15 := fun z : Wb U1 => (RS1.out z).cell 15
  have p0 := fun z : Wb U1 => (RP1.out z).cell 0
  have p1 := fun z : Wb U1 => (RP1.out z).cell 1
  have pf := fun (z : Wb U1) (k : Nat) => (RP1.out z).free k
  simp only [List.getElem?_cons_zero, List.getElem?_cons_succ] at s0 s1 s2 s3 s4 s5 s6 s7 s8 s9 s10 s11 s12 s13 s14 s15 p0 p1
  by_cases c1 : ¬ a1 = 0
  · have nz : (a1 != 0) = true := by simpa using c1
    have E := Lib.hid (show RS = (a1, a2) by rw [E0.out, checkS, if_pos c1])
    clear E0 c1
    go_wp2
    refine bodyPost_ret (v := .agg #[.int .i64 a1, .int .i64 a2]) (by simp [results, Tryz.results6, go_sem, *]) rfl ⟨by rw [E.out]; rfl, ?_⟩
    repeat' (first | (with_reducible exact KK1.out _) | (with_reducible refine Below.setCell ?_ ?_ _) | (with_reducible exact PA.out))
  have c1 := Decidable.not_not.1 c1
  have E0 := Lib.hid (show RS = checkS (0, 0) (b1, b2) nk p4 cf ev pz rc qa by rw [E0.out]; simp [checkS, c1])
  subst c1
  go_wp2_with fail
  refine (CC.out _ (KK1.out _)).mono ?_
  rintro e w2 ⟨rfl, b⟩
  obtain ⟨v2, rfl⟩ := Wb.next b
  clear b n0 n1
  clear s0 s1 s2 s3 s4 s5 s6 s7 s8 s9 s10 s11 s12 s13 s14 s15 p0 p1 pf
  go_upto_region 5 with fail
  refine to_cls ?_
  intro U2 hU2 y2
  have r9 : ∀ q : Wb U2, Row q.at v2.at.heap.size [.int .i64 b1, .int .i64 b2] 39 := Row.next (Row.new _ [.int .i64 b1, .int .i64 b2] _) hU2
  have K2 := Lib.hid (fun q : Wb U2 => ((KB.alloc (Below.refl v2.at.heap.size v2.at) _).trans ((hU2.mono (by simp)).trans (q.bel.mono (Nat.le_trans (by simp) hU2.size)))))
  have RS2 := Lib.hid (fun q : Wb U2 => (RS1.out v2).below (K2.out q))
  have RP2 := Lib.hid (fun q : Wb U2 => (RP1.out v2).below (K2.out q))
  have KK2 := Lib.hid (fun q : Wb U2 => (KK1.out v2).trans ((K2.out q).mono (KK1.out v2).size))
  have n0 := fun q : Wb U2 => (r9 q).cell 0
  have n1 := fun q : Wb U2 => (r9 q).cell 1
  simp only [List.getElem?_cons_zero, List.getElem?_cons_succ] at n0 n1
  clear r9 hU2
  obtain ⟨pN2, hpN⟩ : ∃ b, b = v2.at.heap.size := ⟨_, rfl⟩
  rw [← hpN] at n0 n1
  simp only [← hpN]
  clear hpN
  have s0 := fun z : Wb U2 => (RS2.out z).cell 0
  have s1 := fun z : Wb U2 => (RS2.out z).cell 1
  have s2 := fun z : Wb U2 => (RS2.out z).cell 2
  have s3 := fun z : Wb U2 => (RS2.out z).cell 3
  have s4 := fun z : Wb U2 => (RS2.out z).cell 4
  have s5 := fun z : Wb U2 => (RS2.out z).cell 5
  have s6 := fun z : Wb U2 => (RS2.out z).cell 6
  have s7 := fun z : Wb U2 => (RS2.out z).cell 7
  have s8 := fun z : Wb U2 => (RS2.out z).cell 8
  have s9 := fun z : Wb U2 => (RS2.out z).cell 9
  have s10 := fun z : Wb U2 => (RS2.out z).cell 10
  have s11 := fun z : Wb U2 => (RS2.out z).cell 11
  have s12 := fun z : Wb U2 => (RS2.out z).cell 12
  have s13 := fun z : Wb U2 => (RS2.out z).cell 13
  have s14 := fun z : Wb U2 => (RS2.out z).cell 14
  have s15 := fun z : Wb U2 => (RS2.out z).cell 15
  have p0 := fun z : Wb U2 => (RP2.out z).cell 0
  have p1 := fun z : Wb U2 => (RP2.out z).cell 1
  have pf := fun (z : Wb U2) (k : Nat) => (RP2.out z).free k
  simp only [List.getElem?_cons_zero, List.getElem?_cons_succ] at s0 s1 s2 s3 s4 s5 s6 s7 s8 s9 s10 s11 s12 s13 s14 s15 p0 p1
  by_cases c2 : ¬ b1 = 0
  · have nz : (b1 != 0) = true := by simpa using c2
    have E := Lib.hid (show RS = (b1, b2) by rw [E0.out, checkS, if_neg (by simp), if_pos c2])
    clear E0 c2
    go_wp2
    refine bodyPost_ret (v := .agg #[.int .i64 b1, .int .i64 b2]) (by simp [results, Tryz.results6, go_sem, *]) rfl ⟨by rw [E.out]; rfl, ?_⟩
    repeat' (first | (with_reducible exact KK2.out _) | (with_reducible refine Below.setCell ?_ ?_ _) | (with_reducible exact PA.out))
  have c2 := Decidable.not_not.1 c2
  have E0 := Lib.hid (show RS = checkS (0, 0) (0, 0) nk p4 cf ev pz rc qa by rw [E0.out]; simp [checkS, c2])
  subst c2
  by_cases cz : nk = 0
  · have cz2 : (nk : Int) = 0 := by omega
    have cz3 : ((nk : Int) == 0) = true := by simpa using cz
    have PB := Lib.hid (problem_at 135 p4 (by decide))
    have E := Lib.hid (show RS = (135, p4) by rw [E0.out, checkS, if_neg (by simp), if_neg (by simp), if_pos (.inl cz)])
    clear E0 cz cz2
    go_wp2_with fail
    refine (PL4.out _ (KK2.out _)).mono ?_
    rintro e w3 ⟨rfl, rfl⟩
    go_wp2_with fail
    refine (PB.out _).mono ?_
    rintro e w4 ⟨rfl, b⟩
    obtain ⟨v4, rfl⟩ := Wb.next b
    clear b
    go_wp2
    refine bodyPost_ret (v := .agg #[.int .i64 135, .int .i64 p4]) (by simp [results, Tryz.results6, go_sem, *]) rfl ⟨by rw [E.out]; rfl, ?_⟩
    repeat' (first | (with_reducible exact KK2.out _) | (with_reducible refine Below.setCell ?_ ?_ _) | (with_reducible exact PA.out))
  have cz3 : ((nk : Int) == 0) = false := by simpa using cz
  by_cases c4 : 4 < nk
  · have c5 : (4 : Int) < (nk : Int) := by omega
    have PB := Lib.hid (problem_at 135 p4 (by decide))
    have E := Lib.hid (show RS = (135, p4) by rw [E0.out, checkS, if_neg (by simp), if_neg (by simp), if_pos (.inr c4)])
    clear E0 cz c4
    go_wp2_with fail
    refine (PL4.out _ (KK2.out _)).mono ?_
    rintro e w3 ⟨rfl, rfl⟩
    go_wp2_with fail
    refine (PB.out _).mono ?_
    rintro e w4 ⟨rfl, b⟩
    obtain ⟨v4, rfl⟩ := Wb.next b
    clear b
    go_wp2
    refine bodyPost_ret (v := .agg #[.int .i64 135, .int .i64 p4]) (by simp [results, Tryz.results6, go_sem, *]) rfl ⟨by rw [E.out]; rfl, ?_⟩
    repeat' (first | (with_reducible exact KK2.out _) | (with_reducible refine Below.setCell ?_ ?_ _) | (with_reducible exact PA.out))
  have c5 : ¬ (4 : Int) < (nk : Int) := by omega
  have E0 := Lib.hid (show RS = (if (firstP cf nk).1 ≠ 0 then firstP cf nk else if 64 < ev then (137, pz) else pbS rc qa) by rw [E0.out, checkS, if_neg (by simp), if_neg (by simp), if_neg (by omega)])
  clear cz c4
  go_wp2_with fail
  clear cz3 c5 n0 n1
  clear s0 s1 s2 s3 s4 s5 s6 s7 s8 s9 s10 s11 s12 s13 s14 s15 p0 p1 pf
  go_loopw [39] (fun iv wr => ∃ (i : Nat) (z : Wb U2), i ≤ nk ∧ iv = .int .i64 (i : Int) ∧ (∀ j, j < i → (cf j).1 = 0) ∧ wr = z.at) (fun iv _ => nk - (intOf iv).toNat)
  case atStart => exact ⟨0, y2, by omega, rfl, fun j h => by omega, rfl⟩
  case round =>
    obtain ⟨i, z, hi, rfl, hall, rfl⟩ := hrel
    have HA := Lib.hid hall
    clear hall
    have i0 : (0 : Int) ≤ (i : Int) := by omega
    by_cases ci : i < nk
    · have IL := Lib.hid (show i + 1 ≤ nk by omega)
      have IN := Lib.hid ci
      have g1 : (i : Int) < (nk : Int) := by omega
      have i6 : (i : Int) ≤ 6 := by omega
      have W1 : IntKind.i64.wrap ((i : Int) + 1) = (i : Int) + 1 := IntWalk.i64_in _ ⟨by omega, by omega⟩
      have CO1 := Lib.hid (CO.out z.at (KK2.out z) i ci)
      obtain ⟨x, hx⟩ : ∃ x, x = cf i := ⟨_, rfl⟩
      rw [← hx] at CO1
      have HX := Lib.hid hx
      obtain ⟨x1, x2⟩ := x
      have CO1 := Lib.hid (show Calls Tryz.prog 16 #[.agg #[.string nm, .slice pc nc cc, .slice pk nk ck, .bool fa, .int .i64 ck0, .int .i64 cco, .int .i64 cr, .int .u64 cad, .int .u64 cva, .slice pg ng cg, .slice pt nt ct, .slice qt lt dt, .slice qc lc dc, .slice qk lk dk, .slice qi li di, .int .i64 qa], .int .i64 (i : Int)] z.at fun e w' => e = .returned (.agg #[.int .i64 x1, .int .i64 x2]) ∧ Below z.at.heap.size z.at w' from CO1.out)
      have RSz := Lib.hid (fun q : Wb z.at => (RS2.out z).below q.bel)
      have RPz := Lib.hid (fun q : Wb z.at => (RP2.out z).below q.bel)
      have KKz := Lib.hid (fun q : Wb z.at => (KK2.out z).trans (q.bel.mono (KK2.out z).size))
      clear hi ci hx
      have s0 := (RS2.out z).cell 0
      have s1 := (RS2.out z).cell 1
      have s2 := (RS2.out z).cell 2
      have s3 := (RS2.out z).cell 3
      have s4 := (RS2.out z).cell 4
      have s5 := (RS2.out z).cell 5
      have s6 := (RS2.out z).cell 6
      have s7 := (RS2.out z).cell 7
      have s8 := (RS2.out z).cell 8
      have s9 := (RS2.out z).cell 9
      have s10 := (RS2.out z).cell 10
      have s11 := (RS2.out z).cell 11
      have s12 := (RS2.out z).cell 12
      have s13 := (RS2.out z).cell 13
      have s14 := (RS2.out z).cell 14
      have s15 := (RS2.out z).cell 15
      simp only [List.getElem?_cons_zero, List.getElem?_cons_succ] at s0 s1 s2 s3 s4 s5 s6 s7 s8 s9 s10 s11 s12 s13 s14 s15
      go_wp2_with fail
      refine CO1.out.mono ?_
      rintro e w3 ⟨rfl, b⟩
      obtain ⟨v3, rfl⟩ := Wb.start b
      clear b s0 s1 s2 s3 s4 s5 s6 s7 s8 s9 s10 s11 s12 s13 s14 s15
      go_upto_region 14 with fail
      refine to_cls ?_
      intro U3 hU3 y3
      have r9 : ∀ q : Wb U3, Row q.at v3.at.heap.size [.int .i64 x1, .int .i64 x2] 39 := Row.next (Row.new _ [.int .i64 x1, .int .i64 x2] _) hU3
      have K3 := Lib.hid (fun q : Wb U3 => ((KB.alloc (Below.refl v3.at.heap.size v3.at) _).trans ((hU3.mono (by simp)).trans (q.bel.mono (Nat.le_trans (by simp) hU3.size)))))
      have RS3 := Lib.hid (fun q : Wb U3 => (RSz.out v3).below (K3.out q))
      have RP3 := Lib.hid (fun q : Wb U3 => (RPz.out v3).below (K3.out q))
      have KK3 := Lib.hid (fun q : Wb U3 => (KKz.out v3).trans ((K3.out q).mono (KKz.out v3).size))
      have n0 := fun q : Wb U3 => (r9 q).cell 0
      have n1 := fun q : Wb U3 => (r9 q).cell 1
      simp only [List.getElem?_cons_zero, List.getElem?_cons_succ] at n0 n1
      clear r9 hU3
      obtain ⟨pN3, hpN⟩ : ∃ b, b = v3.at.heap.size := ⟨_, rfl⟩
      rw [← hpN] at n0 n1
      simp only [← hpN]
      clear hpN
      have p0 := fun z : Wb U3 => (RP3.out z).cell 0
      have p1 := fun z : Wb U3 => (RP3.out z).cell 1
      have pf := fun (z : Wb U3) (k : Nat) => (RP3.out z).free k
      simp only [List.getElem?_cons_zero, List.getElem?_cons_succ] at p0 p1
      by_cases cx : x1 = 0
      · subst cx
        have AL := Lib.hid (show ∀ j, j < i + 1 → (cf j).1 = 0 from fun j hj => by
          rcases Nat.lt_succ_iff_lt_or_eq.1 hj with h | rfl
          · exact HA.out j h
          · rw [← HX.out])
        clear HX
        go_wp2_with fail
        go_roundw
        case rel => exact ⟨i + 1, ⟨y3.at, z.bel.trans ((v3.bel.trans ((K3.out y3).mono v3.bel.size)).mono z.size)⟩, IL.out, by go_num, AL.out, rfl⟩
        case measure => have := IL.out; simp [intOf] <;> omega
      · have nz : (x1 != 0) = true := by simpa using cx
        have E := Lib.hid (show RS = (x1, x2) by
          rw [E0.out, firstP_some IN.out HA.out (by rw [← HX.out]; exact cx), ← HX.out, if_pos cx])
        clear E0 cx HX
        go_wp2
        refine bodyPost_ret (v := .agg #[.int .i64 x1, .int .i64 x2]) (by simp [results, Tryz.results6, go_sem, *]) rfl ⟨by rw [E.out]; rfl, ?_⟩
        repeat' (first | (with_reducible exact KK3.out _) | (with_reducible refine Below.setCell ?_ ?_ _) | (with_reducible exact PA.out))
    · have g1 : ¬ (i : Int) < (nk : Int) := by omega
      have hin : i = nk := by omega
      subst hin
      have E0 := Lib.hid (show RS = (if 64 < ev then (137, pz) else pbS rc qa) by rw [E0.out, firstP_none HA.out, if_neg (by simp)])
      clear ci hi HA
      have RSz := Lib.hid (fun q : Wb z.at => (RS2.out z).below q.bel)
      have RPz := Lib.hid (fun q : Wb z.at => (RP2.out z).below q.bel)
      have KKz := Lib.hid (fun q : Wb z.at => (KK2.out z).trans (q.bel.mono (KK2.out z).size))
      have s0 := (RS2.out z).cell 0
      have s1 := (RS2.out z).cell 1
      have s2 := (RS2.out z).cell 2
      have s3 := (RS2.out z).cell 3
      have s4 := (RS2.out z).cell 4
      have s5 := (RS2.out z).cell 5
      have s6 := (RS2.out z).cell 6
      have s7 := (RS2.out z).cell 7
      have s8 := (RS2.out z).cell 8
      have s9 := (RS2.out z).cell 9
      have s10 := (RS2.out z).cell 10
      have s11 := (RS2.out z).cell 11
      have s12 := (RS2.out z).cell 12
      have s13 := (RS2.out z).cell 13
      have s14 := (RS2.out z).cell 14
      have s15 := (RS2.out z).cell 15
      simp only [List.getElem?_cons_zero, List.getElem?_cons_succ] at s0 s1 s2 s3 s4 s5 s6 s7 s8 s9 s10 s11 s12 s13 s14 s15
      go_wp2_with fail
      refine (EC.out _ (KK2.out z)).mono ?_
      rintro e w3 ⟨rfl, b⟩
      obtain ⟨v3, rfl⟩ := Wb.start b
      clear b s0 s1 s2 s3 s4 s5 s6 s7 s8 s9 s10 s11 s12 s13 s14 s15
      have s4 := fun z : Wb z.at => (RSz.out z).cell 4
      have s5 := fun z : Wb z.at => (RSz.out z).cell 5
      have s6 := fun z : Wb z.at => (RSz.out z).cell 6
      have s7 := fun z : Wb z.at => (RSz.out z).cell 7
      have s8 := fun z : Wb z.at => (RSz.out z).cell 8
      have s9 := fun z : Wb z.at => (RSz.out z).cell 9
      have s13 := fun z : Wb z.at => (RSz.out z).cell 13
      have s15 := fun z : Wb z.at => (RSz.out z).cell 15
      have p0 := fun z : Wb z.at => (RPz.out z).cell 0
      have p1 := fun z : Wb z.at => (RPz.out z).cell 1
      have pf := fun (z : Wb z.at) (k : Nat) => (RPz.out z).free k
      simp only [List.getElem?_cons_zero, List.getElem?_cons_succ] at s4 s5 s6 s7 s8 s9 s13 s15 p0 p1
      by_cases ce : 64 < ev
      · have E := Lib.hid (show RS = (137, pz) by rw [E0.out, if_pos ce])
        have PB := Lib.hid (problem_at 137 pz (by decide))
        clear E0
        go_wp2_with fail
        refine (PL0.out _ (KKz.out _)).mono ?_
        rintro e w4 ⟨rfl, rfl⟩
        go_wp2_with fail
        refine (PB.out _).mono ?_
        rintro e w5 ⟨rfl, b⟩
        obtain ⟨v5, rfl⟩ := Wb.next b
        clear b
        go_wp2
        refine bodyPost_ret (v := .agg #[.int .i64 137, .int .i64 pz]) (by simp [results, Tryz.results6, go_sem, *]) rfl ⟨by rw [E.out]; rfl, ?_⟩
        repeat' (first | (with_reducible exact KKz.out _) | (with_reducible refine Below.setCell ?_ ?_ _) | (with_reducible exact PA.out))
      obtain ⟨r, hr⟩ : ∃ r, r = pbS rc qa := ⟨_, rfl⟩
      have PB := Lib.hid (fun U => problem_any rc qa U)
      have E := Lib.hid (show RS = r by rw [E0.out, if_neg ce, hr])
      rw [← hr] at PB
      clear E0 hr
      obtain ⟨r1, r2⟩ := r
      have PB := Lib.hid (show ∀ U, Calls Tryz.prog 14 #[.int .i64 rc, .int .i64 qa] U fun x w' => x = .returned (.agg #[.int .i64 r1, .int .i64 r2]) ∧ Below U.heap.size U w' from PB.out)
      go_upto_region 19 with fail
      have RCz := Lib.hid (fun q : Wb v3.at => RC.out q.at ((KKz.out v3).trans (q.bel.mono (KKz.out v3).size)))
      have d4 := fun q : Wb v3.at => keep_below q.bel _ _ (s4 v3)
      have d5 := fun q : Wb v3.at => keep_below q.bel _ _ (s5 v3)
      have d6 := fun q : Wb v3.at => keep_below q.bel _ _ (s6 v3)
      have d7 := fun q : Wb v3.at => keep_below q.bel _ _ (s7 v3)
      have d8 := fun q : Wb v3.at => keep_below q.bel _ _ (s8 v3)
      have d9 := fun q : Wb v3.at => keep_below q.bel _ _ (s9 v3)
      have d15 := fun q : Wb v3.at => keep_below q.bel _ _ (s15 v3)
      clear s4 s5 s6 s7 s8 s9 s13 s15
      refine wp_region_wb_tail 9 (by kernel_rfl) (by kernel_rfl) ?_
      simp only [List.take_succ_cons, List.take_zero, List.drop_succ_cons, List.drop_zero]
      repeat (go_big_quiet_step (first | (go_at_call 17; with_reducible exact Calls.wb (x := _) (RCz.out _)) | (go_at_call 14; with_reducible exact Calls.wb (x := _) (PB.out _))))
      refine wpQuiet_nil ?_
      rintro _ ⟨xx, rfl⟩
      obtain ⟨v6, hv6⟩ : ∃ v : Wb z.at, v.at = xx.at := ⟨⟨xx.at, v3.bel.trans (xx.bel.mono v3.bel.size)⟩, rfl⟩
      rw [← hv6]
      clear d4 d5 d6 d7 d8 d9 d15 hv6
      go_wp2
      refine bodyPost_ret (v := .agg #[.int .i64 r1, .int .i64 r2]) (by simp [results, Tryz.results6, go_sem, *]) rfl ⟨by rw [E.out]; rfl, ?_⟩
      repeat' (first | (with_reducible exact KKz.out _) | (with_reducible refine Below.setCell ?_ ?_ _) | (with_reducible exact PA.out))
end Go.Proofs.YtlflknfkenfpiaaGreatDoor
