/-
  Texts of one claim, merged.
-/
import Derived.Test.YtlflknfkenfpiaaGreatDoorF5
import Derived.Test.YtlflknfkenfpiaaGreatDoorF4
import Derived.Test.YtlflknfkenfpiaaGreatDoorF7
import Derived.Test.YtlflknfkenfpiaaGreatDoorB7
import Derived.Test.YtlflknfkenfpiaaGreatDoorQ1z
import Derived.Test.YtlflknfkenfpiaaGreatDoorR34
import Derived.Lay
import Derived.PinnedBridge
import Derived.Test.YtlflknfkenfpiaaGreatDoorTie
import Derived.Test.YtlflknfkenfpiaaGreatDoorB8
import Derived.LaidMore
import Derived.LaidLaws
import Derived.LaidHandle
import Derived.MakeChecks
import Derived.OpenShut
import Derived.Stop.Joined
set_option linter.unusedSimpArgs false
set_option linter.unusedVariables false
namespace GrN
theorem one_args (t : GrC.Cnd) (h : okA t = true) : t.cnt = 1 := by
  have h : t.args.length = 0 := by simpa [okA] using h
  rw [GrC.cnt_args, List.eq_nil_of_length_eq_zero h]
  rfl
theorem sum_ones : ∀ L : List GrC.Cnd, (L.map fun _ => 1).sum = L.length
  | [] => rfl
  | a :: l => by rw [List.map_cons, List.sum_cons, sum_ones l, List.length_cons]; omega
theorem few_cnt {nc : Nat} {Ks : List K} {c : GrC.Cnd} (h : fewB nc Ks c.args = true) : c.cnt ≤ 3 := by
  unfold fewB at h
  simp only [Bool.and_eq_true, decide_eq_true_eq, List.all_eq_true] at h
  obtain ⟨⟨⟨⟨_, _⟩, h3⟩, _⟩, h5⟩ := h
  rw [GrC.cnt_args]
  have : c.args.map GrC.Cnd.cnt = c.args.map fun _ => 1 := List.map_congr_left fun t ht => one_args t (h5 t ht)
  rw [this, sum_ones]
  omega
theorem few_core {nc : Nat} {Ks : List K} {ts : List GrC.Cnd} (h : fewB nc Ks ts = true) : nc ≤ 300 ∧ Ks.length ≤ 6 ∧ ∀ c ∈ Ks, smallK c := by
  unfold fewB at h
  simp only [Bool.and_eq_true, decide_eq_true_eq, List.all_eq_true] at h
  obtain ⟨⟨⟨⟨h1, h2⟩, h3⟩, h4⟩, h5⟩ := h
  refine ⟨h1, h2, fun c hc => ?_⟩
  have := h4 c hc
  simp only [okK, Bool.and_eq_true, decide_eq_true_eq] at this
  exact ⟨this.1.1, this.1.2⟩
end GrN
namespace Go.Proofs.YtlflknfkenfpiaaGreatDoor
open Go.RowKit GrN GrC
set_option maxRecDepth 100000 in
set_option maxHeartbeats 25600000 in
theorem checks_walk (TS PT : List Int) (Cs : List (Int × Int)) (PC : List Int) (Ks : List GrN.K) (PK : List Int) (PI : List (List Int)) (c : Cnd) (nm : ByteArray) (pc : Option Addr) (nc cc : Nat) (pk : Option Addr) (nk ck : Nat) (fa : Bool) (pg : Option Addr) (ng cg : Nat) (pt : Option Addr) (nt ct : Nat) (qt : Option Addr) (lt dt : Nat) (qc : Option Addr) (lc dc : Nat) (qk : Option Addr) (lk dk : Nat) (qi : Option Addr) (li di : Nat) (qa : Int) (w : World)
    (hnt : nt = TS.length) (hmt : nt ≤ maxLen) (hbt : ∀ x ∈ TS, 0 ≤ x ∧ x < 18446744073709551616) (hT : NAt .u64 w pt TS) (hlt : lt = PT.length) (hmlt : lt ≤ maxLen) (hPT : NAt .i64 w qt PT)
    (hnc : nc = Cs.length) (hbc : ∀ x ∈ Cs, 0 ≤ x.1 ∧ x.1 < 18446744073709551616) (hC : DsAt w pc Cs) (hlc : lc = PC.length) (hmlc : lc ≤ maxLen) (hPC : NAt .i64 w qc PC)
    (hnk : nk = Ks.length) (hK : KsAt w pk Ks) (hc : ∀ c ∈ Ks, (∀ x ∈ c.code, -9223372036854775808 ≤ x.imm ∧ x.imm ≤ 9223372036854775807) ∧ (∀ x ∈ c.hand, -9223372036854775808 ≤ x.imm ∧ x.imm ≤ 9223372036854775807) ∧ 0 ≤ c.tab ∧ c.tab < 18446744073709551616)
    (hng : ng = c.args.length) (hl : LAt w c.args pg 0) (hlk : lk = PK.length) (hmk : lk ≤ maxLen) (hPK : NAt .i64 w qk PK) (hli : li = PI.length) (hmi : li ≤ maxLen) (hPI : PsAt w qi PI) (hs : ShAt w)
    (hA : ∀ U, Below w.heap.size w U → Calls Tryz.prog 4 #[] U fun e w' => e = .returned (.bool true) ∧ Below U.heap.size U w') :
    Calls Tryz.prog 3 #[.agg #[.string nm, .slice pc nc cc, .slice pk nk ck, .bool fa, .int .i64 c.k, .int .i64 c.co, .int .i64 c.r, .int .u64 c.ad, .int .u64 c.va, .slice pg ng cg], .slice pt nt ct, .agg #[.slice qt lt dt, .slice qc lc dc, .slice qk lk dk, .slice qi li di, .int .i64 qa]] w fun e w' => e = .returned (.bool true) ∧ Below w.heap.size w w' := by
  have FW := Lib.hid (fun (U : World) (b : Below w.heap.size w U) => few_any Ks c.args nm pc nc cc pk nk ck fa c.k c.co c.r c.ad c.va pg ng cg U hnk (hK.below b) hng (hl.below b))
  have AW := Lib.hid hA
  obtain ⟨R, hR⟩ : ∃ x, x = checkS (ans (firstF (tabF TS) TS.length) PT) (cellsA Cs PC) nk (plc PK 4) (coreF encB Ks TS PK PI) (EventsS Ks) (plc PK 0) (c.rightly (nk : Int) : Int) qa := ⟨_, rfl⟩
  have BIG := Lib.hid (fun (hf : fewB nc Ks c.args = true) (h50 : nt ≤ 50) (U : World) (b : Below w.heap.size w U) => (show (Calls Tryz.prog 6 #[.agg #[.string nm, .slice pc nc cc, .slice pk nk ck, .bool fa, .int .i64 c.k, .int .i64 c.co, .int .i64 c.r, .int .u64 c.ad, .int .u64 c.va, .slice pg ng cg, .slice pt nt ct, .slice qt lt dt, .slice qc lc dc, .slice qk lk dk, .slice qi li di, .int .i64 qa]] U fun e w' => e = .returned (pbV R) ∧ Below U.heap.size U w') ∧ (Calls Tryz.prog 7 #[.agg #[.string nm, .slice pc nc cc, .slice pk nk ck, .bool fa, .int .i64 c.k, .int .i64 c.co, .int .i64 c.r, .int .u64 c.ad, .int .u64 c.va, .slice pg ng cg, .slice pt nt ct, .slice qt lt dt, .slice qc lc dc, .slice qk lk dk, .slice qi li di, .int .i64 qa, .int .i64 0]] U fun e w' => e = .returned (.tuple #[.int .i64 R.1, .int .i64 R.2]) ∧ Below U.heap.size U w') ∧
      (Calls Tryz.prog 8 #[.agg #[.string nm, .slice pc nc cc, .slice pk nk ck, .bool fa, .int .i64 c.k, .int .i64 c.co, .int .i64 c.r, .int .u64 c.ad, .int .u64 c.va, .slice pg ng cg]] U fun e w' => e = .returned (.int .i64 (EventsS Ks)) ∧ Below U.heap.size U w') ∧ (Calls Tryz.prog 9 #[.agg #[.string nm, .slice pc nc cc, .slice pk nk ck, .bool fa, .int .i64 c.k, .int .i64 c.co, .int .i64 c.r, .int .u64 c.ad, .int .u64 c.va, .slice pg ng cg]] U fun e w' => e = .returned (.int .i64 (EventsS Ks)) ∧ Below U.heap.size U w') from by
    obtain ⟨f1, f2, f3⟩ := few_core hf
    have f4 := few_cnt hf
    have hT' := hT.below b
    rw [hR]
    refine ⟨?_, ?_, ?_, ?_⟩
    · exact pcheck_any TS PT Cs PC Ks PK PI (c.rightly (nk : Int) : Int) nm pc nc cc pk nk ck fa c.k c.co c.r c.ad c.va pg ng cg pt nt ct qt lt dt qc lc dc qk lk dk qi li di qa U hnt (by omega) hbt hT' hlt hmlt (hPT.below b) hnc (by omega) hbc (hC.below b) hlc hmlc (hPC.below b) hnk (by omega) (hK.below b) (fun k hk => ⟨f3 k hk, hc k hk⟩) hlk hmk (hPK.below b) hli hmi (hPI.below b) (hs.below b)
        (fun V bV => lright_any (nk : Int) c pg ng cg V (by omega) hng ((hl.below b).below bV))
    · exact rcheck_all TS PT Cs PC Ks PK PI (c.rightly (nk : Int) : Int) nm pc nc cc pk nk ck fa c.k c.co c.r c.ad c.va pg ng cg pt nt ct qt lt dt qc lc dc qk lk dk qi li di qa 0 U hnt (by omega) hbt hT' hlt hmlt (hPT.below b) hnc (by omega) hbc (hC.below b) hlc hmlc (hPC.below b) hnk (by omega) (hK.below b) (fun k hk => ⟨f3 k hk, (hc k hk).2.2⟩) hlk hmk (hPK.below b) hli hmi (hPI.below b)
        (fun V bV => rrightly_any (nk : Int) c pg ng cg V (by omega) hng ((hl.below b).below bV))
    · exact cevents_any Ks nm pc nc cc pk nk ck fa c.k c.co c.r c.ad c.va pg ng cg U hnk (by omega) (hK.below b) f3
    · exact revents_any Ks nm pc nc cc pk nk ck fa c.k c.co c.r c.ad c.va pg ng cg U hnk (by omega) (hK.below b) f3))
  obtain ⟨r1, r2⟩ := R
  obtain ⟨ev, hev⟩ : ∃ x, x = EventsS Ks := ⟨_, rfl⟩
  rw [← hev] at BIG
  obtain ⟨fb, hfb⟩ : ∃ b, b = fewB nc Ks c.args := ⟨_, rfl⟩
  rw [← hfb] at FW BIG
  have n0 : (0 : Int) ≤ (nt : Int) := by omega
  clear hnt hmt hbt hT hlt hmlt hPT hnc hbc hC hlc hmlc hPC hnk hK hc hng hl hlk hmk hPK hli hmi hPI hs hA hR hev hfb
  obtain ⟨k0, hk0⟩ : ∃ x, x = c.k := ⟨_, rfl⟩
  obtain ⟨k1, hk1⟩ : ∃ x, x = c.co := ⟨_, rfl⟩
  obtain ⟨k2, hk2⟩ : ∃ x, x = c.r := ⟨_, rfl⟩
  obtain ⟨k3, hk3⟩ : ∃ x, x = c.ad := ⟨_, rfl⟩
  obtain ⟨k4, hk4⟩ : ∃ x, x = c.va := ⟨_, rfl⟩
  rw [← hk0, ← hk1, ← hk2, ← hk3, ← hk4] at FW BIG ⊢
  clear hk0 hk1 hk2 hk3 hk4
  go_enter Tryz.func3, Tryz.ntmps3
  go_upto_region 1 with fail
  refine to_cls ?_
  intro U0 hU0 y0
  have RT := Lib.hid (show ∀ z : Wb U0, Row z.at w.heap.size [.string nm, .slice pc nc cc, .slice pk nk ck, .bool fa, .int .i64 k0, .int .i64 k1, .int .i64 k2, .int .u64 k3, .int .u64 k4, .slice pg ng cg] 29 from Row.next ((Row.new _ [.string nm, .slice pc nc cc, .slice pk nk ck, .bool fa, .int .i64 k0, .int .i64 k1, .int .i64 k2, .int .u64 k3, .int .u64 k4, .slice pg ng cg] _).old _) hU0)
  have RL := Lib.hid (show ∀ z : Wb U0, Row z.at (w.heap.size + 1) [.slice qt lt dt, .slice qc lc dc, .slice qk lk dk, .slice qi li di, .int .i64 qa] 34 from Row.next (Row.new' _ [.slice qt lt dt, .slice qc lc dc, .slice qk lk dk, .slice qi li di, .int .i64 qa] _ _ (by simp)) hU0)
  have KK := Lib.hid (KB.next (KB.alloc (KB.alloc (Below.refl w.heap.size w) _) _) hU0)
  clear hU0
  obtain ⟨pT, hpT⟩ : ∃ b, b = w.heap.size := ⟨_, rfl⟩
  rw [← hpT] at RT RL
  simp only [← hpT]
  clear hpT
  go_wp2_with fail
  refine (AW.out _ (KK.out _)).mono ?_
  rintro e w1 ⟨rfl, b⟩
  obtain ⟨v1, rfl⟩ := Wb.next b
  clear b
  have t0 := fun z : Wb U0 => (RT.out z).cell 0
  have t1 := fun z : Wb U0 => (RT.out z).cell 1
  have t2 := fun z : Wb U0 => (RT.out z).cell 2
  have t3 := fun z : Wb U0 => (RT.out z).cell 3
  have t4 := fun z : Wb U0 => (RT.out z).cell 4
  have t5 := fun z : Wb U0 => (RT.out z).cell 5
  have t6 := fun z : Wb U0 => (RT.out z).cell 6
  have t7 := fun z : Wb U0 => (RT.out z).cell 7
  have t8 := fun z : Wb U0 => (RT.out z).cell 8
  have t9 := fun z : Wb U0 => (RT.out z).cell 9
  simp only [List.getElem?_cons_zero, List.getElem?_cons_succ] at t0 t1 t2 t3 t4 t5 t6 t7 t8 t9
  go_wp2_with fail
  refine (FW.out _ (KK.out _)).mono ?_
  rintro e w2 ⟨rfl, b⟩
  obtain ⟨v2, rfl⟩ := Wb.next b
  clear b
  cases fb with
  | false =>
    go_wp2
    go_ret
    exact ⟨rfl, KK.out _⟩
  | true =>
    by_cases g5 : 50 < nt
    · have g1 : (50 : Int) < (nt : Int) := by omega
      clear g5
      go_wp2
      go_ret
      exact ⟨rfl, KK.out _⟩
    have g1 : ¬ (50 : Int) < (nt : Int) := by omega
    have BG := Lib.hid (BIG.out rfl (by omega))
    have BP := Lib.hid (fun (U : World) (b : Below w.heap.size w U) => (show Calls Tryz.prog 6 #[.agg #[.string nm, .slice pc nc cc, .slice pk nk ck, .bool fa, .int .i64 k0, .int .i64 k1, .int .i64 k2, .int .u64 k3, .int .u64 k4, .slice pg ng cg, .slice pt nt ct, .slice qt lt dt, .slice qc lc dc, .slice qk lk dk, .slice qi li di, .int .i64 qa]] U fun e w' => e = .returned (.agg #[.int .i64 r1, .int .i64 r2]) ∧ Below U.heap.size U w' from (BG.out U b).1))
    clear g5 BIG FW AW
    have l0 := fun z : Wb U0 => (RL.out z).cell 0
    have l1 := fun z : Wb U0 => (RL.out z).cell 1
    have l2 := fun z : Wb U0 => (RL.out z).cell 2
    have l3 := fun z : Wb U0 => (RL.out z).cell 3
    have l4 := fun z : Wb U0 => (RL.out z).cell 4
    simp only [List.getElem?_cons_zero, List.getElem?_cons_succ] at l0 l1 l2 l3 l4
    go_wp2_with fail
    clear g1
    refine (BP.out _ (KK.out _)).mono ?_
    rintro e w3 ⟨rfl, b⟩
    obtain ⟨v3, rfl⟩ := Wb.next b
    clear b
    go_upto_region 6 with fail
    refine to_cls ?_
    intro U1 hU1 y1
    have r9 : ∀ q : Wb U1, Row q.at v3.at.heap.size [.int .i64 r1, .int .i64 r2] 39 := Row.next (Row.new _ [.int .i64 r1, .int .i64 r2] _) hU1
    have K1 := Lib.hid (fun q : Wb U1 => ((KB.alloc (Below.refl v3.at.heap.size v3.at) _).trans ((hU1.mono (by simp)).trans (q.bel.mono (Nat.le_trans (by simp) hU1.size)))))
    have RT1 := Lib.hid (fun q : Wb U1 => (RT.out v3).below (K1.out q))
    have RL1 := Lib.hid (fun q : Wb U1 => (RL.out v3).below (K1.out q))
    have KK1 := Lib.hid (fun q : Wb U1 => (KK.out v3).trans ((K1.out q).mono (KK.out v3).size))
    have n0' := fun q : Wb U1 => (r9 q).cell 0
    have n1' := fun q : Wb U1 => (r9 q).cell 1
    simp only [List.getElem?_cons_zero, List.getElem?_cons_succ] at n0' n1'
    clear r9 hU1
    obtain ⟨pN, hpN⟩ : ∃ b, b = v3.at.heap.size := ⟨_, rfl⟩
    rw [← hpN] at n0' n1'
    simp only [← hpN]
    clear hpN t0 t1 t2 t3 t4 t5 t6 t7 t8 t9 l0 l1 l2 l3 l4
    have t0 := fun z : Wb U1 => (RT1.out z).cell 0
    have t1 := fun z : Wb U1 => (RT1.out z).cell 1
    have t2 := fun z : Wb U1 => (RT1.out z).cell 2
    have t3 := fun z : Wb U1 => (RT1.out z).cell 3
    have t4 := fun z : Wb U1 => (RT1.out z).cell 4
    have t5 := fun z : Wb U1 => (RT1.out z).cell 5
    have t6 := fun z : Wb U1 => (RT1.out z).cell 6
    have t7 := fun z : Wb U1 => (RT1.out z).cell 7
    have t8 := fun z : Wb U1 => (RT1.out z).cell 8
    have t9 := fun z : Wb U1 => (RT1.out z).cell 9
    have l0 := fun z : Wb U1 => (RL1.out z).cell 0
    have l1 := fun z : Wb U1 => (RL1.out z).cell 1
    have l2 := fun z : Wb U1 => (RL1.out z).cell 2
    have l3 := fun z : Wb U1 => (RL1.out z).cell 3
    have l4 := fun z : Wb U1 => (RL1.out z).cell 4
    simp only [List.getElem?_cons_zero, List.getElem?_cons_succ] at t0 t1 t2 t3 t4 t5 t6 t7 t8 t9 l0 l1 l2 l3 l4
    go_wp2_with fail
    refine ((BG.out _ (KK1.out _)).2.1).mono ?_
    rintro e w4 ⟨rfl, b⟩
    obtain ⟨v4, rfl⟩ := Wb.next b
    clear b
    go_upto_region 7 with fail
    have EC := Lib.hid (fun q : Wb v4.at => (BG.out q.at ((KK1.out v4).trans (q.bel.mono (KK1.out v4).size))).2.2.1)
    have ER := Lib.hid (fun q : Wb v4.at => (BG.out q.at ((KK1.out v4).trans (q.bel.mono (KK1.out v4).size))).2.2.2)
    have m0 := fun q : Wb v4.at => keep_below q.bel _ _ (n0' v4)
    have m1 := fun q : Wb v4.at => keep_below q.bel _ _ (n1' v4)
    have u0 := fun q : Wb v4.at => keep_below q.bel _ _ (t0 v4)
    have u1 := fun q : Wb v4.at => keep_below q.bel _ _ (t1 v4)
    have u2 := fun q : Wb v4.at => keep_below q.bel _ _ (t2 v4)
    have u3 := fun q : Wb v4.at => keep_below q.bel _ _ (t3 v4)
    have u4 := fun q : Wb v4.at => keep_below q.bel _ _ (t4 v4)
    have u5 := fun q : Wb v4.at => keep_below q.bel _ _ (t5 v4)
    have u6 := fun q : Wb v4.at => keep_below q.bel _ _ (t6 v4)
    have u7 := fun q : Wb v4.at => keep_below q.bel _ _ (t7 v4)
    have u8 := fun q : Wb v4.at => keep_below q.bel _ _ (t8 v4)
    have u9 := fun q : Wb v4.at => keep_below q.bel _ _ (t9 v4)
    clear n0' n1' BG t0 t1 t2 t3 t4 t5 t6 t7 t8 t9 l0 l1 l2 l3 l4
    refine wp_region_wb (by kernel_rfl) (by kernel_rfl) ?_
    repeat (go_big_quiet_step (first | (go_at_call 8; with_reducible exact Calls.wb (x := _) (EC.out _)) | (go_at_call 9; with_reducible exact Calls.wb (x := _) (ER.out _))))
    refine wpQuiet_nil ?_
    rintro _ ⟨x1', rfl⟩
    obtain ⟨z2, hz2⟩ : ∃ z2 : Wb U1, z2.at = x1'.at := ⟨⟨x1'.at, v4.bel.trans (x1'.bel.mono v4.size)⟩, rfl⟩
    rw [← hz2]
    clear m0 m1 u0 u1 u2 u3 u4 u5 u6 u7 u8 u9 hz2 EC ER
    go_wp2
    go_ret
    exact ⟨by simp, KK1.out z2⟩
end Go.Proofs.YtlflknfkenfpiaaGreatDoor
namespace Go.Proofs.YtlflknfkenfpiaaGreatDoor
open Go.ChangeShapes Go.WideShapes Go.ChangeAt Go.RowKit
def litV {H : Type} : DataW H → Value
  | .lit (.int k n) => .int k n
  | .lit (.bool b) => .bool b
  | _ => undef
def rowV {H : Type} : DataW H → List Value
  | .agg l => l.map litV
  | _ => []
def rowsOf {H : Type} : DataW H → List (DataW H)
  | .agg l => l
  | _ => []
theorem list9 {α : Type} (l : List α) (h : l.length = 9) : ∃ x0 x1 x2 x3 x4 x5 x6 x7 x8, l = [x0, x1, x2, x3, x4, x5, x6, x7, x8] := by
  match l, h with
  | [x0, x1, x2, x3, x4, x5, x6, x7, x8], _ => exact ⟨x0, x1, x2, x3, x4, x5, x6, x7, x8, rfl⟩
theorem row_cells {H : Type} {enc : TypeId × Value → H} {w : World} {base : Nat} {sp : Nat → Bool} {held : Bool} {m : Nat} {l : List Value} {x : DataW H × List MemPlace}
    (h : DataW.trod enc Tryz.prog w base sp held m 177 l = some x) : l = rowV x.1 := by
  obtain ⟨xs, n, _, rfl, hl, hx, hg⟩ := DataW.trod_struct Tryz.underlying177 h
  have h9 : l.length = 9 := by rw [hl]; kernel_rfl
  obtain ⟨c0, c1, c2, c3, c4, c5, c6, c7, c8, rfl⟩ := list9 l h9
  obtain ⟨y0, y1, y2, y3, y4, y5, y6, y7, y8, rfl⟩ := list9 xs hx
  have k1 : Tryz.prog.cellsOf 175 = 1 := by kernel_rfl
  have k2 : Tryz.prog.cellsOf 4 = 1 := by kernel_rfl
  have k3 : Tryz.prog.cellsOf 3 = 1 := by kernel_rfl
  have g0 : DataW.trod enc Tryz.prog w base sp held n 175 (([c0, c1, c2, c3, c4, c5, c6, c7, c8].drop 0).take (Tryz.prog.cellsOf 175)) = some y0 := hg 0 _ rfl
  have g1 : DataW.trod enc Tryz.prog w base sp held n 4 (([c0, c1, c2, c3, c4, c5, c6, c7, c8].drop 1).take (Tryz.prog.cellsOf 4)) = some y1 := hg 1 _ rfl
  have g2 : DataW.trod enc Tryz.prog w base sp held n 4 (([c0, c1, c2, c3, c4, c5, c6, c7, c8].drop 2).take (Tryz.prog.cellsOf 4)) = some y2 := hg 2 _ rfl
  have g3 : DataW.trod enc Tryz.prog w base sp held n 4 (([c0, c1, c2, c3, c4, c5, c6, c7, c8].drop 3).take (Tryz.prog.cellsOf 4)) = some y3 := hg 3 _ rfl
  have g4 : DataW.trod enc Tryz.prog w base sp held n 3 (([c0, c1, c2, c3, c4, c5, c6, c7, c8].drop 4).take (Tryz.prog.cellsOf 3)) = some y4 := hg 4 _ rfl
  have g5 : DataW.trod enc Tryz.prog w base sp held n 3 (([c0, c1, c2, c3, c4, c5, c6, c7, c8].drop 5).take (Tryz.prog.cellsOf 3)) = some y5 := hg 5 _ rfl
  have g6 : DataW.trod enc Tryz.prog w base sp held n 3 (([c0, c1, c2, c3, c4, c5, c6, c7, c8].drop 6).take (Tryz.prog.cellsOf 3)) = some y6 := hg 6 _ rfl
  have g7 : DataW.trod enc Tryz.prog w base sp held n 3 (([c0, c1, c2, c3, c4, c5, c6, c7, c8].drop 7).take (Tryz.prog.cellsOf 3)) = some y7 := hg 7 _ rfl
  have g8 : DataW.trod enc Tryz.prog w base sp held n 3 (([c0, c1, c2, c3, c4, c5, c6, c7, c8].drop 8).take (Tryz.prog.cellsOf 3)) = some y8 := hg 8 _ rfl
  rw [k1] at g0
  rw [k2] at g1
  rw [k2] at g2
  rw [k2] at g3
  rw [k3] at g4
  rw [k3] at g5
  rw [k3] at g6
  rw [k3] at g7
  rw [k3] at g8
  simp only [List.drop_zero, List.drop_succ_cons, List.take_succ_cons, List.take_zero] at g0 g1 g2 g3 g4 g5 g6 g7 g8
  obtain ⟨a0, e0, f0, _⟩ := DataW.trod_int Tryz.underlying175 g0
  obtain ⟨a1, e1, f1⟩ := DataW.trod_bool Tryz.underlying4 g1
  obtain ⟨a2, e2, f2⟩ := DataW.trod_bool Tryz.underlying4 g2
  obtain ⟨a3, e3, f3⟩ := DataW.trod_bool Tryz.underlying4 g3
  obtain ⟨a4, e4, f4, _⟩ := DataW.trod_int Tryz.underlying3 g4
  obtain ⟨a5, e5, f5, _⟩ := DataW.trod_int Tryz.underlying3 g5
  obtain ⟨a6, e6, f6, _⟩ := DataW.trod_int Tryz.underlying3 g6
  obtain ⟨a7, e7, f7, _⟩ := DataW.trod_int Tryz.underlying3 g7
  obtain ⟨a8, e8, f8, _⟩ := DataW.trod_int Tryz.underlying3 g8
  simp only [List.cons.injEq, and_true] at e0 e1 e2 e3 e4 e5 e6 e7 e8
  subst e0 e1 e2 e3 e4 e5 e6 e7 e8 f0 f1 f2 f3 f4 f5 f6 f7 f8
  rfl
theorem gShapes : Tryz.prog.globalNamed "granule/isa.shapes" = some 5 := by kernel_rfl
theorem tShapes : (Tryz.prog.globals[5]?).map (·.type) = some 178 := by kernel_rfl
theorem tab_rows : (rowsOf (Rows.laid_granule_isa_shapes (H := Unit))).map rowV = (List.range 24).map (fun r => (shapeCells.drop (r * 9)).take 9) := by kernel_rfl
theorem shape_len : shapeCells.length = 216 := by kernel_rfl
theorem shat_of_parts {W : World} {cs0 : Array Value} {f0 : Nat} {base : Nat} {sp : Nat → Bool} {held : Bool} {p0 : List MemPlace} {enc : TypeId × Value → Unit} (hv0 : W.var? Tryz.prog "granule/isa.shapes" = some cs0) (hd0 : DataW.trod enc Tryz.prog W base sp held f0 178 cs0.toList = some (Rows.laid_granule_isa_shapes, p0)) : ShAt W := by
  have hg0 := gShapes
  obtain ⟨xs, m, _, hx, hl, hlen, hel⟩ := DataW.trod_array Tryz.underlying178 hd0
  have c9 : Tryz.prog.cellsOf 177 = 9 := by kernel_rfl
  have c216 : Tryz.prog.cellsOf 178 = 216 := by kernel_rfl
  rw [c9] at hel
  rw [c216] at hl
  have hr : rowsOf (Rows.laid_granule_isa_shapes (H := Unit)) = xs.map (·.1) := congrArg (fun z => rowsOf z.1) hx
  have hrow : ∀ r, r < 24 → (cs0.toList.drop (r * 9)).take 9 = (shapeCells.drop (r * 9)).take 9 := fun r hr24 => by
    have h1 := hel r hr24
    rw [List.getElem?_eq_getElem (by omega)] at h1
    have h2 := row_cells h1
    have h3 := congrArg (fun l => l[r]?) tab_rows
    simp only [hr, List.getElem?_map, List.getElem?_range hr24, Option.map_some] at h3
    rw [List.getElem?_eq_getElem (by omega)] at h3
    simp only [Option.map_some, Option.some.injEq] at h3
    rw [h2, h3]
  intro i hi
  have hc := World.var?_cell hg0 hv0 i
  rw [hc]
  have h1 := congrArg (fun l => l[i % 9]?) (hrow (i / 9) (by omega))
  simp only [List.getElem?_take, List.getElem?_drop, if_pos (show i % 9 < 9 by omega), show i / 9 * 9 + i % 9 = i by omega] at h1
  rw [← Array.getElem?_toList, h1, List.getD_eq_getElem?_getD, List.getElem?_eq_getElem (by rw [shape_len]; omega)]
  rfl
end Go.Proofs.YtlflknfkenfpiaaGreatDoor
namespace Go.Proofs.YtlflknfkenfpiaaGreatDoor
open Go.RowKit GrG
abbrev laidL : List (String × DataW Unit) := [("math/bits.deBruijn32tab", Rows.laid_math_bits_deBruijn32tab), ("math/bits.deBruijn64tab", Rows.laid_math_bits_deBruijn64tab), ("internal/strconv.uint64pow10", Rows.laid_internal_strconv_uint64pow10), ("unicode/utf8.acceptRanges", Rows.laid_unicode_utf8_acceptRanges), ("granule/isa.shapes", Rows.laid_granule_isa_shapes), ("granule/asm.names", Rows.laid_granule_asm_names), ("granule/asm.conds", Rows.laid_granule_asm_conds), ("granule/asm.barriers", Rows.laid_granule_asm_barriers), ("granule/asm.flushes", Rows.laid_granule_asm_flushes), ("granule/asm.systems", Rows.laid_granule_asm_systems), ("unicode/utf8.first", Rows.laid_unicode_utf8_first)]
theorem lits_at {W : World} (hL : laidMetH Tryz.prog laidL W) (hsh : W.ShapedOpen Tryz.prog) : ∀ p ∈ GrG.lits, RowAt W p.1 p.2 := by
  rw [MakeChecks.laidMetH_plain _ _ _ (by kernel_rfl)] at hL
  obtain ⟨ps, hL, _⟩ := hL
  intro p hp
  simp only [GrG.lits, List.mem_cons, List.not_mem_nil, or_false] at hp
  rcases hp with rfl | rfl | rfl | rfl | rfl | rfl | rfl | rfl | rfl | rfl
  · exact rowAt_laid (n := "math/bits.deBruijn32tab") (t := (Tryz.prog.globals[10]?.map (·.type)).getD 0) (d := Rows.laid_math_bits_deBruijn32tab) hL hsh (by simp) (by kernel_rfl) (by kernel_rfl) (of_decide_eq_true (by kernel_rfl)) (by kernel_rfl) (by kernel_rfl) (by kernel_rfl)
  · exact rowAt_laid (n := "math/bits.deBruijn64tab") (t := (Tryz.prog.globals[11]?.map (·.type)).getD 0) (d := Rows.laid_math_bits_deBruijn64tab) hL hsh (by simp) (by kernel_rfl) (by kernel_rfl) (of_decide_eq_true (by kernel_rfl)) (by kernel_rfl) (by kernel_rfl) (by kernel_rfl)
  · exact rowAt_laid (n := "internal/strconv.uint64pow10") (t := (Tryz.prog.globals[6]?.map (·.type)).getD 0) (d := Rows.laid_internal_strconv_uint64pow10) hL hsh (by simp) (by kernel_rfl) (by kernel_rfl) (of_decide_eq_true (by kernel_rfl)) (by kernel_rfl) (by kernel_rfl) (by kernel_rfl)
  · exact rowAt_laid (n := "unicode/utf8.acceptRanges") (t := (Tryz.prog.globals[9]?.map (·.type)).getD 0) (d := Rows.laid_unicode_utf8_acceptRanges) hL hsh (by simp) (by kernel_rfl) (by kernel_rfl) (of_decide_eq_true (by kernel_rfl)) (by kernel_rfl) (by kernel_rfl) (by kernel_rfl)
  · exact rowAt_laid (n := "granule/isa.shapes") (t := (Tryz.prog.globals[5]?.map (·.type)).getD 0) (d := Rows.laid_granule_isa_shapes) hL hsh (by simp) (by kernel_rfl) (by kernel_rfl) (of_decide_eq_true (by kernel_rfl)) (by kernel_rfl) (by kernel_rfl) (by kernel_rfl)
  · exact rowAt_laid (n := "granule/asm.names") (t := (Tryz.prog.globals[0]?.map (·.type)).getD 0) (d := Rows.laid_granule_asm_names) hL hsh (by simp) (by kernel_rfl) (by kernel_rfl) (of_decide_eq_true (by kernel_rfl)) (by kernel_rfl) (by kernel_rfl) (by kernel_rfl)
  · exact rowAt_laid (n := "granule/asm.conds") (t := (Tryz.prog.globals[1]?.map (·.type)).getD 0) (d := Rows.laid_granule_asm_conds) hL hsh (by simp) (by kernel_rfl) (by kernel_rfl) (of_decide_eq_true (by kernel_rfl)) (by kernel_rfl) (by kernel_rfl) (by kernel_rfl)
  · exact rowAt_laid (n := "granule/asm.barriers") (t := (Tryz.prog.globals[2]?.map (·.type)).getD 0) (d := Rows.laid_granule_asm_barriers) hL hsh (by simp) (by kernel_rfl) (by kernel_rfl) (of_decide_eq_true (by kernel_rfl)) (by kernel_rfl) (by kernel_rfl) (by kernel_rfl)
  · exact rowAt_laid (n := "granule/asm.flushes") (t := (Tryz.prog.globals[3]?.map (·.type)).getD 0) (d := Rows.laid_granule_asm_flushes) hL hsh (by simp) (by kernel_rfl) (by kernel_rfl) (of_decide_eq_true (by kernel_rfl)) (by kernel_rfl) (by kernel_rfl) (by kernel_rfl)
  · exact rowAt_laid (n := "granule/asm.systems") (t := (Tryz.prog.globals[4]?.map (·.type)).getD 0) (d := Rows.laid_granule_asm_systems) hL hsh (by simp) (by kernel_rfl) (by kernel_rfl) (of_decide_eq_true (by kernel_rfl)) (by kernel_rfl) (by kernel_rfl) (by kernel_rfl)
theorem rowAt_below {W U : World} {g : Nat} {l : List AV} (h : RowAt W g l) (b : Below W.heap.size W U) : RowAt U g l := by
  obtain ⟨cs, t, h1, h2⟩ := h
  exact ⟨cs, t, (b.block g (Array.getElem?_eq_some_iff.1 h1).1).trans h1, h2⟩
theorem shat_in {W : World} (hL : laidMetH Tryz.prog laidL W) : ShAt W := by
  rw [MakeChecks.laidMetH_plain _ _ _ (by kernel_rfl)] at hL
  obtain ⟨ps, hL, _⟩ := hL
  obtain ⟨g0, t0, cs0, f0, p0, hg0, ht0, hv0, hd0⟩ := laidVars_get hL ("granule/isa.shapes", Rows.laid_granule_isa_shapes) (by simp)
  obtain rfl := Option.some.inj (tShapes.symm.trans ((congrArg (fun g => (Tryz.prog.globals[g]?).map (·.type)) (Option.some.inj (gShapes.symm.trans hg0))).trans ht0))
  exact shat_of_parts hv0 hd0
theorem awake_below {W : World} (hL : laidMetH Tryz.prog laidL W) (hsh : W.ShapedOpen Tryz.prog) (U : World) (b : Below W.heap.size W U) : Calls Tryz.prog 4 #[] U fun e W' => e = .returned (.bool true) ∧ Below U.heap.size U W' := by
  obtain ⟨cs, hb⟩ := shaped_block (g := 7) (t := 3) hsh (of_decide_eq_true (by kernel_rfl)) (by kernel_rfl)
  obtain ⟨m, hm⟩ := cell_of_shapedOpen_int (zero := #[.int .i64 0]) (t := 3) (g := 7) hsh (of_decide_eq_true (by kernel_rfl)) (by kernel_rfl) rfl (by kernel_rfl) (by kernel_rfl) Tryz.underlying3
  have hb' : U.heap[7]? = _ := (b.block _ (Array.getElem?_eq_some_iff.1 hb).1).trans hb
  refine GrG.awake_any (fun p hp => rowAt_below (lits_at hL hsh p hp) b) hb' (m := m) ?_
  rw [cell_of_row W 7 0 cs _ (0, 0) hb] at hm
  exact hm
end Go.Proofs.YtlflknfkenfpiaaGreatDoor
