/-
  Layer 11, the walks: cond.Parse.
-/
import Derived.Test.YtgpngjgilcbigaaDoorOq
set_option linter.unusedSimpArgs false
set_option linter.unusedVariables false
namespace Go.Proofs.YtgpngjgilcbigaaDoor
open Go.RowKit GrP GrL GrC
theorem tfield0 (k : Int) (x : ByteArray) (p : Int) (w : World) : (Instr.field 63 (.agg #[.int .i64 k, .string x, .int .i64 p]) 0).run Tryd.prog w = .ok (.int .i64 k) w := by kernel_rfl
theorem pfield0 (k p : Int) (w : World) : (Instr.field 33 (.agg #[.int .i64 k, .int .i64 p]) 0).run Tryd.prog w = .ok (.int .i64 k) w := by kernel_rfl
set_option maxRecDepth 100000 in
set_option maxHeartbeats 6400000 in
theorem parse_ok {w0 : World} {R : Nat} {tp : Option Addr} {tn tc : Nat} {T : List GrL.Tok} (hT : TkAt w0 tp T) (hn : tn = T.length) (ht : TB w0) (w : World) (hR : Row w R [.slice tp tn tc, .int .i64 0, .int .i64 0, .int .i64 0] 68) (hb : Below w0.heap.size w0 w) (hr : w0.heap.size ≤ R) (m j : Nat) (c : Cnd) (hc : OrN T m 0 j c) (hj : At T j 4 []) (hk : c.cnt ≤ 64) :
    Calls Tryd.prog 15 #[.pointer (some ⟨R, 0, none⟩)] w fun e w' => ∃ p n q, e = .returned (.agg #[.int .i64 c.k, .int .i64 c.co, .int .i64 c.r, .int .u64 c.ad, .int .u64 c.va, .slice p n q]) ∧ n = c.args.length ∧ Tree (fun b => w.heap.size ≤ b) w' c.args p ∧ Row w' R [.slice tp tn tc, .int .i64 (j : Int), .int .i64 0, .int .i64 0] 68 ∧ Two R R w w' := by
  obtain ⟨pT, hpT⟩ : ∃ b, b = w.heap.size := ⟨_, rfl⟩
  obtain ⟨P, hP⟩ : ∃ b, b = pT + 1 := ⟨_, rfl⟩
  obtain ⟨hj0, hj1, hj2⟩ := hj
  have OR := Lib.hid (fun (U : World) (H : RS w0 P R tp tn tc U 0 0) => or_any hT hn ht m U 0 j 0 c H hc (by omega))
  have PE := Lib.hid (fun (U : World) (k : Nat) (H : RS w0 P R tp tn tc U j k) => peek_any hT hn U j k H hj0)
  rw [hj1] at PE
  obtain ⟨x1, hx1⟩ : ∃ x, x = strL (T[j]'hj0).text := ⟨_, rfl⟩
  obtain ⟨x2, hx2⟩ : ∃ x : Int, x = ((T[j]'hj0).pos : Int) := ⟨_, rfl⟩
  rw [← hx1, ← hx2] at PE
  have HR := Lib.hid hR
  have LT := Lib.hid hR.lt
  have HB := Lib.hid hb
  have H2 := Lib.hid hr
  have BS := Lib.hid hb.size
  have WT := Lib.hid (show w.heap.size ≤ pT by omega)
  have HW := Lib.hid hpT
  have HP := Lib.hid hP
  have e4 : (((4 : Nat) : Int) != 4) = false := by decide
  have tf0 := tfield0
  clear hT hn ht hR hb hr hc hj0 hj1 hj2 hk hx1 hx2
  go_enter Tryd.func15, Tryd.ntmps15
  go_upto_region 4 with fail
  have RT0 : Row (w.alloc (.cells #[.int .i64 0, .int .i64 0, .int .i64 0, .int .u64 0, .int .u64 0, .slice none 0 0] 25)) pT [.int .i64 0, .int .i64 0, .int .i64 0, .int .u64 0, .int .u64 0, .slice none 0 0] 25 := Row.new' w [.int .i64 0, .int .i64 0, .int .i64 0, .int .u64 0, .int .u64 0, .slice none 0 0] _ _ hpT.symm
  have RP0 : Row ((w.alloc (.cells #[.int .i64 0, .int .i64 0, .int .i64 0, .int .u64 0, .int .u64 0, .slice none 0 0] 25)).alloc (.cells #[.pointer (some ⟨R, 0, none⟩), .int .i64 0, .bool false] 71)) P [.pointer (some ⟨R, 0, none⟩), .int .i64 0, .bool false] 71 := Row.new' _ [.pointer (some ⟨R, 0, none⟩), .int .i64 0, .bool false] _ _ (by simp; omega)
  have KB0 := KB.alloc (KB.alloc (Below.refl w.heap.size w) (.cells #[.int .i64 0, .int .i64 0, .int .i64 0, .int .u64 0, .int .u64 0, .slice none 0 0] 25)) (.cells #[.pointer (some ⟨R, 0, none⟩), .int .i64 0, .bool false] 71)
  have RS0 : RS w0 P R tp tn tc ((w.alloc (.cells #[.int .i64 0, .int .i64 0, .int .i64 0, .int .u64 0, .int .u64 0, .slice none 0 0] 25)).alloc (.cells #[.pointer (some ⟨R, 0, none⟩), .int .i64 0, .bool false] 71)) 0 0 := ⟨RP0, HR.out.below KB0, HB.out.trans (KB0.mono BS.out), by have := BS.out; omega, H2.out, by have := LT.out; omega⟩
  simp only [show ((w.alloc (.cells #[.int .i64 0, .int .i64 0, .int .i64 0, .int .u64 0, .int .u64 0, .slice none 0 0] 25)).heap.size) = P by simp; omega, ← hpT, ← hP]
  refine to_cls ?_
  intro U1 hU1 y1
  have RS1 := Lib.hid ((RS0.below hU1).below y1.bel)
  have RT1 := Lib.hid (((RT0.old (.cells #[.pointer (some ⟨R, 0, none⟩), .int .i64 0, .bool false] 71)).below hU1).below y1.bel)
  have K1 := Lib.hid ((KB0.trans ((hU1.trans (y1.bel.mono hU1.size)).mono (by simp; omega))))
  clear RT0 RP0 KB0 RS0 hU1 hpT hP
  go_upto_region 5 with (go_at_call 38; refine (OR.out _ RS1.out).mono ?_; rintro e5 w5 ⟨p5, n5, q5, rfl, hn5, ht5, g1, g2⟩; have N5 := Lib.hid hn5; clear hn5)
  have TP := Lib.hid (show pT ≠ P ∧ pT ≠ R by have := LT.out; have := HW.out; have := HP.out; omega)
  have XT := Lib.hid (show Row w5 pT [.int .i64 0, .int .i64 0, .int .i64 0, .int .u64 0, .int .u64 0, .slice none 0 0] 25 from RT1.out.two g2 TP.out.1 TP.out.2)
  have L1 := Lib.hid (show w.heap.size ≤ y1.at.heap.size ∧ pT < y1.at.heap.size ∧ P < y1.at.heap.size from ⟨K1.out.size, RT1.out.lt, RS1.out.lt.1⟩)
  have G1 := Lib.hid g1
  have G2 := Lib.hid g2
  have H5 := Lib.hid ht5
  obtain ⟨pC, hpC⟩ : ∃ b, b = w5.heap.size := ⟨_, rfl⟩
  have PC := Lib.hid hpC
  have SZ := Lib.hid (show y1.at.heap.size ≤ w5.heap.size from g2.size)
  clear g1 g2 ht5
  simp only [← hpC]
  clear hpC
  refine to_cls ?_
  intro V1 hV1 z1
  have B1 := Lib.hid ((KB.alloc (Below.refl w5.heap.size w5) (.cells (cellsC c p5 n5 q5).toArray 25)).trans ((hV1.trans (z1.bel.mono hV1.size)).mono (by simp)))
  have CR1 := Lib.hid (show Row z1.at pC [.int .i64 c.k, .int .i64 c.co, .int .i64 c.r, .int .u64 c.ad, .int .u64 c.va, .slice p5 n5 q5] 25 from PC.out ▸ ((Row.new w5 (cellsC c p5 n5 q5) _).below hV1).below z1.bel)
  have R1 := Lib.hid (G1.out.below B1.out)
  have XT1 := Lib.hid (XT.out.below B1.out)
  have E1 := Lib.hid (show Tree (fun b => w.heap.size ≤ b ∧ b ≠ pT) z1.at c.args p5 from (H5.out.mono (fun b _ h => by have := L1.out; refine ⟨?_, ?_⟩ <;> omega)).below B1.out)
  have T1 := Lib.hid (G2.out.more B1.out)
  clear hV1
  have o0 := (R1.out.own).cell 0
  have o1 := (R1.out.own).cell 1
  have o2 := (R1.out.own).cell 2
  simp only [List.getElem?_cons_zero, List.getElem?_cons_succ] at o0 o1 o2
  go_upto_region 7 with (go_at_call 39; refine (PE.out _ _ R1.out).mono ?_; rintro e w9 ⟨rfl, g⟩; obtain ⟨x9, rfl⟩ := Wb.start g; clear g)
  clear o0 o1 o2
  have R2 := Lib.hid (R1.out.below x9.bel)
  have XT2 := Lib.hid (XT1.out.below x9.bel)
  have CR2 := Lib.hid (CR1.out.below x9.bel)
  have E2 := Lib.hid (E1.out.below x9.bel)
  have T2 := Lib.hid (T1.out.more x9.bel)
  have o0 := (R2.out.own).cell 0
  have o1 := (R2.out.own).cell 1
  have o2 := (R2.out.own).cell 2
  simp only [List.getElem?_cons_zero, List.getElem?_cons_succ] at o0 o1 o2
  have cc0 := (CR2.out).cell 0
  have cc1 := (CR2.out).cell 1
  have cc2 := (CR2.out).cell 2
  have cc3 := (CR2.out).cell 3
  have cc4 := (CR2.out).cell 4
  have cc5 := (CR2.out).cell 5
  simp only [List.getElem?_cons_zero, List.getElem?_cons_succ] at cc0 cc1 cc2 cc3 cc4 cc5
  have t0 := (XT2.out).cell 0
  have t1 := (XT2.out).cell 1
  have t2 := (XT2.out).cell 2
  have t3 := (XT2.out).cell 3
  have t4 := (XT2.out).cell 4
  have t5 := (XT2.out).cell 5
  have tf := fun i : Nat => (XT2.out).free i
  simp only [List.getElem?_cons_zero, List.getElem?_cons_succ] at t0 t1 t2 t3 t4 t5
  have KF := Lib.hid (show Two R R w x9.at from ⟨T2.out.os.trans K1.out.os, T2.out.tape.trans K1.out.tape, T2.out.output.trans K1.out.output, Nat.le_trans K1.out.size T2.out.size, fun b hb hp _ => (T2.out.block b (by have := K1.out.size; omega) (by have := HP.out; have := HW.out; omega) hp).trans (K1.out.block b hb)⟩)
  go_wp2
  refine bodyPost_ret (v := .agg #[.int .i64 c.k, .int .i64 c.co, .int .i64 c.r, .int .u64 c.ad, .int .u64 c.va, .slice p5 n5 q5]) (by simp [results, Tryd.results15, go_sem, *]) rfl ?_
  refine ⟨p5, n5, q5, rfl, N5.out, Tree.mono (A := fun b => w.heap.size ≤ b ∧ b ≠ pT) ?_ (fun b _ h => h.1), ?_, ?_⟩
  · repeat' (first | (with_reducible exact E2.out) | (with_reducible refine Tree.set ?_ _ _ _ (fun b h => h.2)))
  · have R3 := R2.out.rd
    have TR := Ne.symm TP.out.2
    repeat' (first | (with_reducible exact R3) | (with_reducible refine Row.oth ?_ TR _ _))
  · repeat' (first | (with_reducible exact KF.out) | (with_reducible refine Two.put ?_ WT.out _ _))
end Go.Proofs.YtgpngjgilcbigaaDoor
