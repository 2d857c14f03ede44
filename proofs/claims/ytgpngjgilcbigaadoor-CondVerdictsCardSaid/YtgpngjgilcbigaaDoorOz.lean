/-
  Layer 11, the laws: CondVerdicts.
-/
import Derived.Test.YtgpngjgilcbigaaDoorOw
set_option linter.unusedSimpArgs false
set_option linter.unusedVariables false
namespace GrC
theorem holds_notc (c : Cnd) (o : Out) : (Cnd.node 6 0 0 0 0 [c]).holds o = !c.holds o := by
  simp [Cnd.holds, anyL]
theorem verd_not (c : Cnd) (os : List Out) : verd (.node 6 0 0 0 0 [c]) false os = !(verd c true os) := by
  unfold verd
  simp only [if_true, Bool.false_eq_true, if_false, holds_notc]
  induction os with
  | nil => rfl
  | cons o os ih => rw [List.any_cons, List.all_cons, ih]; cases c.holds o <;> rfl
theorem all_take (c : Cnd) (os : List Out) (i : Nat) (h : i < os.length) : (os.take (i + 1)).all (c.holds ·) = ((os.take i).all (c.holds ·) && c.holds (os[i]'h)) := by
  rw [List.take_succ_eq_append_getElem h, List.all_append]
  simp
theorem any_take (c : Cnd) (os : List Out) (i : Nat) (h : i < os.length) : (os.take (i + 1)).any (c.holds ·) = ((os.take i).any (c.holds ·) || c.holds (os[i]'h)) := by
  rw [List.take_succ_eq_append_getElem h, List.any_append]
  simp
end GrC
namespace Go.Proofs.YtgpngjgilcbigaaDoor
open Go.RowKit GrP GrL GrC

set_option maxRecDepth 100000 in
set_option maxHeartbeats 6400000 in
theorem condVerdicts_call (c : Cnd) (p : Option Addr) (n q : Nat) (os : List Out) (p2 : Option Addr) (n2 q2 : Nat) (w : World) (hn : n = c.args.length) (hl : LAt w c.args p 0) (hn2 : n2 = os.length) (hm : n2 ≤ maxLen) (hos : OsAt w os p2) (ht : TB w) :
    Calls Tryd.prog 6 #[.agg #[.int .i64 c.k, .int .i64 c.co, .int .i64 c.r, .int .u64 c.ad, .int .u64 c.va, .slice p n q], .slice p2 n2 q2] w fun e w' => e = .returned (.bool true) ∧ Below w.heap.size w w' := by
  have AW := Lib.hid (fun (U : World) (k : Below w.heap.size w U) => awake_any U (ht.below k))
  have SM := Lib.hid (fun (U : World) (k : Below w.heap.size w U) => csmall_any 9 c p n q U hn (hl.below k) (by decide))
  have RR := Lib.hid (fun (o : Out) pr nr cr pf nf cf pc nc cc (U : World) (k : Below w.heap.size w U) => rholds_any o pr nr cr pf nf cf pc nc cc c.cnt c p n q U (Nat.le_refl _) hn (hl.below k))
  have VT := Lib.hid (fun (b : Bool) (U : World) (k : Below w.heap.size w U) => verdict_any c p n q b os p2 n2 q2 U hn (hl.below k) hn2 hm (hos.below k))
  have VN := Lib.hid (fun (N : Nat) (U : World) (k : Below w.heap.size w U) (hN : LAt U [c] (some ⟨N, 0, none⟩) 0) => show Calls Tryd.prog 24 #[.agg #[.int .i64 6, .int .i64 0, .int .i64 0, .int .u64 0, .int .u64 0, .slice (some ⟨N, 0, none⟩) 1 1], .bool false, .slice p2 n2 q2] U fun e w' => e = .returned (.bool (!(verd c true os))) ∧ Below U.heap.size U w' from
    (verdict_any (.node 6 0 0 0 0 [c]) (some ⟨N, 0, none⟩) 1 1 false os p2 n2 q2 U rfl hN hn2 hm (hos.below k)).mono (fun e w' h => ⟨h.1.trans (by rw [verd_not]), h.2⟩))
  have OA := Lib.hid (fun (N : Nat) (U : World) (k : Below w.heap.size w U) (T : TypeId) (hR : Row U N (cellsC c p n q) T) => one_at hR hn (hl.below k))
  obtain ⟨sm, hsm⟩ : ∃ b, b = c.small 9 := ⟨_, rfl⟩
  rw [← hsm] at SM
  have VT1 := Lib.hid (VT.out true)
  have VT0 := Lib.hid (VT.out false)
  obtain ⟨va, hva⟩ : ∃ b, b = verd c true os := ⟨_, rfl⟩
  obtain ⟨vo, hvo⟩ : ∃ b, b = verd c false os := ⟨_, rfl⟩
  rw [← hva] at VT1 VN
  rw [← hvo] at VT0
  have EA := Lib.hid (show (os.take n2).all (c.holds ·) = va by rw [hva, hn2, List.take_length]; rfl)
  have EO := Lib.hid (show (os.take n2).any (c.holds ·) = vo by rw [hvo, hn2, List.take_length]; rfl)
  obtain ⟨kk, hkk⟩ : ∃ k, k = c.k := ⟨_, rfl⟩
  obtain ⟨co, hcc⟩ : ∃ k, k = c.co := ⟨_, rfl⟩
  obtain ⟨rr, hrr⟩ : ∃ k, k = c.r := ⟨_, rfl⟩
  obtain ⟨aa, haa⟩ : ∃ k, k = c.ad := ⟨_, rfl⟩
  obtain ⟨vv, hvv⟩ : ∃ k, k = c.va := ⟨_, rfl⟩
  obtain ⟨ts, hts⟩ : ∃ ts, ts = c.args := ⟨_, rfl⟩
  rw [← hkk, ← hcc, ← hrr, ← haa, ← hvv] at SM RR VT1 VT0
  rw [← hts] at hn hl
  rw [← hkk, ← hcc, ← hrr, ← haa, ← hvv]
  have N2 := Lib.hid hn2
  have m9 : (n2 : Int) ≤ 9223372036854775807 := by unfold maxLen at hm; omega
  have m0 : (0 : Int) ≤ (n2 : Int) := by omega
  have KC := Lib.hid (show kk = c.k ∧ co = c.co ∧ rr = c.r ∧ aa = c.ad ∧ vv = c.va from ⟨hkk, hcc, hrr, haa, hvv⟩)
  have HOS := Lib.hid hos
  clear hsm ht hkk hcc hrr haa hvv hn hn2 hm hva hvo VT hos
  go_enter Tryd.func6, Tryd.ntmps6
  go_upto_region 1 with fail
  refine to_cls ?_
  intro U0 hU0 y0
  have r_c : ∀ z : Wb U0, Row z.at w.heap.size [.int .i64 kk, .int .i64 co, .int .i64 rr, .int .u64 aa, .int .u64 vv, .slice p n q] 25 := Row.next (Row.new _ [.int .i64 kk, .int .i64 co, .int .i64 rr, .int .u64 aa, .int .u64 vv, .slice p n q] _) hU0
  have KK := Lib.hid (KB.next (KB.alloc (Below.refl w.heap.size w) _) hU0)
  clear hU0
  have c_0 := fun z : Wb U0 => (r_c z).cell 0
  have c_1 := fun z : Wb U0 => (r_c z).cell 1
  have c_2 := fun z : Wb U0 => (r_c z).cell 2
  have c_3 := fun z : Wb U0 => (r_c z).cell 3
  have c_4 := fun z : Wb U0 => (r_c z).cell 4
  have c_5 := fun z : Wb U0 => (r_c z).cell 5
  simp only [List.getElem?_cons_zero, List.getElem?_cons_succ] at c_0 c_1 c_2 c_3 c_4 c_5
  have LU := Lib.hid (fun z : Wb U0 => hl.below (KK.out z))
  clear r_c
  obtain ⟨pC, hpC⟩ : ∃ b, b = w.heap.size := ⟨_, rfl⟩
  rw [← hpC] at c_0 c_1 c_2 c_3 c_4 c_5
  simp only [← hpC]
  clear hpC hl
  have K0 := Lib.hid (KK.out y0)
  have c_0 := y0.lift c_0
  have c_1 := y0.lift c_1
  have c_2 := y0.lift c_2
  have c_3 := y0.lift c_3
  have c_4 := y0.lift c_4
  have c_5 := y0.lift c_5
  clear LU hts
  go_upto_region 3 with (go_at_call 8; refine (AW.out _ K0.out).mono ?_; rintro e w4 ⟨rfl, g⟩; obtain ⟨x4, rfl⟩ := Wb.start g; clear g)
  have K4 := Lib.hid (K0.out.trans (x4.bel.mono K0.out.size))
  have c_0 := x4.lift c_0
  have c_1 := x4.lift c_1
  have c_2 := x4.lift c_2
  have c_3 := x4.lift c_3
  have c_4 := x4.lift c_4
  have c_5 := x4.lift c_5
  clear AW
  cases sm with
  | false =>
    go_wp2_with (go_at_call 9; refine (SM.out _ K4.out).mono ?_; rintro e w5 ⟨rfl, g⟩; obtain ⟨x5, rfl⟩ := Wb.start g; clear g)
    go_ret
    exact ⟨rfl, K4.out.trans (x5.bel.mono K4.out.size)⟩
  | true =>
    by_cases g50 : (50 : Int) < (n2 : Int)
    · go_wp2_with (go_at_call 9; refine (SM.out _ K4.out).mono ?_; rintro e w5 ⟨rfl, g⟩; obtain ⟨x5, rfl⟩ := Wb.start g; clear g)
      go_ret
      exact ⟨rfl, K4.out.trans (x5.bel.mono K4.out.size)⟩
    · go_wp2_with (go_at_call 9; refine (SM.out _ K4.out).mono ?_; rintro e w5 ⟨rfl, g⟩; obtain ⟨x5, rfl⟩ := Wb.start g; clear g)
      have K5 := Lib.hid (K4.out.trans (x5.bel.mono K4.out.size))
      have c_0 := x5.lift c_0
      have c_1 := x5.lift c_1
      have c_2 := x5.lift c_2
      have c_3 := x5.lift c_3
      have c_4 := x5.lift c_4
      have c_5 := x5.lift c_5
      clear SM g50
      go_loopw [5, 6, 7] (fun av ov iv wr => ∃ (i : Nat) (z : Wb x5.at), i ≤ n2 ∧ av = .bool ((os.take i).all (c.holds ·)) ∧ ov = .bool ((os.take i).any (c.holds ·)) ∧ iv = .int .i64 (i : Int) ∧ wr = z.at) (fun _ _ iv _ => n2 - (intOf iv).toNat)
      case atStart => exact ⟨0, ⟨x5.at, Below.refl _ _⟩, by omega, rfl, rfl, rfl, rfl⟩
      case round =>
        obtain ⟨i, z, hi, rfl, rfl, rfl, rfl⟩ := hrel
        have KZ := Lib.hid (K5.out.trans (z.bel.mono K5.out.size))
        have i0 : (0 : Int) ≤ (i : Int) := by omega
        have c_0 := z.lift c_0
        have c_1 := z.lift c_1
        have c_2 := z.lift c_2
        have c_3 := z.lift c_3
        have c_4 := z.lift c_4
        have c_5 := z.lift c_5
        by_cases ci : i < n2
        · have l1 : i < os.length := by have := N2.out; omega
          obtain ⟨a, pr, nr, cr, pf, nf, cf, pc, nc, cc, rfl, f0, f1, f2, ho⟩ := (HOS.out.below KZ.out) i l1
          have IL := Lib.hid (show i + 1 ≤ n2 by omega)
          have g1 : (i : Int) < (n2 : Int) := by omega
          have e0 : ∀ y : Wb z.at, y.at.cell? (a.add (i * 3)) = some (.slice pr nr cr) := fun y => keep_below y.bel _ _ f0
          have e1 : ∀ y : Wb z.at, y.at.cell? ⟨(a.add (i * 3)).block, (a.add (i * 3)).off + 1, none⟩ = some (.slice pf nf cf) := fun y => keep_below y.bel _ _ f1
          have e2 : ∀ y : Wb z.at, y.at.cell? ⟨(a.add (i * 3)).block, (a.add (i * 3)).off + 2, none⟩ = some (.slice pc nc cc) := fun y => keep_below y.bel _ _ f2
          have HC := Lib.hid (fun u : Wb z.at => RR.out (os[i]'l1) pr nr cr pf nf cf pc nc cc u.at (KZ.out.trans (u.bel.mono KZ.out.size)) (ho.below u.bel))
          obtain ⟨b, hb⟩ : ∃ b, b = c.holds (os[i]'l1) := ⟨_, rfl⟩
          rw [← hb] at HC
          have BE := Lib.hid hb
          obtain ⟨A, hA⟩ : ∃ A, A = (os.take i).all (c.holds ·) := ⟨_, rfl⟩
          obtain ⟨O, hO⟩ : ∃ O, O = (os.take i).any (c.holds ·) := ⟨_, rfl⟩
          rw [← hA, ← hO]
          have HA := Lib.hid hA.symm
          have HO := Lib.hid hO.symm
          clear hb hA hO ho ci hi f0 f1 f2 EA EO
          cases A <;> cases O
          · have NA := Lib.hid (show (os.take (i + 1)).all (c.holds ·) = false from by rw [all_take c os i l1, HA.out, ← BE.out]; rfl)
            have NO := Lib.hid (show (os.take (i + 1)).any (c.holds ·) = b from by rw [any_take c os i l1, HO.out, ← BE.out]; rfl)
            clear BE HA HO l1
            go_upto_region 9 with fail
            refine wp_region_wb (by kernel_rfl) (by kernel_rfl) ?_
            repeat (go_big_quiet_step ((go_at_call 23; exact Calls.wb (HC.out _))))
            refine wpQuiet_nil ?_
            rintro _ ⟨nx, rfl⟩
            have HC2 := Lib.hid (fun v : Wb nx.at => HC.out ⟨v.at, nx.bel.trans (v.bel.mono nx.bel.size)⟩)
            have c_0 := nx.lift c_0
            have c_1 := nx.lift c_1
            have c_2 := nx.lift c_2
            have c_3 := nx.lift c_3
            have c_4 := nx.lift c_4
            have c_5 := nx.lift c_5
            have e0 := nx.lift e0
            have e1 := nx.lift e1
            have e2 := nx.lift e2
            go_upto_region 10 with fail
            refine wp_region_wb (by kernel_rfl) (by kernel_rfl) ?_
            repeat (go_big_quiet_step ((go_at_call 23; exact Calls.wb (HC2.out _))))
            refine wpQuiet_nil ?_
            rintro _ ⟨ny, rfl⟩
            go_wp2
            go_roundw
            case rel => exact ⟨i + 1, ⟨ny.at, z.bel.trans ((nx.bel.trans (ny.bel.mono nx.bel.size)).mono z.bel.size)⟩, IL.out, by rw [NA.out], by rw [NO.out], by go_num, rfl⟩
            case measure => have := IL.out; simp [intOf] <;> omega
          · have NA := Lib.hid (show (os.take (i + 1)).all (c.holds ·) = false from by rw [all_take c os i l1, HA.out, ← BE.out]; rfl)
            have NO := Lib.hid (show (os.take (i + 1)).any (c.holds ·) = true from by rw [any_take c os i l1, HO.out, ← BE.out]; rfl)
            clear BE HA HO l1
            go_upto_region 9 with fail
            refine wp_region_wb (by kernel_rfl) (by kernel_rfl) ?_
            repeat (go_big_quiet_step ((go_at_call 23; exact Calls.wb (HC.out _))))
            refine wpQuiet_nil ?_
            rintro _ ⟨nx, rfl⟩
            have HC2 := Lib.hid (fun v : Wb nx.at => HC.out ⟨v.at, nx.bel.trans (v.bel.mono nx.bel.size)⟩)
            have c_0 := nx.lift c_0
            have c_1 := nx.lift c_1
            have c_2 := nx.lift c_2
            have c_3 := nx.lift c_3
            have c_4 := nx.lift c_4
            have c_5 := nx.lift c_5
            have e0 := nx.lift e0
            have e1 := nx.lift e1
            have e2 := nx.lift e2
            go_upto_region 10 with fail
            refine wp_region_wb (by kernel_rfl) (by kernel_rfl) ?_
            repeat (go_big_quiet_step ((go_at_call 23; exact Calls.wb (HC2.out _))))
            refine wpQuiet_nil ?_
            rintro _ ⟨ny, rfl⟩
            go_wp2
            go_roundw
            case rel => exact ⟨i + 1, ⟨ny.at, z.bel.trans ((nx.bel.trans (ny.bel.mono nx.bel.size)).mono z.bel.size)⟩, IL.out, by rw [NA.out], by rw [NO.out], by go_num, rfl⟩
            case measure => have := IL.out; simp [intOf] <;> omega
          · have NA := Lib.hid (show (os.take (i + 1)).all (c.holds ·) = b from by rw [all_take c os i l1, HA.out, ← BE.out]; rfl)
            have NO := Lib.hid (show (os.take (i + 1)).any (c.holds ·) = b from by rw [any_take c os i l1, HO.out, ← BE.out]; rfl)
            clear BE HA HO l1
            go_upto_region 9 with fail
            refine wp_region_wb (by kernel_rfl) (by kernel_rfl) ?_
            repeat (go_big_quiet_step ((go_at_call 23; exact Calls.wb (HC.out _))))
            refine wpQuiet_nil ?_
            rintro _ ⟨nx, rfl⟩
            have HC2 := Lib.hid (fun v : Wb nx.at => HC.out ⟨v.at, nx.bel.trans (v.bel.mono nx.bel.size)⟩)
            have c_0 := nx.lift c_0
            have c_1 := nx.lift c_1
            have c_2 := nx.lift c_2
            have c_3 := nx.lift c_3
            have c_4 := nx.lift c_4
            have c_5 := nx.lift c_5
            have e0 := nx.lift e0
            have e1 := nx.lift e1
            have e2 := nx.lift e2
            go_upto_region 10 with fail
            refine wp_region_wb (by kernel_rfl) (by kernel_rfl) ?_
            repeat (go_big_quiet_step ((go_at_call 23; exact Calls.wb (HC2.out _))))
            refine wpQuiet_nil ?_
            rintro _ ⟨ny, rfl⟩
            go_wp2
            go_roundw
            case rel => exact ⟨i + 1, ⟨ny.at, z.bel.trans ((nx.bel.trans (ny.bel.mono nx.bel.size)).mono z.bel.size)⟩, IL.out, by rw [NA.out], by rw [NO.out], by go_num, rfl⟩
            case measure => have := IL.out; simp [intOf] <;> omega
          · have NA := Lib.hid (show (os.take (i + 1)).all (c.holds ·) = b from by rw [all_take c os i l1, HA.out, ← BE.out]; rfl)
            have NO := Lib.hid (show (os.take (i + 1)).any (c.holds ·) = true from by rw [any_take c os i l1, HO.out, ← BE.out]; rfl)
            clear BE HA HO l1
            go_upto_region 9 with fail
            refine wp_region_wb (by kernel_rfl) (by kernel_rfl) ?_
            repeat (go_big_quiet_step ((go_at_call 23; exact Calls.wb (HC.out _))))
            refine wpQuiet_nil ?_
            rintro _ ⟨nx, rfl⟩
            have HC2 := Lib.hid (fun v : Wb nx.at => HC.out ⟨v.at, nx.bel.trans (v.bel.mono nx.bel.size)⟩)
            have c_0 := nx.lift c_0
            have c_1 := nx.lift c_1
            have c_2 := nx.lift c_2
            have c_3 := nx.lift c_3
            have c_4 := nx.lift c_4
            have c_5 := nx.lift c_5
            have e0 := nx.lift e0
            have e1 := nx.lift e1
            have e2 := nx.lift e2
            go_upto_region 10 with fail
            refine wp_region_wb (by kernel_rfl) (by kernel_rfl) ?_
            repeat (go_big_quiet_step ((go_at_call 23; exact Calls.wb (HC2.out _))))
            refine wpQuiet_nil ?_
            rintro _ ⟨ny, rfl⟩
            go_wp2
            go_roundw
            case rel => exact ⟨i + 1, ⟨ny.at, z.bel.trans ((nx.bel.trans (ny.bel.mono nx.bel.size)).mono z.bel.size)⟩, IL.out, by rw [NA.out], by rw [NO.out], by go_num, rfl⟩
            case measure => have := IL.out; simp [intOf] <;> omega
        · obtain rfl : i = n2 := by omega
          rw [EA.out, EO.out]
          have g1 : ¬ (i : Int) < (i : Int) := by omega
          clear ci hi
          go_upto_region 12 with fail
          refine to_cls ?_
          intro U1 hU1 y1
          have B1 := Lib.hid (show Below z.at.heap.size z.at y1.at from by
            refine Below.trans ?_ ((hU1.trans (y1.bel.mono hU1.size)).mono ?_)
            · repeat' (first | (with_reducible exact Below.refl _ _) | (with_reducible refine KB.put ?_ (by omega) _ _) | (with_reducible refine KB.alloc ?_ _))
            · simp; omega)
          obtain ⟨pN, hpN⟩ : ∃ b, b = z.at.heap.size := ⟨_, rfl⟩
          obtain ⟨pM, hpM⟩ : ∃ b, b = pN + 1 := ⟨_, rfl⟩
          have RN := Lib.hid (show Row y1.at pN [.int .i64 kk, .int .i64 co, .int .i64 rr, .int .u64 aa, .int .u64 vv, .slice p n q] 25 from Row.below (Row.below (by
            rw [hpN]
            repeat' (first | (with_reducible exact (Row.new z.at [.int .i64 kk, .int .i64 co, .int .i64 rr, .int .u64 aa, .int .u64 vv, .slice p n q] _).old _) | (with_reducible refine Row.oth ?_ (by omega) _ _))) hU1) y1.bel)
          have RM := Lib.hid (show Row y1.at pM [.int .i64 6, .int .i64 0, .int .i64 0, .int .u64 0, .int .u64 0, .slice (some ⟨pN, 0, none⟩) 1 1] 25 from Row.below (Row.below (by
            rw [hpM, hpN]
            exact Row.new' _ [.int .i64 6, .int .i64 0, .int .i64 0, .int .u64 0, .int .u64 0, .slice (some ⟨z.at.heap.size, 0, none⟩) 1 1] _ _ (by simp)) hU1) y1.bel)
          simp only [← hpN]
          simp only [← hpM]
          have KY := Lib.hid (KZ.out.trans (B1.out.mono KZ.out.size))
          have L1 := Lib.hid (show LAt y1.at [c] (some ⟨pN, 0, none⟩) 0 from OA.out pN y1.at KY.out _ (by
            obtain ⟨h1, h2, h3, h4, h5⟩ := KC.out
            show Row y1.at pN [.int .i64 c.k, .int .i64 c.co, .int .i64 c.r, .int .u64 c.ad, .int .u64 c.va, .slice p n q] _
            rw [← h1, ← h2, ← h3, ← h4, ← h5]
            exact RN.out))
          have F1 := Lib.hid (fun u : Wb y1.at => VT1.out u.at (KY.out.trans (u.bel.mono KY.out.size)))
          have F0 := Lib.hid (fun u : Wb y1.at => VT0.out u.at (KY.out.trans (u.bel.mono KY.out.size)))
          have FN := Lib.hid (fun u : Wb y1.at => VN.out pN u.at (KY.out.trans (u.bel.mono KY.out.size)) (L1.out.below u.bel))
          have d_0 := fun u : Wb y1.at => keep_below (B1.out.trans (u.bel.mono B1.out.size)) _ _ (c_0 ⟨z.at, Below.refl _ _⟩)
          have d_1 := fun u : Wb y1.at => keep_below (B1.out.trans (u.bel.mono B1.out.size)) _ _ (c_1 ⟨z.at, Below.refl _ _⟩)
          have d_2 := fun u : Wb y1.at => keep_below (B1.out.trans (u.bel.mono B1.out.size)) _ _ (c_2 ⟨z.at, Below.refl _ _⟩)
          have d_3 := fun u : Wb y1.at => keep_below (B1.out.trans (u.bel.mono B1.out.size)) _ _ (c_3 ⟨z.at, Below.refl _ _⟩)
          have d_4 := fun u : Wb y1.at => keep_below (B1.out.trans (u.bel.mono B1.out.size)) _ _ (c_4 ⟨z.at, Below.refl _ _⟩)
          have d_5 := fun u : Wb y1.at => keep_below (B1.out.trans (u.bel.mono B1.out.size)) _ _ (c_5 ⟨z.at, Below.refl _ _⟩)
          have m_0 := fun u : Wb y1.at => (RM.out.below u.bel).cell 0
          have m_1 := fun u : Wb y1.at => (RM.out.below u.bel).cell 1
          have m_2 := fun u : Wb y1.at => (RM.out.below u.bel).cell 2
          have m_3 := fun u : Wb y1.at => (RM.out.below u.bel).cell 3
          have m_4 := fun u : Wb y1.at => (RM.out.below u.bel).cell 4
          have m_5 := fun u : Wb y1.at => (RM.out.below u.bel).cell 5
          simp only [List.getElem?_cons_zero, List.getElem?_cons_succ] at m_0 m_1 m_2 m_3 m_4 m_5
          clear hU1 hpN hpM c_0 c_1 c_2 c_3 c_4 c_5 VT1 VT0 VN OA EA EO g1
          cases va <;> cases vo
          all_goals
            refine wp_region_wb (by kernel_rfl) (by kernel_rfl) ?_
            repeat (go_big_quiet_step (fail))
            go_big_quiet_step ((go_at_call 24; exact Calls.wb (F1.out _)))
            repeat (go_big_quiet_step (fail))
            go_big_quiet_step ((go_at_call 24; exact Calls.wb (F0.out _)))
            repeat (go_big_quiet_step (fail))
            go_big_quiet_step ((go_at_call 24; exact Calls.wb (F1.out _)))
            repeat (go_big_quiet_step (fail))
            go_big_quiet_step ((go_at_call 24; exact Calls.wb (FN.out _)))
            repeat (go_big_quiet_step (fail))
            refine wpQuiet_nil ?_
            rintro _ ⟨x9, rfl⟩
            go_wp2
            go_ret
            exact ⟨rfl, KY.out.trans (x9.bel.mono KY.out.size)⟩
end Go.Proofs.YtgpngjgilcbigaaDoor
