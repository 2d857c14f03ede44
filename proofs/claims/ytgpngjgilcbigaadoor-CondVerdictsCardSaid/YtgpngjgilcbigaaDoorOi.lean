/-
  Layer 11, the walks: the page's Holds.
-/
import Derived.Test.YtgpngjgilcbigaaDoorOh
set_option linter.unusedSimpArgs false
set_option linter.unusedVariables false
namespace Go.Proofs.YtgpngjgilcbigaaDoor
open Go.RowKit GrC

set_option maxRecDepth 100000 in
set_option maxHeartbeats 25600000 in
theorem rholds_any (o : Out) (pr : Option Addr) (nr cr : Nat) (pf : Option Addr) (nf cf : Nat) (pc : Option Addr) (nc cc : Nat) : ∀ (N : Nat), ∀ (c : Cnd) (p : Option Addr) (n q : Nat) (w : World), c.cnt ≤ N → n = c.args.length → LAt w c.args p 0 → OAt w o pr nr cr pf nf cf pc nc cc → Calls Tryd.prog 23 #[.agg #[.int .i64 c.k, .int .i64 c.co, .int .i64 c.r, .int .u64 c.ad, .int .u64 c.va, .slice p n q], .agg #[.slice pr nr cr, .slice pf nf cf, .slice pc nc cc]] w fun e w' => e = .returned (.bool (c.holds o)) ∧ Below w.heap.size w w' := by
  intro N
  induction N with
  | zero => intro c p n q w hc; have := cnt_pos c; omega
  | succ N ih =>
    intro c p n q w hc hn hl ho
    obtain ⟨kk, hkk⟩ : ∃ k, k = c.k := ⟨_, rfl⟩
    obtain ⟨co, hcc⟩ : ∃ k, k = c.co := ⟨_, rfl⟩
    obtain ⟨rr, hrr⟩ : ∃ k, k = c.r := ⟨_, rfl⟩
    obtain ⟨aa, haa⟩ : ∃ k, k = c.ad := ⟨_, rfl⟩
    obtain ⟨vv, hvv⟩ : ∃ k, k = c.va := ⟨_, rfl⟩
    obtain ⟨ts, hts⟩ : ∃ ts, ts = c.args := ⟨_, rfl⟩
    have HH := Lib.hid ih
    have HT := Lib.hid (show ∀ t ∈ ts, t.cnt ≤ N from fun t ht => by
      obtain ⟨i, hi, rfl⟩ := List.getElem_of_mem ht
      have := mem_cnt hi
      have := cnt_args c
      rw [← hts] at this
      omega)
    have KE := Lib.hid hkk
    have TE := Lib.hid hts
    have E1 := Lib.hid (fun h : kk = 1 => show c.holds o = regB o co rr vv by rw [holds_reg (by omega), hcc, hrr, hvv]; rfl)
    have E2 := Lib.hid (fun h : kk = 2 => show c.holds o = decide (cellOf o.cells aa = vv) by rw [holds_cell (by omega), haa, hvv])
    have E3 := Lib.hid (fun h : kk = 3 => show c.holds o = decide (0 ≤ co ∧ (o.flts[co.toNat]?.map fun n => (n : Int)) = some vv) by rw [holds_flt (by omega), hcc, hvv])
    rw [← hts] at hn hl
    rw [← hkk, ← hcc, ← hrr, ← haa, ← hvv]
    have HN := Lib.hid hn
    clear ih hc hts hn hkk hcc hrr haa hvv
    have n0 : (0 : Int) ≤ (n : Int) := by omega
    go_enter Tryd.func23, Tryd.ntmps23
    go_upto_region 1 with fail
    refine to_cls ?_
    intro U0 hU0 y0
    have r_c : ∀ z : Wb U0, Row z.at w.heap.size [.int .i64 kk, .int .i64 co, .int .i64 rr, .int .u64 aa, .int .u64 vv, .slice p n q] 25 := Row.next ((Row.new _ [.int .i64 kk, .int .i64 co, .int .i64 rr, .int .u64 aa, .int .u64 vv, .slice p n q] _).old _) hU0
    have r_o : ∀ z : Wb U0, Row z.at (w.heap.size + 1) [.slice pr nr cr, .slice pf nf cf, .slice pc nc cc] 50 := Row.next (Row.new' _ [.slice pr nr cr, .slice pf nf cf, .slice pc nc cc] _ _ (by simp)) hU0
    have KK := Lib.hid (KB.next (KB.alloc (KB.alloc (Below.refl w.heap.size w) _) _) hU0)
    clear hU0
    have c_0 := fun z : Wb U0 => (r_c z).cell 0
    have c_1 := fun z : Wb U0 => (r_c z).cell 1
    have c_2 := fun z : Wb U0 => (r_c z).cell 2
    have c_3 := fun z : Wb U0 => (r_c z).cell 3
    have c_4 := fun z : Wb U0 => (r_c z).cell 4
    have c_5 := fun z : Wb U0 => (r_c z).cell 5
    have o_0 := fun z : Wb U0 => (r_o z).cell 0
    have o_1 := fun z : Wb U0 => (r_o z).cell 1
    have o_2 := fun z : Wb U0 => (r_o z).cell 2
    simp only [List.getElem?_cons_zero, List.getElem?_cons_succ] at c_0 c_1 c_2 c_3 c_4 c_5 o_0 o_1 o_2
    have LU := Lib.hid (fun z : Wb U0 => hl.below (KK.out z))
    have OU := Lib.hid (fun z : Wb U0 => ho.below (KK.out z))
    clear r_c r_o
    obtain ⟨pC, hpC⟩ : ∃ b, b = w.heap.size := ⟨_, rfl⟩
    rw [← hpC] at c_0 c_1 c_2 c_3 c_4 c_5 o_0 o_1 o_2
    simp only [← hpC]
    clear hpC hl ho
    by_cases k1 : kk = 1
    · subst k1
      have E1 := Lib.hid (E1.out rfl)
      have c_0 := y0.lift c_0
      have c_1 := y0.lift c_1
      have c_2 := y0.lift c_2
      have c_3 := y0.lift c_3
      have c_4 := y0.lift c_4
      have c_5 := y0.lift c_5
      have o_0 := y0.lift o_0
      have o_1 := y0.lift o_1
      have o_2 := y0.lift o_2
      go_upto_region 4 with fail
      by_cases c0 : co < 0
      · have g0 : ¬ (0 : Int) ≤ co := by omega
        have B := Lib.hid (show c.holds o = false by rw [E1.out]; unfold regB; exact decide_eq_false (by omega))
        refine wp_region_wb (by kernel_rfl) (by kernel_rfl) ?_
        repeat (go_big_quiet_step (fail))
        refine wpQuiet_nil ?_
        rintro _ ⟨x9, rfl⟩
        go_wp2
        go_ret
        exact ⟨by rw [B.out]; rfl, KK.out ⟨x9.at, y0.bel.trans (x9.bel.mono y0.bel.size)⟩⟩
      · obtain ⟨i, rfl⟩ : ∃ i : Nat, co = (i : Int) := ⟨co.toNat, by omega⟩
        by_cases c1 : nr ≤ i
        · have g1 : ¬ (i : Int) < (nr : Int) := by omega
          have B := Lib.hid (show c.holds o = false by
            rw [E1.out]
            unfold regB
            refine decide_eq_false ?_
            rintro ⟨_, _, h⟩
            rw [Int.toNat_natCast, List.getElem?_eq_none (by have := (OU.out y0).enr; omega)] at h
            cases h)
          clear c1
          refine wp_region_wb (by kernel_rfl) (by kernel_rfl) ?_
          repeat (go_big_quiet_step (fail))
          refine wpQuiet_nil ?_
          rintro _ ⟨x9, rfl⟩
          go_wp2
          go_ret
          exact ⟨by rw [B.out]; rfl, KK.out ⟨x9.at, y0.bel.trans (x9.bel.mono y0.bel.size)⟩⟩
        · have g2 : (i : Int) < (nr : Int) := by omega
          have il : i < o.regs.length := by have := (OU.out y0).enr; omega
          by_cases c2 : rr < 0
          · have g3 : ¬ (0 : Int) ≤ rr := by omega
            have B := Lib.hid (show c.holds o = false by rw [E1.out]; unfold regB; exact decide_eq_false (by omega))
            clear il c1
            refine wp_region_wb (by kernel_rfl) (by kernel_rfl) ?_
            repeat (go_big_quiet_step (fail))
            refine wpQuiet_nil ?_
            rintro _ ⟨x9, rfl⟩
            go_wp2
            go_ret
            exact ⟨by rw [B.out]; rfl, KK.out ⟨x9.at, y0.bel.trans (x9.bel.mono y0.bel.size)⟩⟩
          · obtain ⟨j, rfl⟩ : ∃ j : Nat, rr = (j : Int) := ⟨rr.toNat, by omega⟩
            have RB := Lib.hid (show c.holds o = decide ((o.regs[i]'il)[j]? = some vv) by
              rw [E1.out]
              unfold regB
              rw [Int.toNat_natCast, Int.toNat_natCast, List.getElem?_eq_getElem il]
              simp)
            obtain ⟨a, p2, n2, q2, rfl, f0, hn2, hm2, hr2⟩ := (OU.out y0).regs i il
            have e0 : ∀ z : Wb y0.at, z.at.cell? (a.add i) = some (.slice p2 n2 q2) := fun z => keep_below z.bel _ _ f0
            clear f0
            have n29 : (n2 : Int) ≤ 9223372036854775807 := by unfold maxLen at hm2; omega
            obtain ⟨l, hl2⟩ : ∃ l, l = o.regs[i]'il := ⟨_, rfl⟩
            rw [← hl2] at RB hn2 hr2
            have HN2 := Lib.hid hn2
            have HR2 := Lib.hid hr2
            clear hl2 c1 hn2 hr2 hm2
            by_cases c3 : n2 ≤ j
            · have g3 : ¬ (j : Int) < (n2 : Int) := by omega
              have B := Lib.hid (show c.holds o = false by
                rw [RB.out]
                refine decide_eq_false ?_
                rw [List.getElem?_eq_none (by have := HN2.out; omega)]
                simp)
              clear c3 il
              refine wp_region_wb (by kernel_rfl) (by kernel_rfl) ?_
              repeat (go_big_quiet_step (fail))
              refine wpQuiet_nil ?_
              rintro _ ⟨x9, rfl⟩
              go_wp2
              go_ret
              exact ⟨by rw [B.out]; rfl, KK.out ⟨x9.at, y0.bel.trans (x9.bel.mono y0.bel.size)⟩⟩
            · have g4 : (j : Int) < (n2 : Int) := by omega
              have jl : j < l.length := by have := HN2.out; omega
              obtain ⟨b, rfl, f1⟩ := HR2.out j jl
              have e1 : ∀ z : Wb y0.at, z.at.cell? (b.add j) = some (.int .u64 (l[j]'jl)) := fun z => keep_below z.bel _ _ f1
              clear f1
              have B := Lib.hid (show c.holds o = decide (l[j]'jl = vv) by rw [RB.out, List.getElem?_eq_getElem jl]; simp)
              obtain ⟨x, hx⟩ : ∃ x, x = l[j]'jl := ⟨_, rfl⟩
              rw [← hx] at B e1
              clear hx jl c3 il
              by_cases ex : x = vv
              · subst ex
                have B := Lib.hid (show c.holds o = true by rw [B.out]; exact decide_eq_true rfl)
                refine wp_region_wb (by kernel_rfl) (by kernel_rfl) ?_
                repeat (go_big_quiet_step (fail))
                refine wpQuiet_nil ?_
                rintro _ ⟨x9, rfl⟩
                go_wp2
                go_ret
                exact ⟨by rw [B.out]; rfl, KK.out ⟨x9.at, y0.bel.trans (x9.bel.mono y0.bel.size)⟩⟩
              · have ex1 : (x == vv) = false := by simpa using ex
                have B := Lib.hid (show c.holds o = false by rw [B.out]; exact decide_eq_false ex)
                refine wp_region_wb (by kernel_rfl) (by kernel_rfl) ?_
                repeat (go_big_quiet_step (fail))
                refine wpQuiet_nil ?_
                rintro _ ⟨x9, rfl⟩
                go_wp2
                go_ret
                exact ⟨by rw [B.out]; rfl, KK.out ⟨x9.at, y0.bel.trans (x9.bel.mono y0.bel.size)⟩⟩
    have k1b : (kk == 1) = false := by simpa using k1
    by_cases k2 : kk = 2
    · subst k2
      have F2 := Lib.hid (E2.out rfl)
      clear E1 E2 E3
      obtain ⟨L, hL⟩ : ∃ L, L = o.cells := ⟨_, rfl⟩
      have CL0 : ∀ z : Wb U0, ∀ i (h : i < o.cells.length), ∃ a, pc = some a ∧ z.at.cell? (a.add (i * 2)) = some (.int .u64 (o.cells[i]'h).1) ∧ z.at.cell? ⟨(a.add (i * 2)).block, (a.add (i * 2)).off + 1, none⟩ = some (.int .u64 (o.cells[i]'h).2) := fun z => (OU.out z).cells
      have NC := Lib.hid (OU.out y0).enc
      have N9 := (OU.out y0).most.1
      rw [← hL] at F2 NC CL0
      have CL := Lib.hid CL0
      have c9 : (nc : Int) ≤ 9223372036854775807 := by unfold maxLen at N9; omega
      have c00 : (0 : Int) ≤ (nc : Int) := by omega
      clear hL OU CL0
      go_wp2_with fail
      go_loopw [6] (fun iv wr => ∃ (j : Nat) (z : Wb U0), j ≤ nc ∧ iv = .int .i64 ((j : Int) - 1) ∧ (∀ i (h : i < L.length), j ≤ i → (L[i]'h).1 ≠ aa) ∧ wr = z.at) (fun iv _ => (intOf iv + 1).toNat)
      case atStart => exact ⟨nc, y0, by omega, rfl, fun i h h2 => by have := NC.out; omega, rfl⟩
      case round =>
        obtain ⟨j, z, hj, rfl, hall, rfl⟩ := hrel
        have HA := Lib.hid hall
        clear hall
        by_cases cj : 0 < j
        · obtain ⟨i, rfl⟩ : ∃ i, j = i + 1 := ⟨j - 1, by omega⟩
          have i1 : ((i + 1 : Nat) : Int) - 1 = (i : Int) := by omega
          have l1 : i < L.length := by have := NC.out; omega
          obtain ⟨a, rfl, f0, f1⟩ := CL.out z i l1
          have e0 : ∀ y : Wb z.at, y.at.cell? (a.add (i * 2)) = some (.int .u64 (L[i]'l1).1) := fun y => keep_below y.bel _ _ f0
          have e1 : ∀ y : Wb z.at, y.at.cell? ⟨(a.add (i * 2)).block, (a.add (i * 2)).off + 1, none⟩ = some (.int .u64 (L[i]'l1).2) := fun y => keep_below y.bel _ _ f1
          have CT := Lib.hid (show (L[i]'l1).1 = aa → cellOf L aa = (L[i]'l1).2 from fun e => by
            have key : ∀ k, i < k → k ≤ L.length → cellOf (L.take k) aa = (L[i]'l1).2 := by
              intro k
              induction k with
              | zero => intro h; omega
              | succ k ih2 =>
                intro h h2
                rw [cellOf_take L aa k (by omega)]
                by_cases ek : k = i
                · subst ek; rw [if_pos e]
                · rw [if_neg (HA.out k (by omega) (by omega))]
                  exact ih2 (by omega) (by omega)
            have := key L.length l1 (Nat.le_refl _)
            rwa [List.take_length] at this)
          have NX := Lib.hid (show (L[i]'l1).1 ≠ aa → ∀ k (h : k < L.length), i ≤ k → (L[k]'h).1 ≠ aa from fun e k h h2 => by
            by_cases ek : k = i
            · subst ek; exact e
            · exact HA.out k h (by omega))
          obtain ⟨x0, hx0⟩ : ∃ x, x = (L[i]'l1).1 := ⟨_, rfl⟩
          obtain ⟨x1, hx1⟩ : ∃ x, x = (L[i]'l1).2 := ⟨_, rfl⟩
          rw [← hx0] at e0 CT NX
          rw [← hx1] at e1 CT
          rw [i1]
          have IL := Lib.hid (show i ≤ nc by omega)
          have g1 : (i : Int) < (nc : Int) := by omega
          have g0 : (0 : Int) ≤ (i : Int) := by omega
          clear f0 f1 hx0 hx1 l1 hj cj i1
          have c_0 := z.lift c_0
          have c_1 := z.lift c_1
          have c_2 := z.lift c_2
          have c_3 := z.lift c_3
          have c_4 := z.lift c_4
          have c_5 := z.lift c_5
          have o_0 := z.lift o_0
          have o_1 := z.lift o_1
          have o_2 := z.lift o_2
          go_upto_region 9 with fail
          by_cases ea : x0 = aa
          · subst ea
            have CT := Lib.hid (CT.out rfl)
            refine wp_region_wb (by kernel_rfl) (by kernel_rfl) ?_
            repeat (go_big_quiet_step (fail))
            refine wpQuiet_nil ?_
            rintro _ ⟨x9, rfl⟩
            have e1 := x9.lift e1
            have c_0 := x9.lift c_0
            have c_1 := x9.lift c_1
            have c_2 := x9.lift c_2
            have c_3 := x9.lift c_3
            have c_4 := x9.lift c_4
            have c_5 := x9.lift c_5
            have o_0 := x9.lift o_0
            have o_1 := x9.lift o_1
            have o_2 := x9.lift o_2
            go_upto_region 10 with fail
            by_cases ev : x1 = vv
            · subst ev
              have B := Lib.hid (show c.holds o = true by rw [F2.out, CT.out]; exact decide_eq_true rfl)
              refine wp_region_wb (by kernel_rfl) (by kernel_rfl) ?_
              repeat (go_big_quiet_step (fail))
              refine wpQuiet_nil ?_
              rintro _ ⟨x8, rfl⟩
              go_wp2
              go_ret
              exact ⟨by rw [B.out]; rfl, (KK.out z).trans ((x9.bel.trans (x8.bel.mono x9.size)).mono (KK.out z).size)⟩
            · have ev1 : (x1 == vv) = false := by simpa using ev
              have B := Lib.hid (show c.holds o = false by rw [F2.out, CT.out]; exact decide_eq_false ev)
              refine wp_region_wb (by kernel_rfl) (by kernel_rfl) ?_
              repeat (go_big_quiet_step (fail))
              refine wpQuiet_nil ?_
              rintro _ ⟨x8, rfl⟩
              go_wp2
              go_ret
              exact ⟨by rw [B.out]; rfl, (KK.out z).trans ((x9.bel.trans (x8.bel.mono x9.size)).mono (KK.out z).size)⟩
          · have ea1 : (x0 == aa) = false := by simpa using ea
            have NX := Lib.hid (NX.out ea)
            refine wp_region_wb (by kernel_rfl) (by kernel_rfl) ?_
            repeat (go_big_quiet_step (fail))
            refine wpQuiet_nil ?_
            rintro _ ⟨x9, rfl⟩
            go_wp2_with fail
            go_roundw
            case rel => exact ⟨i, ⟨x9.at, z.bel.trans (x9.bel.mono z.size)⟩, IL.out, rfl, NX.out, rfl⟩
            case measure => simp [intOf]
        · obtain rfl : j = 0 := by omega
          have CZ := Lib.hid (show cellOf L aa = 0 by
            have key : ∀ k, k ≤ L.length → cellOf (L.take k) aa = 0 := by
              intro k
              induction k with
              | zero => intro _; rfl
              | succ k ih2 =>
                intro h
                rw [cellOf_take L aa k (by omega), if_neg (HA.out k (by omega) (by omega))]
                exact ih2 (by omega)
            have := key L.length (Nat.le_refl _)
            rwa [List.take_length] at this)
          have z1 : ((0 : Nat) : Int) - 1 = -1 := rfl
          rw [z1]
          clear hj cj
          by_cases ev : vv = 0
          · subst ev
            have B := Lib.hid (show c.holds o = true by rw [F2.out, CZ.out]; exact decide_eq_true rfl)
            go_wp2
            go_ret
            exact ⟨by rw [B.out]; rfl, KK.out z⟩
          · have ev1 : (vv == 0) = false := by simpa using ev
            have B := Lib.hid (show c.holds o = false by rw [F2.out, CZ.out]; exact decide_eq_false (fun e => ev e.symm))
            go_wp2
            go_ret
            exact ⟨by rw [B.out]; rfl, KK.out z⟩
    have k2b : (kk == 2) = false := by simpa using k2
    by_cases k3 : kk = 3
    · subst k3
      have E3 := Lib.hid (E3.out rfl)
      have c_0 := y0.lift c_0
      have c_1 := y0.lift c_1
      have c_2 := y0.lift c_2
      have c_3 := y0.lift c_3
      have c_4 := y0.lift c_4
      have c_5 := y0.lift c_5
      have o_0 := y0.lift o_0
      have o_1 := y0.lift o_1
      have o_2 := y0.lift o_2
      by_cases c0 : co < 0
      · have g0 : ¬ (0 : Int) ≤ co := by omega
        have B := Lib.hid (show c.holds o = false by rw [E3.out]; exact decide_eq_false (by omega))
        go_upto_region 13 with fail
        refine wp_region_wb (by kernel_rfl) (by kernel_rfl) ?_
        repeat (go_big_quiet_step (fail))
        refine wpQuiet_nil ?_
        rintro _ ⟨x9, rfl⟩
        go_wp2
        go_ret
        exact ⟨by rw [B.out]; rfl, KK.out ⟨x9.at, y0.bel.trans (x9.bel.mono y0.bel.size)⟩⟩
      · obtain ⟨i, rfl⟩ : ∃ i : Nat, co = (i : Int) := ⟨co.toNat, by omega⟩
        by_cases c1 : nf ≤ i
        · have g1 : ¬ (i : Int) < (nf : Int) := by omega
          have B := Lib.hid (show c.holds o = false by
            rw [E3.out]
            refine decide_eq_false ?_
            rintro ⟨_, h⟩
            rw [Int.toNat_natCast, List.getElem?_eq_none (by have := (OU.out y0).enf; omega)] at h
            cases h)
          clear c1
          go_upto_region 13 with fail
          refine wp_region_wb (by kernel_rfl) (by kernel_rfl) ?_
          repeat (go_big_quiet_step (fail))
          refine wpQuiet_nil ?_
          rintro _ ⟨x9, rfl⟩
          go_wp2
          go_ret
          exact ⟨by rw [B.out]; rfl, KK.out ⟨x9.at, y0.bel.trans (x9.bel.mono y0.bel.size)⟩⟩
        · have g1 : (i : Int) < (nf : Int) := by omega
          have il : i < o.flts.length := by have := (OU.out y0).enf; omega
          obtain ⟨a, p2, q2, rfl, f0, hm⟩ := (OU.out y0).flts i il
          have e0 : ∀ z : Wb y0.at, z.at.cell? (a.add i) = some (.slice p2 (o.flts[i]'il) q2) := fun z => keep_below z.bel _ _ f0
          have E3 := Lib.hid (show c.holds o = decide (((o.flts[i]'il : Nat) : Int) = vv) by
            rw [E3.out, Int.toNat_natCast, List.getElem?_eq_getElem il]
            simp)
          obtain ⟨m, hmm⟩ : ∃ m, m = o.flts[i]'il := ⟨_, rfl⟩
          rw [← hmm] at e0 E3 hm
          have wr : IntKind.u64.wrap (m : Int) = (m : Int) := by rw [IntKind.wrap_u64]; unfold maxLen at hm; omega
          clear hmm f0 il c1 hm
          by_cases ex : (m : Int) = vv
          · subst ex
            have B := Lib.hid (show c.holds o = true by rw [E3.out]; exact decide_eq_true rfl)
            go_upto_region 13 with fail
            refine wp_region_wb (by kernel_rfl) (by kernel_rfl) ?_
            repeat (go_big_quiet_step (fail))
            refine wpQuiet_nil ?_
            rintro _ ⟨x9, rfl⟩
            go_wp2
            go_ret
            exact ⟨by rw [B.out]; rfl, KK.out ⟨x9.at, y0.bel.trans (x9.bel.mono y0.bel.size)⟩⟩
          · have ex1 : ((m : Int) == vv) = false := by simpa using ex
            have B := Lib.hid (show c.holds o = false by rw [E3.out]; exact decide_eq_false ex)
            go_upto_region 13 with fail
            refine wp_region_wb (by kernel_rfl) (by kernel_rfl) ?_
            repeat (go_big_quiet_step (fail))
            refine wpQuiet_nil ?_
            rintro _ ⟨x9, rfl⟩
            go_wp2
            go_ret
            exact ⟨by rw [B.out]; rfl, KK.out ⟨x9.at, y0.bel.trans (x9.bel.mono y0.bel.size)⟩⟩
    have k3b : (kk == 3) = false := by simpa using k3
    by_cases k7 : kk = 7
    · subst k7
      have B := Lib.hid (show c.holds o = true from holds_true (by have := KE.out; omega))
      go_wp2
      go_ret
      exact ⟨by rw [B.out]; rfl, KK.out y0⟩
    have k7b : (kk == 7) = false := by simpa using k7
    clear E1 E2 E3
    by_cases k6 : kk = 6
    · subst k6
      have c_0 := y0.lift c_0
      have c_1 := y0.lift c_1
      have c_2 := y0.lift c_2
      have c_3 := y0.lift c_3
      have c_4 := y0.lift c_4
      have c_5 := y0.lift c_5
      have o_0 := y0.lift o_0
      have o_1 := y0.lift o_1
      have o_2 := y0.lift o_2
      go_upto_region 17 with fail
      by_cases en : n = 1
      · subst en
        have l0 : 0 < ts.length := by have := HN.out; omega
        obtain ⟨a, rfl⟩ := (LU.out y0).addr 0 l0
        have B := Lib.hid (holds_not (o := o) (c := c) (by have := KE.out; omega) (by rw [← TE.out]; exact HN.out.symm) (by rw [← TE.out]; exact l0))
        simp only [← TE.out] at B
        obtain ⟨p2, n2, q2, hne, hle, g0, g1, g2, g3, g4, g5⟩ := ((LU.out y0)).first l0
        have CA := Lib.hid (fun z : Wb y0.at => HH.out (ts[0]'l0) p2 n2 q2 z.at (HT.out _ (List.getElem_mem l0)) hne (hle.below z.bel) ((OU.out y0).below z.bel))
        obtain ⟨b0, hbe⟩ : ∃ b, b = (ts[0]'l0).holds o := ⟨_, rfl⟩
        rw [← hbe] at CA B
        obtain ⟨x0, hx0⟩ : ∃ x, x = (ts[0]'l0).k := ⟨_, rfl⟩
        obtain ⟨x1, hx1⟩ : ∃ x, x = (ts[0]'l0).co := ⟨_, rfl⟩
        obtain ⟨x2, hx2⟩ : ∃ x, x = (ts[0]'l0).r := ⟨_, rfl⟩
        obtain ⟨x3, hx3⟩ : ∃ x, x = (ts[0]'l0).ad := ⟨_, rfl⟩
        obtain ⟨x4, hx4⟩ : ∃ x, x = (ts[0]'l0).va := ⟨_, rfl⟩
        rw [← hx0] at g0
        rw [← hx1] at g1
        rw [← hx2] at g2
        rw [← hx3] at g3
        rw [← hx4] at g4
        rw [← hx0, ← hx1, ← hx2, ← hx3, ← hx4] at CA
        have e0 : ∀ z : Wb y0.at, z.at.cell? a = some (.int .i64 x0) := fun z => keep_below z.bel _ _ g0
        have e1 : ∀ z : Wb y0.at, z.at.cell? ⟨a.block, a.off + 1, none⟩ = some (.int .i64 x1) := fun z => keep_below z.bel _ _ g1
        have e2 : ∀ z : Wb y0.at, z.at.cell? ⟨a.block, a.off + 2, none⟩ = some (.int .i64 x2) := fun z => keep_below z.bel _ _ g2
        have e3 : ∀ z : Wb y0.at, z.at.cell? ⟨a.block, a.off + 3, none⟩ = some (.int .u64 x3) := fun z => keep_below z.bel _ _ g3
        have e4 : ∀ z : Wb y0.at, z.at.cell? ⟨a.block, a.off + 4, none⟩ = some (.int .u64 x4) := fun z => keep_below z.bel _ _ g4
        have e5 : ∀ z : Wb y0.at, z.at.cell? ⟨a.block, a.off + 5, none⟩ = some (.slice p2 n2 q2) := fun z => keep_below z.bel _ _ g5
        clear g0 g1 g2 g3 g4 g5 hx0 hx1 hx2 hx3 hx4
        clear hbe hne hle
        refine wp_region_wb (by kernel_rfl) (by kernel_rfl) ?_
        repeat (go_big_quiet_step ((go_at_call 23; exact Calls.wb (CA.out _))))
        refine wpQuiet_nil ?_
        rintro _ ⟨x8, rfl⟩
        go_wp2
        go_ret
        exact ⟨by rw [B.out]; rfl, KK.out ⟨x8.at, y0.bel.trans (x8.bel.mono y0.bel.size)⟩⟩
      · have en1 : ((n : Int) == 1) = false := by simp; omega
        have en2 : ¬ (n : Int) = 1 := by omega
        have B := Lib.hid (show c.holds o = false from holds_wrong (by rw [← TE.out, ← KE.out, ← HN.out, arity_eq]; omega) (by rw [← KE.out]; omega))
        refine wp_region_wb (by kernel_rfl) (by kernel_rfl) ?_
        repeat (go_big_quiet_step (fail))
        refine wpQuiet_nil ?_
        rintro _ ⟨x9, rfl⟩
        go_wp2
        go_ret
        exact ⟨by rw [B.out]; rfl, KK.out ⟨x9.at, y0.bel.trans (x9.bel.mono y0.bel.size)⟩⟩
    have k6b : (kk == 6) = false := by simpa using k6
    by_cases k4 : kk = 4
    · subst k4
      have c_0 := y0.lift c_0
      have c_1 := y0.lift c_1
      have c_2 := y0.lift c_2
      have c_3 := y0.lift c_3
      have c_4 := y0.lift c_4
      have c_5 := y0.lift c_5
      have o_0 := y0.lift o_0
      have o_1 := y0.lift o_1
      have o_2 := y0.lift o_2
      go_upto_region 19 with fail
      by_cases en : n = 2
      · subst en
        have l0 : 0 < ts.length := by have := HN.out; omega
        have l1 : 1 < ts.length := by have := HN.out; omega
        obtain ⟨a, rfl⟩ := (LU.out y0).addr 0 l0
        have B := Lib.hid (holds_and (o := o) (c := c) (by have := KE.out; omega) (by rw [← TE.out]; exact HN.out.symm) (by rw [← TE.out]; exact l0) (by rw [← TE.out]; exact l1))
        simp only [← TE.out] at B
        obtain ⟨p2, n2, q2, hne, hle, g0, g1, g2, g3, g4, g5⟩ := ((LU.out y0)).first l0
        have CA := Lib.hid (fun z : Wb y0.at => HH.out (ts[0]'l0) p2 n2 q2 z.at (HT.out _ (List.getElem_mem l0)) hne (hle.below z.bel) ((OU.out y0).below z.bel))
        obtain ⟨b0, hbe⟩ : ∃ b, b = (ts[0]'l0).holds o := ⟨_, rfl⟩
        rw [← hbe] at CA B
        obtain ⟨x0, hx0⟩ : ∃ x, x = (ts[0]'l0).k := ⟨_, rfl⟩
        obtain ⟨x1, hx1⟩ : ∃ x, x = (ts[0]'l0).co := ⟨_, rfl⟩
        obtain ⟨x2, hx2⟩ : ∃ x, x = (ts[0]'l0).r := ⟨_, rfl⟩
        obtain ⟨x3, hx3⟩ : ∃ x, x = (ts[0]'l0).ad := ⟨_, rfl⟩
        obtain ⟨x4, hx4⟩ : ∃ x, x = (ts[0]'l0).va := ⟨_, rfl⟩
        rw [← hx0] at g0
        rw [← hx1] at g1
        rw [← hx2] at g2
        rw [← hx3] at g3
        rw [← hx4] at g4
        rw [← hx0, ← hx1, ← hx2, ← hx3, ← hx4] at CA
        have e0 : ∀ z : Wb y0.at, z.at.cell? a = some (.int .i64 x0) := fun z => keep_below z.bel _ _ g0
        have e1 : ∀ z : Wb y0.at, z.at.cell? ⟨a.block, a.off + 1, none⟩ = some (.int .i64 x1) := fun z => keep_below z.bel _ _ g1
        have e2 : ∀ z : Wb y0.at, z.at.cell? ⟨a.block, a.off + 2, none⟩ = some (.int .i64 x2) := fun z => keep_below z.bel _ _ g2
        have e3 : ∀ z : Wb y0.at, z.at.cell? ⟨a.block, a.off + 3, none⟩ = some (.int .u64 x3) := fun z => keep_below z.bel _ _ g3
        have e4 : ∀ z : Wb y0.at, z.at.cell? ⟨a.block, a.off + 4, none⟩ = some (.int .u64 x4) := fun z => keep_below z.bel _ _ g4
        have e5 : ∀ z : Wb y0.at, z.at.cell? ⟨a.block, a.off + 5, none⟩ = some (.slice p2 n2 q2) := fun z => keep_below z.bel _ _ g5
        clear g0 g1 g2 g3 g4 g5 hx0 hx1 hx2 hx3 hx4
        clear hbe hne hle
        obtain ⟨p3, n3, q3, hnf, hlf, g0, g1, g2, g3, g4, g5⟩ := ((LU.out y0)).second l1
        have CB := Lib.hid (fun z : Wb y0.at => HH.out (ts[1]'l1) p3 n3 q3 z.at (HT.out _ (List.getElem_mem l1)) hnf (hlf.below z.bel) ((OU.out y0).below z.bel))
        obtain ⟨b1, hbf⟩ : ∃ b, b = (ts[1]'l1).holds o := ⟨_, rfl⟩
        rw [← hbf] at CB B
        obtain ⟨u0, hx0⟩ : ∃ x, x = (ts[1]'l1).k := ⟨_, rfl⟩
        obtain ⟨u1, hx1⟩ : ∃ x, x = (ts[1]'l1).co := ⟨_, rfl⟩
        obtain ⟨u2, hx2⟩ : ∃ x, x = (ts[1]'l1).r := ⟨_, rfl⟩
        obtain ⟨u3, hx3⟩ : ∃ x, x = (ts[1]'l1).ad := ⟨_, rfl⟩
        obtain ⟨u4, hx4⟩ : ∃ x, x = (ts[1]'l1).va := ⟨_, rfl⟩
        rw [← hx0] at g0
        rw [← hx1] at g1
        rw [← hx2] at g2
        rw [← hx3] at g3
        rw [← hx4] at g4
        rw [← hx0, ← hx1, ← hx2, ← hx3, ← hx4] at CB
        have f0 : ∀ z : Wb y0.at, z.at.cell? ⟨a.block, a.off + 6, none⟩ = some (.int .i64 u0) := fun z => keep_below z.bel _ _ g0
        have f1 : ∀ z : Wb y0.at, z.at.cell? ⟨a.block, a.off + 6 + 1, none⟩ = some (.int .i64 u1) := fun z => keep_below z.bel _ _ g1
        have f2 : ∀ z : Wb y0.at, z.at.cell? ⟨a.block, a.off + 6 + 2, none⟩ = some (.int .i64 u2) := fun z => keep_below z.bel _ _ g2
        have f3 : ∀ z : Wb y0.at, z.at.cell? ⟨a.block, a.off + 6 + 3, none⟩ = some (.int .u64 u3) := fun z => keep_below z.bel _ _ g3
        have f4 : ∀ z : Wb y0.at, z.at.cell? ⟨a.block, a.off + 6 + 4, none⟩ = some (.int .u64 u4) := fun z => keep_below z.bel _ _ g4
        have f5 : ∀ z : Wb y0.at, z.at.cell? ⟨a.block, a.off + 6 + 5, none⟩ = some (.slice p3 n3 q3) := fun z => keep_below z.bel _ _ g5
        clear g0 g1 g2 g3 g4 g5 hx0 hx1 hx2 hx3 hx4
        clear hbf hnf hlf
        cases b0 with
        | true =>
          refine wp_region_wb (by kernel_rfl) (by kernel_rfl) ?_
          iterate 9 (go_big_quiet_step ((go_at_call 23; exact Calls.wb (CA.out _))))
          repeat (go_big_quiet_step ((go_at_call 23; exact Calls.wb (CB.out _))))
          refine wpQuiet_nil ?_
          rintro _ ⟨x8, rfl⟩
          go_wp2
          go_ret
          exact ⟨by rw [B.out]; rfl, KK.out ⟨x8.at, y0.bel.trans (x8.bel.mono y0.bel.size)⟩⟩
        | false =>
          refine wp_region_wb (by kernel_rfl) (by kernel_rfl) ?_
          repeat (go_big_quiet_step ((go_at_call 23; exact Calls.wb (CA.out _))))
          refine wpQuiet_nil ?_
          rintro _ ⟨x8, rfl⟩
          go_wp2
          go_ret
          exact ⟨by rw [B.out]; rfl, KK.out ⟨x8.at, y0.bel.trans (x8.bel.mono y0.bel.size)⟩⟩
      · have en1 : ((n : Int) == 2) = false := by simp; omega
        have en2 : ¬ (n : Int) = 2 := by omega
        have B := Lib.hid (show c.holds o = false from holds_wrong (by rw [← TE.out, ← KE.out, ← HN.out, arity_eq]; omega) (by rw [← KE.out]; omega))
        refine wp_region_wb (by kernel_rfl) (by kernel_rfl) ?_
        repeat (go_big_quiet_step (fail))
        refine wpQuiet_nil ?_
        rintro _ ⟨x9, rfl⟩
        go_wp2
        go_ret
        exact ⟨by rw [B.out]; rfl, KK.out ⟨x9.at, y0.bel.trans (x9.bel.mono y0.bel.size)⟩⟩
    have k4b : (kk == 4) = false := by simpa using k4
    by_cases k5 : kk = 5
    · subst k5
      have c_0 := y0.lift c_0
      have c_1 := y0.lift c_1
      have c_2 := y0.lift c_2
      have c_3 := y0.lift c_3
      have c_4 := y0.lift c_4
      have c_5 := y0.lift c_5
      have o_0 := y0.lift o_0
      have o_1 := y0.lift o_1
      have o_2 := y0.lift o_2
      go_upto_region 21 with fail
      by_cases en : n = 2
      · subst en
        have l0 : 0 < ts.length := by have := HN.out; omega
        have l1 : 1 < ts.length := by have := HN.out; omega
        obtain ⟨a, rfl⟩ := (LU.out y0).addr 0 l0
        have B := Lib.hid (holds_or (o := o) (c := c) (by have := KE.out; omega) (by rw [← TE.out]; exact HN.out.symm) (by rw [← TE.out]; exact l0) (by rw [← TE.out]; exact l1))
        simp only [← TE.out] at B
        obtain ⟨p2, n2, q2, hne, hle, g0, g1, g2, g3, g4, g5⟩ := ((LU.out y0)).first l0
        have CA := Lib.hid (fun z : Wb y0.at => HH.out (ts[0]'l0) p2 n2 q2 z.at (HT.out _ (List.getElem_mem l0)) hne (hle.below z.bel) ((OU.out y0).below z.bel))
        obtain ⟨b0, hbe⟩ : ∃ b, b = (ts[0]'l0).holds o := ⟨_, rfl⟩
        rw [← hbe] at CA B
        obtain ⟨x0, hx0⟩ : ∃ x, x = (ts[0]'l0).k := ⟨_, rfl⟩
        obtain ⟨x1, hx1⟩ : ∃ x, x = (ts[0]'l0).co := ⟨_, rfl⟩
        obtain ⟨x2, hx2⟩ : ∃ x, x = (ts[0]'l0).r := ⟨_, rfl⟩
        obtain ⟨x3, hx3⟩ : ∃ x, x = (ts[0]'l0).ad := ⟨_, rfl⟩
        obtain ⟨x4, hx4⟩ : ∃ x, x = (ts[0]'l0).va := ⟨_, rfl⟩
        rw [← hx0] at g0
        rw [← hx1] at g1
        rw [← hx2] at g2
        rw [← hx3] at g3
        rw [← hx4] at g4
        rw [← hx0, ← hx1, ← hx2, ← hx3, ← hx4] at CA
        have e0 : ∀ z : Wb y0.at, z.at.cell? a = some (.int .i64 x0) := fun z => keep_below z.bel _ _ g0
        have e1 : ∀ z : Wb y0.at, z.at.cell? ⟨a.block, a.off + 1, none⟩ = some (.int .i64 x1) := fun z => keep_below z.bel _ _ g1
        have e2 : ∀ z : Wb y0.at, z.at.cell? ⟨a.block, a.off + 2, none⟩ = some (.int .i64 x2) := fun z => keep_below z.bel _ _ g2
        have e3 : ∀ z : Wb y0.at, z.at.cell? ⟨a.block, a.off + 3, none⟩ = some (.int .u64 x3) := fun z => keep_below z.bel _ _ g3
        have e4 : ∀ z : Wb y0.at, z.at.cell? ⟨a.block, a.off + 4, none⟩ = some (.int .u64 x4) := fun z => keep_below z.bel _ _ g4
        have e5 : ∀ z : Wb y0.at, z.at.cell? ⟨a.block, a.off + 5, none⟩ = some (.slice p2 n2 q2) := fun z => keep_below z.bel _ _ g5
        clear g0 g1 g2 g3 g4 g5 hx0 hx1 hx2 hx3 hx4
        clear hbe hne hle
        obtain ⟨p3, n3, q3, hnf, hlf, g0, g1, g2, g3, g4, g5⟩ := ((LU.out y0)).second l1
        have CB := Lib.hid (fun z : Wb y0.at => HH.out (ts[1]'l1) p3 n3 q3 z.at (HT.out _ (List.getElem_mem l1)) hnf (hlf.below z.bel) ((OU.out y0).below z.bel))
        obtain ⟨b1, hbf⟩ : ∃ b, b = (ts[1]'l1).holds o := ⟨_, rfl⟩
        rw [← hbf] at CB B
        obtain ⟨u0, hx0⟩ : ∃ x, x = (ts[1]'l1).k := ⟨_, rfl⟩
        obtain ⟨u1, hx1⟩ : ∃ x, x = (ts[1]'l1).co := ⟨_, rfl⟩
        obtain ⟨u2, hx2⟩ : ∃ x, x = (ts[1]'l1).r := ⟨_, rfl⟩
        obtain ⟨u3, hx3⟩ : ∃ x, x = (ts[1]'l1).ad := ⟨_, rfl⟩
        obtain ⟨u4, hx4⟩ : ∃ x, x = (ts[1]'l1).va := ⟨_, rfl⟩
        rw [← hx0] at g0
        rw [← hx1] at g1
        rw [← hx2] at g2
        rw [← hx3] at g3
        rw [← hx4] at g4
        rw [← hx0, ← hx1, ← hx2, ← hx3, ← hx4] at CB
        have f0 : ∀ z : Wb y0.at, z.at.cell? ⟨a.block, a.off + 6, none⟩ = some (.int .i64 u0) := fun z => keep_below z.bel _ _ g0
        have f1 : ∀ z : Wb y0.at, z.at.cell? ⟨a.block, a.off + 6 + 1, none⟩ = some (.int .i64 u1) := fun z => keep_below z.bel _ _ g1
        have f2 : ∀ z : Wb y0.at, z.at.cell? ⟨a.block, a.off + 6 + 2, none⟩ = some (.int .i64 u2) := fun z => keep_below z.bel _ _ g2
        have f3 : ∀ z : Wb y0.at, z.at.cell? ⟨a.block, a.off + 6 + 3, none⟩ = some (.int .u64 u3) := fun z => keep_below z.bel _ _ g3
        have f4 : ∀ z : Wb y0.at, z.at.cell? ⟨a.block, a.off + 6 + 4, none⟩ = some (.int .u64 u4) := fun z => keep_below z.bel _ _ g4
        have f5 : ∀ z : Wb y0.at, z.at.cell? ⟨a.block, a.off + 6 + 5, none⟩ = some (.slice p3 n3 q3) := fun z => keep_below z.bel _ _ g5
        clear g0 g1 g2 g3 g4 g5 hx0 hx1 hx2 hx3 hx4
        clear hbf hnf hlf
        cases b0 with
        | false =>
          refine wp_region_wb (by kernel_rfl) (by kernel_rfl) ?_
          iterate 9 (go_big_quiet_step ((go_at_call 23; exact Calls.wb (CA.out _))))
          repeat (go_big_quiet_step ((go_at_call 23; exact Calls.wb (CB.out _))))
          refine wpQuiet_nil ?_
          rintro _ ⟨x8, rfl⟩
          go_wp2
          go_ret
          exact ⟨by rw [B.out]; rfl, KK.out ⟨x8.at, y0.bel.trans (x8.bel.mono y0.bel.size)⟩⟩
        | true =>
          refine wp_region_wb (by kernel_rfl) (by kernel_rfl) ?_
          repeat (go_big_quiet_step ((go_at_call 23; exact Calls.wb (CA.out _))))
          refine wpQuiet_nil ?_
          rintro _ ⟨x8, rfl⟩
          go_wp2
          go_ret
          exact ⟨by rw [B.out]; rfl, KK.out ⟨x8.at, y0.bel.trans (x8.bel.mono y0.bel.size)⟩⟩
      · have en1 : ((n : Int) == 2) = false := by simp; omega
        have en2 : ¬ (n : Int) = 2 := by omega
        have B := Lib.hid (show c.holds o = false from holds_wrong (by rw [← TE.out, ← KE.out, ← HN.out, arity_eq]; omega) (by rw [← KE.out]; omega))
        refine wp_region_wb (by kernel_rfl) (by kernel_rfl) ?_
        repeat (go_big_quiet_step (fail))
        refine wpQuiet_nil ?_
        rintro _ ⟨x9, rfl⟩
        go_wp2
        go_ret
        exact ⟨by rw [B.out]; rfl, KK.out ⟨x9.at, y0.bel.trans (x9.bel.mono y0.bel.size)⟩⟩
    have k5b : (kk == 5) = false := by simpa using k5
    have B := Lib.hid (show c.holds o = false from holds_wrong (by rw [← TE.out, ← KE.out, ← HN.out, arity_eq]; omega) (by rw [← KE.out]; omega))
    go_wp2
    go_ret
    exact ⟨by rw [B.out]; rfl, KK.out y0⟩
end Go.Proofs.YtgpngjgilcbigaaDoor
