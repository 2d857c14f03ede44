/-
  Layer 11, the walks: the code's Holds.
-/
import Derived.Test.YtgpngjgilcbigaaDoorOg
set_option linter.unusedSimpArgs false
set_option linter.unusedVariables false
namespace GrC
theorem holds_eq (o : Out) (c : Cnd) : c.holds o = if c.k = 6 then decide (c.args.length = 1) && !anyL o c.args else if c.k = 4 then decide (c.args.length = 2) && allL o c.args else if c.k = 5 then decide (c.args.length = 2) && anyL o c.args else leafB o c.k c.co c.r c.ad c.va := by
  obtain ⟨k, co, r, ad, va, ts⟩ := c
  rw [Cnd.holds]
  rfl
theorem holds_reg {o : Out} {c : Cnd} (h : c.k = 1) : c.holds o = decide (0 ≤ c.co ∧ 0 ≤ c.r ∧ (o.regs[c.co.toNat]?.bind fun l => l[c.r.toNat]?) = some c.va) := by
  rw [holds_eq, if_neg (by omega), if_neg (by omega), if_neg (by omega), leafB, if_pos h]
theorem holds_cell {o : Out} {c : Cnd} (h : c.k = 2) : c.holds o = decide (cellOf o.cells c.ad = c.va) := by
  rw [holds_eq, if_neg (by omega), if_neg (by omega), if_neg (by omega), leafB, if_neg (by omega), if_pos h]
theorem holds_flt {o : Out} {c : Cnd} (h : c.k = 3) : c.holds o = decide (0 ≤ c.co ∧ (o.flts[c.co.toNat]?.map fun n => (n : Int)) = some c.va) := by
  rw [holds_eq, if_neg (by omega), if_neg (by omega), if_neg (by omega), leafB, if_neg (by omega), if_neg (by omega), if_pos h]
theorem holds_true {o : Out} {c : Cnd} (h : c.k = 7) : c.holds o = true := by
  rw [holds_eq, if_neg (by omega), if_neg (by omega), if_neg (by omega), leafB, if_neg (by omega), if_neg (by omega), if_neg (by omega)]
  exact decide_eq_true h
theorem holds_wrong {o : Out} {c : Cnd} (h : ¬ (c.args.length : Int) = arity c.k) (hk : c.k ≠ 1 ∧ c.k ≠ 2 ∧ c.k ≠ 3 ∧ c.k ≠ 7) : c.holds o = false := by
  rw [arity_eq] at h
  rw [holds_eq]
  split
  · rw [decide_eq_false (by omega)]; rfl
  · split
    · rw [decide_eq_false (by omega)]; rfl
    · split
      · rw [decide_eq_false (by omega)]; rfl
      · rw [leafB, if_neg (by omega), if_neg (by omega), if_neg (by omega)]
        exact decide_eq_false (by omega)
theorem holds_not {o : Out} {c : Cnd} (h : c.k = 6) (hn : c.args.length = 1) (l0 : 0 < c.args.length) : c.holds o = !(c.args[0]'l0).holds o := by
  obtain ⟨k, co, r, ad, va, ts⟩ := c
  simp only [Cnd.k, Cnd.args] at h hn ⊢
  match ts, hn with
  | [t], _ => rw [Cnd.holds, if_pos h]; simp [anyL]
theorem holds_and {o : Out} {c : Cnd} (h : c.k = 4) (hn : c.args.length = 2) (l0 : 0 < c.args.length) (l1 : 1 < c.args.length) : c.holds o = ((c.args[0]'l0).holds o && (c.args[1]'l1).holds o) := by
  obtain ⟨k, co, r, ad, va, ts⟩ := c
  simp only [Cnd.k, Cnd.args] at h hn ⊢
  match ts, hn with
  | [t, u], _ => rw [Cnd.holds, if_neg (by omega), if_pos h]; simp [allL]
theorem holds_or {o : Out} {c : Cnd} (h : c.k = 5) (hn : c.args.length = 2) (l0 : 0 < c.args.length) (l1 : 1 < c.args.length) : c.holds o = ((c.args[0]'l0).holds o || (c.args[1]'l1).holds o) := by
  obtain ⟨k, co, r, ad, va, ts⟩ := c
  simp only [Cnd.k, Cnd.args] at h hn ⊢
  match ts, hn with
  | [t, u], _ => rw [Cnd.holds, if_neg (by omega), if_neg (by omega), if_pos h]; simp [anyL]
end GrC
namespace Go.Proofs.YtgpngjgilcbigaaDoor
open Go.RowKit GrC

theorem LAt.first {W : World} {a : Addr} {ts : List Cnd} (h : LAt W ts (some a) 0) (hj : 0 < ts.length) : ∃ p n c, n = (ts[0]'hj).args.length ∧ LAt W (ts[0]'hj).args p 0 ∧ W.cell? a = some (.int .i64 (ts[0]'hj).k) ∧ W.cell? ⟨a.block, a.off + 1, none⟩ = some (.int .i64 (ts[0]'hj).co) ∧ W.cell? ⟨a.block, a.off + 2, none⟩ = some (.int .i64 (ts[0]'hj).r) ∧ W.cell? ⟨a.block, a.off + 3, none⟩ = some (.int .u64 (ts[0]'hj).ad) ∧ W.cell? ⟨a.block, a.off + 4, none⟩ = some (.int .u64 (ts[0]'hj).va) ∧ W.cell? ⟨a.block, a.off + 5, none⟩ = some (.slice p n c) := by
  have := h.cells 0 hj
  have e : a.add (0 * 6) = a := by unfold Addr.add; simp
  rw [e] at this
  exact this
theorem LAt.second {W : World} {a : Addr} {ts : List Cnd} (h : LAt W ts (some a) 0) (hj : 1 < ts.length) : ∃ p n c, n = (ts[1]'hj).args.length ∧ LAt W (ts[1]'hj).args p 0 ∧ W.cell? ⟨a.block, a.off + 6, none⟩ = some (.int .i64 (ts[1]'hj).k) ∧ W.cell? ⟨a.block, a.off + 6 + 1, none⟩ = some (.int .i64 (ts[1]'hj).co) ∧ W.cell? ⟨a.block, a.off + 6 + 2, none⟩ = some (.int .i64 (ts[1]'hj).r) ∧ W.cell? ⟨a.block, a.off + 6 + 3, none⟩ = some (.int .u64 (ts[1]'hj).ad) ∧ W.cell? ⟨a.block, a.off + 6 + 4, none⟩ = some (.int .u64 (ts[1]'hj).va) ∧ W.cell? ⟨a.block, a.off + 6 + 5, none⟩ = some (.slice p n c) := by
  have := h.cells 1 hj
  have e : a.add (1 * 6) = ⟨a.block, a.off + 6, none⟩ := by unfold Addr.add; simp
  rw [e] at this
  exact this

set_option maxRecDepth 100000 in
set_option maxHeartbeats 12800000 in
theorem holds_any (o : Out) (pr : Option Addr) (nr cr : Nat) (pf : Option Addr) (nf cf : Nat) (pc : Option Addr) (nc cc : Nat) : ∀ (N : Nat), ∀ (c : Cnd) (p : Option Addr) (n q : Nat) (w : World), c.cnt ≤ N → n = c.args.length → LAt w c.args p 0 → OAt w o pr nr cr pf nf cf pc nc cc → Calls Tryd.prog 22 #[.agg #[.int .i64 c.k, .int .i64 c.co, .int .i64 c.r, .int .u64 c.ad, .int .u64 c.va, .slice p n q], .agg #[.slice pr nr cr, .slice pf nf cf, .slice pc nc cc]] w fun e w' => e = .returned (.bool (c.holds o)) ∧ Below w.heap.size w w' := by
  intro N
  induction N with
  | zero => intro c p n q w hc; have := cnt_pos c; omega
  | succ N ih =>
    intro c p n q w hc hn hl ho
    obtain ⟨kk, hkk⟩ : ∃ k, k = c.k := ⟨_, rfl⟩
    obtain ⟨co, hcc⟩ : ∃ k, k = c.co := ⟨_, rfl⟩
    obtain ⟨rr, hrr⟩ : ∃ k, k = c.r := ⟨_, rfl⟩
    obtain ⟨aa, haa⟩ : ∃ k, k = c.ad := ⟨_, rfl⟩
    obtain ⟨vv, hvv⟩ : ∃ k, k = c.va := ⟨_, rfl⟩
    obtain ⟨ts, hts⟩ : ∃ ts, ts = c.args := ⟨_, rfl⟩
    have HH := Lib.hid ih
    have HT := Lib.hid (show ∀ t ∈ ts, t.cnt ≤ N from fun t ht => by
      obtain ⟨i, hi, rfl⟩ := List.getElem_of_mem ht
      have := mem_cnt hi
      have := cnt_args c
      rw [← hts] at this
      omega)
    have KE := Lib.hid hkk
    have TE := Lib.hid hts
    have E1 := Lib.hid (fun h : kk = 1 => show c.holds o = regB o co rr vv by rw [holds_reg (by omega), hcc, hrr, hvv]; rfl)
    have E2 := Lib.hid (fun h : kk = 2 => show c.holds o = decide (cellOf o.cells aa = vv) by rw [holds_cell (by omega), haa, hvv])
    have E3 := Lib.hid (fun h : kk = 3 => show c.holds o = decide (0 ≤ co ∧ (o.flts[co.toNat]?.map fun n => (n : Int)) = some vv) by rw [holds_flt (by omega), hcc, hvv])
    have CR := Lib.hid (fun w1 (h1 : LAt w1 c.args p 0) (h2 : OAt w1 o pr nr cr pf nf cf pc nc cc) => register_any c p n q w1 o pr nr cr pf nf cf pc nc cc h1 h2)
    rw [← hts] at hn hl CR
    rw [← hkk, ← hcc, ← hrr, ← haa, ← hvv] at CR
    have AG := Lib.hid (fun w => args_any kk w)
    rw [← hkk, ← hcc, ← hrr, ← haa, ← hvv]
    have HN := Lib.hid hn
    clear ih hc hts hn hkk hcc hrr haa hvv
    have n0 : (0 : Int) ≤ (n : Int) := by omega
    go_enter Tryd.func22, Tryd.ntmps22
    go_upto_region 1 with fail
    refine to_cls ?_
    intro U0 hU0 y0
    have r_c : ∀ z : Wb U0, Row z.at w.heap.size [.int .i64 kk, .int .i64 co, .int .i64 rr, .int .u64 aa, .int .u64 vv, .slice p n q] 25 := Row.next ((Row.new _ [.int .i64 kk, .int .i64 co, .int .i64 rr, .int .u64 aa, .int .u64 vv, .slice p n q] _).old _) hU0
    have r_o : ∀ z : Wb U0, Row z.at (w.heap.size + 1) [.slice pr nr cr, .slice pf nf cf, .slice pc nc cc] 50 := Row.next (Row.new' _ [.slice pr nr cr, .slice pf nf cf, .slice pc nc cc] _ _ (by simp)) hU0
    have KK := Lib.hid (KB.next (KB.alloc (KB.alloc (Below.refl w.heap.size w) _) _) hU0)
    clear hU0
    have c_0 := fun z : Wb U0 => (r_c z).cell 0
    have c_1 := fun z : Wb U0 => (r_c z).cell 1
    have c_2 := fun z : Wb U0 => (r_c z).cell 2
    have c_3 := fun z : Wb U0 => (r_c z).cell 3
    have c_4 := fun z : Wb U0 => (r_c z).cell 4
    have c_5 := fun z : Wb U0 => (r_c z).cell 5
    have o_0 := fun z : Wb U0 => (r_o z).cell 0
    have o_1 := fun z : Wb U0 => (r_o z).cell 1
    have o_2 := fun z : Wb U0 => (r_o z).cell 2
    simp only [List.getElem?_cons_zero, List.getElem?_cons_succ] at c_0 c_1 c_2 c_3 c_4 c_5 o_0 o_1 o_2
    have LU := Lib.hid (fun z : Wb U0 => hl.below (KK.out z))
    have OU := Lib.hid (fun z : Wb U0 => ho.below (KK.out z))
    clear r_c r_o
    obtain ⟨pC, hpC⟩ : ∃ b, b = w.heap.size := ⟨_, rfl⟩
    rw [← hpC] at c_0 c_1 c_2 c_3 c_4 c_5 o_0 o_1 o_2
    simp only [← hpC]
    clear hpC hl ho
    by_cases k1 : kk = 1
    · subst k1
      have B := Lib.hid (E1.out rfl)
      go_wp2_with (go_at_call 43; refine (CR.out _ (LU.out y0) (OU.out y0)).mono ?_; rintro e w9 ⟨rfl, g⟩; obtain ⟨x9, rfl⟩ := Wb.next g; clear g)
      go_ret
      exact ⟨by rw [B.out]; rfl, KK.out x9⟩
    have k1b : (kk == 1) = false := by simpa using k1
    by_cases k2 : kk = 2
    · subst k2
      have B := Lib.hid (E2.out rfl)
      have CE := Lib.hid (fun z : Wb y0.at => cell_any aa o.cells pc nc cc z.at (OU.out y0).enc (OU.out y0).most.1 ((OU.out y0).below z.bel).cells)
      obtain ⟨v, hv⟩ : ∃ v, v = cellOf o.cells aa := ⟨_, rfl⟩
      rw [← hv] at B CE
      clear hv
      have c_0 := y0.lift c_0
      have c_1 := y0.lift c_1
      have c_2 := y0.lift c_2
      have c_3 := y0.lift c_3
      have c_4 := y0.lift c_4
      have c_5 := y0.lift c_5
      have o_0 := y0.lift o_0
      have o_1 := y0.lift o_1
      have o_2 := y0.lift o_2
      go_upto_region 5 with fail
      by_cases ev : v = vv
      · subst ev
        have B := Lib.hid (show c.holds o = true by rw [B.out]; exact decide_eq_true rfl)
        refine wp_region_wb (by kernel_rfl) (by kernel_rfl) ?_
        repeat (go_big_quiet_step ((go_at_call 44; exact Calls.wb (CE.out _))))
        refine wpQuiet_nil ?_
        rintro _ ⟨x9, rfl⟩
        go_wp2
        go_ret
        exact ⟨by rw [B.out]; rfl, KK.out ⟨x9.at, y0.bel.trans (x9.bel.mono y0.bel.size)⟩⟩
      · have ev1 : (v == vv) = false := by simpa using ev
        have B := Lib.hid (show c.holds o = false by rw [B.out]; exact decide_eq_false ev)
        refine wp_region_wb (by kernel_rfl) (by kernel_rfl) ?_
        repeat (go_big_quiet_step ((go_at_call 44; exact Calls.wb (CE.out _))))
        refine wpQuiet_nil ?_
        rintro _ ⟨x9, rfl⟩
        go_wp2
        go_ret
        exact ⟨by rw [B.out]; rfl, KK.out ⟨x9.at, y0.bel.trans (x9.bel.mono y0.bel.size)⟩⟩
    have k2b : (kk == 2) = false := by simpa using k2
    by_cases k3 : kk = 3
    · subst k3
      have E3 := Lib.hid (E3.out rfl)
      have c_0 := y0.lift c_0
      have c_1 := y0.lift c_1
      have c_2 := y0.lift c_2
      have c_3 := y0.lift c_3
      have c_4 := y0.lift c_4
      have c_5 := y0.lift c_5
      have o_0 := y0.lift o_0
      have o_1 := y0.lift o_1
      have o_2 := y0.lift o_2
      by_cases c0 : co < 0
      · have g0 : ¬ (0 : Int) ≤ co := by omega
        have B := Lib.hid (show c.holds o = false by rw [E3.out]; exact decide_eq_false (by omega))
        go_upto_region 7 with fail
        refine wp_region_wb (by kernel_rfl) (by kernel_rfl) ?_
        repeat (go_big_quiet_step (fail))
        refine wpQuiet_nil ?_
        rintro _ ⟨x9, rfl⟩
        go_wp2
        go_ret
        exact ⟨by rw [B.out]; rfl, KK.out ⟨x9.at, y0.bel.trans (x9.bel.mono y0.bel.size)⟩⟩
      · obtain ⟨i, rfl⟩ : ∃ i : Nat, co = (i : Int) := ⟨co.toNat, by omega⟩
        by_cases c1 : nf ≤ i
        · have g1 : ¬ (i : Int) < (nf : Int) := by omega
          have B := Lib.hid (show c.holds o = false by
            rw [E3.out]
            refine decide_eq_false ?_
            rintro ⟨_, h⟩
            rw [Int.toNat_natCast, List.getElem?_eq_none (by have := (OU.out y0).enf; omega)] at h
            cases h)
          clear c1
          go_upto_region 7 with fail
          refine wp_region_wb (by kernel_rfl) (by kernel_rfl) ?_
          repeat (go_big_quiet_step (fail))
          refine wpQuiet_nil ?_
          rintro _ ⟨x9, rfl⟩
          go_wp2
          go_ret
          exact ⟨by rw [B.out]; rfl, KK.out ⟨x9.at, y0.bel.trans (x9.bel.mono y0.bel.size)⟩⟩
        · have g1 : (i : Int) < (nf : Int) := by omega
          have il : i < o.flts.length := by have := (OU.out y0).enf; omega
          obtain ⟨a, p2, q2, rfl, f0, hm⟩ := (OU.out y0).flts i il
          have e0 : ∀ z : Wb y0.at, z.at.cell? (a.add i) = some (.slice p2 (o.flts[i]'il) q2) := fun z => keep_below z.bel _ _ f0
          have E3 := Lib.hid (show c.holds o = decide (((o.flts[i]'il : Nat) : Int) = vv) by
            rw [E3.out, Int.toNat_natCast, List.getElem?_eq_getElem il]
            simp)
          obtain ⟨m, hmm⟩ : ∃ m, m = o.flts[i]'il := ⟨_, rfl⟩
          rw [← hmm] at e0 E3 hm
          have wr : IntKind.u64.wrap (m : Int) = (m : Int) := by rw [IntKind.wrap_u64]; unfold maxLen at hm; omega
          clear hmm f0 il c1 hm
          by_cases ex : (m : Int) = vv
          · subst ex
            have B := Lib.hid (show c.holds o = true by rw [E3.out]; exact decide_eq_true rfl)
            go_upto_region 7 with fail
            refine wp_region_wb (by kernel_rfl) (by kernel_rfl) ?_
            repeat (go_big_quiet_step (fail))
            refine wpQuiet_nil ?_
            rintro _ ⟨x9, rfl⟩
            go_wp2
            go_ret
            exact ⟨by rw [B.out]; rfl, KK.out ⟨x9.at, y0.bel.trans (x9.bel.mono y0.bel.size)⟩⟩
          · have ex1 : ((m : Int) == vv) = false := by simpa using ex
            have B := Lib.hid (show c.holds o = false by rw [E3.out]; exact decide_eq_false ex)
            go_upto_region 7 with fail
            refine wp_region_wb (by kernel_rfl) (by kernel_rfl) ?_
            repeat (go_big_quiet_step (fail))
            refine wpQuiet_nil ?_
            rintro _ ⟨x9, rfl⟩
            go_wp2
            go_ret
            exact ⟨by rw [B.out]; rfl, KK.out ⟨x9.at, y0.bel.trans (x9.bel.mono y0.bel.size)⟩⟩
    have k3b : (kk == 3) = false := by simpa using k3
    by_cases k7 : kk = 7
    · subst k7
      have B := Lib.hid (show c.holds o = true from holds_true (by have := KE.out; omega))
      go_wp2
      go_ret
      exact ⟨by rw [B.out]; rfl, KK.out y0⟩
    have k7b : (kk == 7) = false := by simpa using k7
    clear E1 E2 E3 CR
    have c_0 := y0.lift c_0
    have c_1 := y0.lift c_1
    have c_2 := y0.lift c_2
    have c_3 := y0.lift c_3
    have c_4 := y0.lift c_4
    have c_5 := y0.lift c_5
    have o_0 := y0.lift o_0
    have o_1 := y0.lift o_1
    have o_2 := y0.lift o_2
    go_upto_region 10 with fail
    by_cases ea : (n : Int) = arity kk
    · have ea1 : ((n : Int) != arity kk) = false := by simpa using ea
      have AR := Lib.hid ea
      rw [arity_eq] at ea
      obtain ⟨ar, har⟩ : ∃ a, a = arity kk := ⟨_, rfl⟩
      rw [← har] at AG ea1
      clear har AR
      refine wp_region_wb (by kernel_rfl) (by kernel_rfl) ?_
      repeat (go_big_quiet_step ((go_at_call 29; exact Calls.wb (Calls.same_below (AG.out _) (Below.refl _ _)))))
      refine wpQuiet_nil ?_
      rintro _ ⟨x9, rfl⟩
      have c_0 := x9.lift c_0
      have c_1 := x9.lift c_1
      have c_2 := x9.lift c_2
      have c_3 := x9.lift c_3
      have c_4 := x9.lift c_4
      have c_5 := x9.lift c_5
      have o_0 := x9.lift o_0
      have o_1 := x9.lift o_1
      have o_2 := x9.lift o_2
      have KX := Lib.hid (KK.out ⟨x9.at, y0.bel.trans (x9.bel.mono y0.bel.size)⟩)
      have LX := Lib.hid (show LAt x9.at ts p 0 from LU.out ⟨x9.at, y0.bel.trans (x9.bel.mono y0.bel.size)⟩)
      have OX := Lib.hid (show OAt x9.at o pr nr cr pf nf cf pc nc cc from OU.out ⟨x9.at, y0.bel.trans (x9.bel.mono y0.bel.size)⟩)
      clear LU OU KK ea1
      rcases ea with ⟨h, _⟩ | ⟨rfl, rfl⟩ | ⟨rfl | rfl, rfl⟩
      · exact absurd h (by omega)
      · have l0 : 0 < ts.length := by have := HN.out; omega
        obtain ⟨a, rfl⟩ := LX.out.addr 0 l0
        have B := Lib.hid (holds_not (o := o) (c := c) (by have := KE.out; omega) (by rw [← TE.out]; exact HN.out.symm) (by rw [← TE.out]; exact l0))
        simp only [← TE.out] at B
        obtain ⟨p2, n2, q2, hne, hle, g0, g1, g2, g3, g4, g5⟩ := (LX.out).first l0
        have CA := Lib.hid (fun z : Wb x9.at => HH.out (ts[0]'l0) p2 n2 q2 z.at (HT.out _ (List.getElem_mem l0)) hne (hle.below z.bel) (OX.out.below z.bel))
        obtain ⟨b0, hbe⟩ : ∃ b, b = (ts[0]'l0).holds o := ⟨_, rfl⟩
        rw [← hbe] at CA B
        obtain ⟨x0, hx0⟩ : ∃ x, x = (ts[0]'l0).k := ⟨_, rfl⟩
        obtain ⟨x1, hx1⟩ : ∃ x, x = (ts[0]'l0).co := ⟨_, rfl⟩
        obtain ⟨x2, hx2⟩ : ∃ x, x = (ts[0]'l0).r := ⟨_, rfl⟩
        obtain ⟨x3, hx3⟩ : ∃ x, x = (ts[0]'l0).ad := ⟨_, rfl⟩
        obtain ⟨x4, hx4⟩ : ∃ x, x = (ts[0]'l0).va := ⟨_, rfl⟩
        rw [← hx0] at g0
        rw [← hx1] at g1
        rw [← hx2] at g2
        rw [← hx3] at g3
        rw [← hx4] at g4
        rw [← hx0, ← hx1, ← hx2, ← hx3, ← hx4] at CA
        have e0 : ∀ z : Wb x9.at, z.at.cell? a = some (.int .i64 x0) := fun z => keep_below z.bel _ _ g0
        have e1 : ∀ z : Wb x9.at, z.at.cell? ⟨a.block, a.off + 1, none⟩ = some (.int .i64 x1) := fun z => keep_below z.bel _ _ g1
        have e2 : ∀ z : Wb x9.at, z.at.cell? ⟨a.block, a.off + 2, none⟩ = some (.int .i64 x2) := fun z => keep_below z.bel _ _ g2
        have e3 : ∀ z : Wb x9.at, z.at.cell? ⟨a.block, a.off + 3, none⟩ = some (.int .u64 x3) := fun z => keep_below z.bel _ _ g3
        have e4 : ∀ z : Wb x9.at, z.at.cell? ⟨a.block, a.off + 4, none⟩ = some (.int .u64 x4) := fun z => keep_below z.bel _ _ g4
        have e5 : ∀ z : Wb x9.at, z.at.cell? ⟨a.block, a.off + 5, none⟩ = some (.slice p2 n2 q2) := fun z => keep_below z.bel _ _ g5
        clear g0 g1 g2 g3 g4 g5 hx0 hx1 hx2 hx3 hx4
        clear hbe hne hle
        go_upto_region 14 with fail
        refine wp_region_wb (by kernel_rfl) (by kernel_rfl) ?_
        repeat (go_big_quiet_step ((go_at_call 22; exact Calls.wb (CA.out _))))
        refine wpQuiet_nil ?_
        rintro _ ⟨x8, rfl⟩
        go_wp2
        go_ret
        exact ⟨by rw [B.out]; rfl, KX.out.trans (x8.bel.mono KX.out.size)⟩
      · have l0 : 0 < ts.length := by have := HN.out; omega
        have l1 : 1 < ts.length := by have := HN.out; omega
        obtain ⟨a, rfl⟩ := LX.out.addr 0 l0
        have B := Lib.hid (holds_and (o := o) (c := c) (by have := KE.out; omega) (by rw [← TE.out]; exact HN.out.symm) (by rw [← TE.out]; exact l0) (by rw [← TE.out]; exact l1))
        simp only [← TE.out] at B
        obtain ⟨p2, n2, q2, hne, hle, g0, g1, g2, g3, g4, g5⟩ := (LX.out).first l0
        have CA := Lib.hid (fun z : Wb x9.at => HH.out (ts[0]'l0) p2 n2 q2 z.at (HT.out _ (List.getElem_mem l0)) hne (hle.below z.bel) (OX.out.below z.bel))
        obtain ⟨b0, hbe⟩ : ∃ b, b = (ts[0]'l0).holds o := ⟨_, rfl⟩
        rw [← hbe] at CA B
        obtain ⟨x0, hx0⟩ : ∃ x, x = (ts[0]'l0).k := ⟨_, rfl⟩
        obtain ⟨x1, hx1⟩ : ∃ x, x = (ts[0]'l0).co := ⟨_, rfl⟩
        obtain ⟨x2, hx2⟩ : ∃ x, x = (ts[0]'l0).r := ⟨_, rfl⟩
        obtain ⟨x3, hx3⟩ : ∃ x, x = (ts[0]'l0).ad := ⟨_, rfl⟩
        obtain ⟨x4, hx4⟩ : ∃ x, x = (ts[0]'l0).va := ⟨_, rfl⟩
        rw [← hx0] at g0
        rw [← hx1] at g1
        rw [← hx2] at g2
        rw [← hx3] at g3
        rw [← hx4] at g4
        rw [← hx0, ← hx1, ← hx2, ← hx3, ← hx4] at CA
        have e0 : ∀ z : Wb x9.at, z.at.cell? a = some (.int .i64 x0) := fun z => keep_below z.bel _ _ g0
        have e1 : ∀ z : Wb x9.at, z.at.cell? ⟨a.block, a.off + 1, none⟩ = some (.int .i64 x1) := fun z => keep_below z.bel _ _ g1
        have e2 : ∀ z : Wb x9.at, z.at.cell? ⟨a.block, a.off + 2, none⟩ = some (.int .i64 x2) := fun z => keep_below z.bel _ _ g2
        have e3 : ∀ z : Wb x9.at, z.at.cell? ⟨a.block, a.off + 3, none⟩ = some (.int .u64 x3) := fun z => keep_below z.bel _ _ g3
        have e4 : ∀ z : Wb x9.at, z.at.cell? ⟨a.block, a.off + 4, none⟩ = some (.int .u64 x4) := fun z => keep_below z.bel _ _ g4
        have e5 : ∀ z : Wb x9.at, z.at.cell? ⟨a.block, a.off + 5, none⟩ = some (.slice p2 n2 q2) := fun z => keep_below z.bel _ _ g5
        clear g0 g1 g2 g3 g4 g5 hx0 hx1 hx2 hx3 hx4
        clear hbe hne hle
        obtain ⟨p3, n3, q3, hnf, hlf, g0, g1, g2, g3, g4, g5⟩ := (LX.out).second l1
        have CB := Lib.hid (fun z : Wb x9.at => HH.out (ts[1]'l1) p3 n3 q3 z.at (HT.out _ (List.getElem_mem l1)) hnf (hlf.below z.bel) (OX.out.below z.bel))
        obtain ⟨b1, hbf⟩ : ∃ b, b = (ts[1]'l1).holds o := ⟨_, rfl⟩
        rw [← hbf] at CB B
        obtain ⟨y0, hx0⟩ : ∃ x, x = (ts[1]'l1).k := ⟨_, rfl⟩
        obtain ⟨y1, hx1⟩ : ∃ x, x = (ts[1]'l1).co := ⟨_, rfl⟩
        obtain ⟨y2, hx2⟩ : ∃ x, x = (ts[1]'l1).r := ⟨_, rfl⟩
        obtain ⟨y3, hx3⟩ : ∃ x, x = (ts[1]'l1).ad := ⟨_, rfl⟩
        obtain ⟨y4, hx4⟩ : ∃ x, x = (ts[1]'l1).va := ⟨_, rfl⟩
        rw [← hx0] at g0
        rw [← hx1] at g1
        rw [← hx2] at g2
        rw [← hx3] at g3
        rw [← hx4] at g4
        rw [← hx0, ← hx1, ← hx2, ← hx3, ← hx4] at CB
        have f0 : ∀ z : Wb x9.at, z.at.cell? ⟨a.block, a.off + 6, none⟩ = some (.int .i64 y0) := fun z => keep_below z.bel _ _ g0
        have f1 : ∀ z : Wb x9.at, z.at.cell? ⟨a.block, a.off + 6 + 1, none⟩ = some (.int .i64 y1) := fun z => keep_below z.bel _ _ g1
        have f2 : ∀ z : Wb x9.at, z.at.cell? ⟨a.block, a.off + 6 + 2, none⟩ = some (.int .i64 y2) := fun z => keep_below z.bel _ _ g2
        have f3 : ∀ z : Wb x9.at, z.at.cell? ⟨a.block, a.off + 6 + 3, none⟩ = some (.int .u64 y3) := fun z => keep_below z.bel _ _ g3
        have f4 : ∀ z : Wb x9.at, z.at.cell? ⟨a.block, a.off + 6 + 4, none⟩ = some (.int .u64 y4) := fun z => keep_below z.bel _ _ g4
        have f5 : ∀ z : Wb x9.at, z.at.cell? ⟨a.block, a.off + 6 + 5, none⟩ = some (.slice p3 n3 q3) := fun z => keep_below z.bel _ _ g5
        clear g0 g1 g2 g3 g4 g5 hx0 hx1 hx2 hx3 hx4
        clear hbf hnf hlf
        go_upto_region 16 with fail
        cases b0 with
        | true =>
          refine wp_region_wb (by kernel_rfl) (by kernel_rfl) ?_
          iterate 6 (go_big_quiet_step ((go_at_call 22; exact Calls.wb (CA.out _))))
          repeat (go_big_quiet_step ((go_at_call 22; exact Calls.wb (CB.out _))))
          refine wpQuiet_nil ?_
          rintro _ ⟨x8, rfl⟩
          go_wp2
          go_ret
          exact ⟨by rw [B.out]; rfl, KX.out.trans (x8.bel.mono KX.out.size)⟩
        | false =>
          refine wp_region_wb (by kernel_rfl) (by kernel_rfl) ?_
          repeat (go_big_quiet_step ((go_at_call 22; exact Calls.wb (CA.out _))))
          refine wpQuiet_nil ?_
          rintro _ ⟨x8, rfl⟩
          go_wp2
          go_ret
          exact ⟨by rw [B.out]; rfl, KX.out.trans (x8.bel.mono KX.out.size)⟩
      · have l0 : 0 < ts.length := by have := HN.out; omega
        have l1 : 1 < ts.length := by have := HN.out; omega
        obtain ⟨a, rfl⟩ := LX.out.addr 0 l0
        have B := Lib.hid (holds_or (o := o) (c := c) (by have := KE.out; omega) (by rw [← TE.out]; exact HN.out.symm) (by rw [← TE.out]; exact l0) (by rw [← TE.out]; exact l1))
        simp only [← TE.out] at B
        obtain ⟨p2, n2, q2, hne, hle, g0, g1, g2, g3, g4, g5⟩ := (LX.out).first l0
        have CA := Lib.hid (fun z : Wb x9.at => HH.out (ts[0]'l0) p2 n2 q2 z.at (HT.out _ (List.getElem_mem l0)) hne (hle.below z.bel) (OX.out.below z.bel))
        obtain ⟨b0, hbe⟩ : ∃ b, b = (ts[0]'l0).holds o := ⟨_, rfl⟩
        rw [← hbe] at CA B
        obtain ⟨x0, hx0⟩ : ∃ x, x = (ts[0]'l0).k := ⟨_, rfl⟩
        obtain ⟨x1, hx1⟩ : ∃ x, x = (ts[0]'l0).co := ⟨_, rfl⟩
        obtain ⟨x2, hx2⟩ : ∃ x, x = (ts[0]'l0).r := ⟨_, rfl⟩
        obtain ⟨x3, hx3⟩ : ∃ x, x = (ts[0]'l0).ad := ⟨_, rfl⟩
        obtain ⟨x4, hx4⟩ : ∃ x, x = (ts[0]'l0).va := ⟨_, rfl⟩
        rw [← hx0] at g0
        rw [← hx1] at g1
        rw [← hx2] at g2
        rw [← hx3] at g3
        rw [← hx4] at g4
        rw [← hx0, ← hx1, ← hx2, ← hx3, ← hx4] at CA
        have e0 : ∀ z : Wb x9.at, z.at.cell? a = some (.int .i64 x0) := fun z => keep_below z.bel _ _ g0
        have e1 : ∀ z : Wb x9.at, z.at.cell? ⟨a.block, a.off + 1, none⟩ = some (.int .i64 x1) := fun z => keep_below z.bel _ _ g1
        have e2 : ∀ z : Wb x9.at, z.at.cell? ⟨a.block, a.off + 2, none⟩ = some (.int .i64 x2) := fun z => keep_below z.bel _ _ g2
        have e3 : ∀ z : Wb x9.at, z.at.cell? ⟨a.block, a.off + 3, none⟩ = some (.int .u64 x3) := fun z => keep_below z.bel _ _ g3
        have e4 : ∀ z : Wb x9.at, z.at.cell? ⟨a.block, a.off + 4, none⟩ = some (.int .u64 x4) := fun z => keep_below z.bel _ _ g4
        have e5 : ∀ z : Wb x9.at, z.at.cell? ⟨a.block, a.off + 5, none⟩ = some (.slice p2 n2 q2) := fun z => keep_below z.bel _ _ g5
        clear g0 g1 g2 g3 g4 g5 hx0 hx1 hx2 hx3 hx4
        clear hbe hne hle
        obtain ⟨p3, n3, q3, hnf, hlf, g0, g1, g2, g3, g4, g5⟩ := (LX.out).second l1
        have CB := Lib.hid (fun z : Wb x9.at => HH.out (ts[1]'l1) p3 n3 q3 z.at (HT.out _ (List.getElem_mem l1)) hnf (hlf.below z.bel) (OX.out.below z.bel))
        obtain ⟨b1, hbf⟩ : ∃ b, b = (ts[1]'l1).holds o := ⟨_, rfl⟩
        rw [← hbf] at CB B
        obtain ⟨y0, hx0⟩ : ∃ x, x = (ts[1]'l1).k := ⟨_, rfl⟩
        obtain ⟨y1, hx1⟩ : ∃ x, x = (ts[1]'l1).co := ⟨_, rfl⟩
        obtain ⟨y2, hx2⟩ : ∃ x, x = (ts[1]'l1).r := ⟨_, rfl⟩
        obtain ⟨y3, hx3⟩ : ∃ x, x = (ts[1]'l1).ad := ⟨_, rfl⟩
        obtain ⟨y4, hx4⟩ : ∃ x, x = (ts[1]'l1).va := ⟨_, rfl⟩
        rw [← hx0] at g0
        rw [← hx1] at g1
        rw [← hx2] at g2
        rw [← hx3] at g3
        rw [← hx4] at g4
        rw [← hx0, ← hx1, ← hx2, ← hx3, ← hx4] at CB
        have f0 : ∀ z : Wb x9.at, z.at.cell? ⟨a.block, a.off + 6, none⟩ = some (.int .i64 y0) := fun z => keep_below z.bel _ _ g0
        have f1 : ∀ z : Wb x9.at, z.at.cell? ⟨a.block, a.off + 6 + 1, none⟩ = some (.int .i64 y1) := fun z => keep_below z.bel _ _ g1
        have f2 : ∀ z : Wb x9.at, z.at.cell? ⟨a.block, a.off + 6 + 2, none⟩ = some (.int .i64 y2) := fun z => keep_below z.bel _ _ g2
        have f3 : ∀ z : Wb x9.at, z.at.cell? ⟨a.block, a.off + 6 + 3, none⟩ = some (.int .u64 y3) := fun z => keep_below z.bel _ _ g3
        have f4 : ∀ z : Wb x9.at, z.at.cell? ⟨a.block, a.off + 6 + 4, none⟩ = some (.int .u64 y4) := fun z => keep_below z.bel _ _ g4
        have f5 : ∀ z : Wb x9.at, z.at.cell? ⟨a.block, a.off + 6 + 5, none⟩ = some (.slice p3 n3 q3) := fun z => keep_below z.bel _ _ g5
        clear g0 g1 g2 g3 g4 g5 hx0 hx1 hx2 hx3 hx4
        clear hbf hnf hlf
        go_upto_region 18 with fail
        cases b0 with
        | false =>
          refine wp_region_wb (by kernel_rfl) (by kernel_rfl) ?_
          iterate 6 (go_big_quiet_step ((go_at_call 22; exact Calls.wb (CA.out _))))
          repeat (go_big_quiet_step ((go_at_call 22; exact Calls.wb (CB.out _))))
          refine wpQuiet_nil ?_
          rintro _ ⟨x8, rfl⟩
          go_wp2
          go_ret
          exact ⟨by rw [B.out]; rfl, KX.out.trans (x8.bel.mono KX.out.size)⟩
        | true =>
          refine wp_region_wb (by kernel_rfl) (by kernel_rfl) ?_
          repeat (go_big_quiet_step ((go_at_call 22; exact Calls.wb (CA.out _))))
          refine wpQuiet_nil ?_
          rintro _ ⟨x8, rfl⟩
          go_wp2
          go_ret
          exact ⟨by rw [B.out]; rfl, KX.out.trans (x8.bel.mono KX.out.size)⟩
    · have ea1 : ((n : Int) != arity kk) = true := by simpa using ea
      have B := Lib.hid (show c.holds o = false from holds_wrong (by rw [← TE.out, ← KE.out, ← HN.out]; exact ea) (by rw [← KE.out]; exact ⟨k1, k2, k3, k7⟩))
      obtain ⟨ar, har⟩ : ∃ a, a = arity kk := ⟨_, rfl⟩
      rw [← har] at AG ea1
      clear har ea
      refine wp_region_wb (by kernel_rfl) (by kernel_rfl) ?_
      repeat (go_big_quiet_step ((go_at_call 29; exact Calls.wb (Calls.same_below (AG.out _) (Below.refl _ _)))))
      refine wpQuiet_nil ?_
      rintro _ ⟨x9, rfl⟩
      go_wp2
      go_ret
      exact ⟨by rw [B.out]; rfl, KK.out ⟨x9.at, y0.bel.trans (x9.bel.mono y0.bel.size)⟩⟩
end Go.Proofs.YtgpngjgilcbigaaDoor
