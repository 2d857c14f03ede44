/-
  Layer 11: an outcome in memory; the code's register and cell.
-/
import Derived.Test.YtgpngjgilcbigaaDoorOf
set_option linter.unusedSimpArgs false
set_option linter.unusedVariables false
namespace GrC
theorem cellOf_snoc (L : List (Int × Int)) (x : Int × Int) (a : Int) : cellOf (L ++ [x]) a = if x.1 = a then x.2 else cellOf L a := by
  unfold cellOf
  rw [List.reverse_append, List.reverse_cons, List.reverse_nil, List.nil_append, List.singleton_append, List.find?_cons]
  by_cases h : x.1 = a
  · simp [h]
  · simp [h]
theorem cellOf_take (L : List (Int × Int)) (a : Int) (j : Nat) (h : j < L.length) : cellOf (L.take (j + 1)) a = if L[j].1 = a then L[j].2 else cellOf (L.take j) a := by
  rw [List.take_succ_eq_append_getElem h, cellOf_snoc]
end GrC
namespace Go.Proofs.YtgpngjgilcbigaaDoor
open Go.RowKit GrC

structure OAt (W : World) (o : Out) (pr : Option Addr) (nr cr : Nat) (pf : Option Addr) (nf cf : Nat) (pc : Option Addr) (nc cc : Nat) : Prop where
  enr : nr = o.regs.length
  enf : nf = o.flts.length
  enc : nc = o.cells.length
  regs : ∀ i (h : i < o.regs.length), ∃ a p n c, pr = some a ∧ W.cell? (a.add i) = some (.slice p n c) ∧ n = o.regs[i].length ∧ n ≤ maxLen ∧ ∀ j (h2 : j < o.regs[i].length), ∃ b, p = some b ∧ W.cell? (b.add j) = some (.int .u64 o.regs[i][j])
  flts : ∀ i (h : i < o.flts.length), ∃ a p c, pf = some a ∧ W.cell? (a.add i) = some (.slice p o.flts[i] c) ∧ o.flts[i] ≤ maxLen
  cells : ∀ i (h : i < o.cells.length), ∃ a, pc = some a ∧ W.cell? (a.add (i * 2)) = some (.int .u64 o.cells[i].1) ∧ W.cell? ⟨(a.add (i * 2)).block, (a.add (i * 2)).off + 1, none⟩ = some (.int .u64 o.cells[i].2)
  most : nc ≤ maxLen ∧ nr ≤ maxLen ∧ nf ≤ maxLen
theorem OAt.below {W U : World} {o : Out} {pr : Option Addr} {nr cr : Nat} {pf : Option Addr} {nf cf : Nat} {pc : Option Addr} {nc cc : Nat} (h : OAt W o pr nr cr pf nf cf pc nc cc) (k : Below W.heap.size W U) : OAt U o pr nr cr pf nf cf pc nc cc where
  enr := h.enr
  enf := h.enf
  enc := h.enc
  regs i hi := by
    obtain ⟨a, p, n, c, e, hc, hn, hm, hr⟩ := h.regs i hi
    exact ⟨a, p, n, c, e, keep_below k _ _ hc, hn, hm, fun j h2 => by obtain ⟨b, e, hb⟩ := hr j h2; exact ⟨b, e, keep_below k _ _ hb⟩⟩
  flts i hi := by
    obtain ⟨a, p, c, e, hc, hm⟩ := h.flts i hi
    exact ⟨a, p, c, e, keep_below k _ _ hc, hm⟩
  cells i hi := by
    obtain ⟨a, e, h0, h1⟩ := h.cells i hi
    exact ⟨a, e, keep_below k _ _ h0, keep_below k _ _ h1⟩
  most := h.most

set_option maxRecDepth 100000 in
set_option maxHeartbeats 3200000 in
theorem cell_any (ad : Int) (L : List (Int × Int)) (p : Option Addr) (n q : Nat) (w : World) (hn : n = L.length) (h9 : n ≤ maxLen)
    (hc : ∀ i (h : i < L.length), ∃ a, p = some a ∧ w.cell? (a.add (i * 2)) = some (.int .u64 L[i].1) ∧ w.cell? ⟨(a.add (i * 2)).block, (a.add (i * 2)).off + 1, none⟩ = some (.int .u64 L[i].2)) :
    Calls Tryd.prog 44 #[.int .u64 ad, .slice p n q] w fun e w' => e = .returned (.int .u64 (cellOf L ad)) ∧ Below w.heap.size w w' := by
  have HN := Lib.hid hn
  have HC := Lib.hid hc
  have g9 : (n : Int) ≤ 9223372036854775807 := by unfold maxLen at h9; omega
  clear hn hc h9
  go_enter Tryd.func44, Tryd.ntmps44
  go_wp2_with fail
  go_loopw [5, 10] (fun vv iv wr => ∃ (j : Nat) (z : Wb w), j ≤ n ∧ iv = .int .i64 (j : Int) ∧ vv = .int .u64 (cellOf (L.take j) ad) ∧ wr = z.at) (fun _ iv _ => n - (intOf iv).toNat)
  case atStart => exact ⟨0, ⟨w, Below.refl _ _⟩, by omega, rfl, rfl, rfl⟩
  case round =>
    obtain ⟨j, z, hj, rfl, rfl, rfl⟩ := hrel
    have j0 : (0 : Int) ≤ (j : Int) := by omega
    by_cases cj : j < n
    · have j1 : (j : Int) < (n : Int) := by omega
      have l1 : j < L.length := by have := HN.out; omega
      obtain ⟨a, rfl, f0, f1⟩ := HC.out j l1
      have e0 := keep_below z.bel _ _ f0
      have e1 := keep_below z.bel _ _ f1
      clear f0 f1
      have TK := cellOf_take L ad j l1
      obtain ⟨x0, hx0⟩ : ∃ x, x = (L[j]'l1).1 := ⟨_, rfl⟩
      obtain ⟨x1, hx1⟩ : ∃ x, x = (L[j]'l1).2 := ⟨_, rfl⟩
      rw [← hx0] at e0 TK
      rw [← hx1] at e1 TK
      obtain ⟨v0, hv0⟩ : ∃ v, v = cellOf (L.take j) ad := ⟨_, rfl⟩
      rw [← hv0] at TK ⊢
      have TK := Lib.hid TK
      have JI := Lib.hid (show j + 1 ≤ n by omega)
      clear hx0 hx1 hv0 l1 hj cj
      go_upto_region 5 with fail
      refine to_cls ?_
      intro U1 hU1 y1
      have r_c : ∀ y : Wb U1, Row y.at z.at.heap.size [.int .u64 x0, .int .u64 x1] 80 := Row.next (Row.new _ [.int .u64 x0, .int .u64 x1] _) hU1
      have BU := Lib.hid (fun y : Wb U1 => show Below z.at.heap.size z.at y.at from (((Below.refl z.at.heap.size z.at).alloc (Nat.le_refl _) _).trans (hU1.mono (by simp))).trans (y.bel.mono (by have := hU1.size; simp at this; omega)))
      clear hU1 e0 e1
      have e0 := fun y : Wb U1 => (r_c y).cell 0
      have e1 := fun y : Wb U1 => (r_c y).cell 1
      simp only [List.getElem?_cons_zero, List.getElem?_cons_succ] at e0 e1
      clear r_c
      by_cases ea : x0 = ad
      · subst ea
        go_wp2_with fail
        go_roundw
        case rel => exact ⟨j + 1, ⟨y1.at, z.bel.trans ((BU.out y1).mono z.bel.size)⟩, JI.out, by go_num, by rw [TK.out, if_pos rfl], rfl⟩
        case measure => have := JI.out; simp [intOf]; omega
      · have ea1 : (x0 == ad) = false := by simpa using ea
        go_wp2_with fail
        go_roundw
        case rel => exact ⟨j + 1, ⟨y1.at, z.bel.trans ((BU.out y1).mono z.bel.size)⟩, JI.out, by go_num, by rw [TK.out, if_neg ea], rfl⟩
        case measure => have := JI.out; simp [intOf]; omega
    · obtain rfl : j = n := by omega
      have E := Lib.hid (show cellOf (L.take j) ad = cellOf L ad by rw [List.take_of_length_le (by have := HN.out; omega)])
      rw [E.out]
      clear hj cj
      go_wp2
      go_ret
      exact ⟨rfl, z.bel⟩

def regB (o : Out) (co r va : Int) : Bool := decide (0 ≤ co ∧ 0 ≤ r ∧ (o.regs[co.toNat]?.bind fun l => l[r.toNat]?) = some va)

set_option maxRecDepth 100000 in
set_option maxHeartbeats 3200000 in
theorem register_any (c : Cnd) (p : Option Addr) (n q : Nat) (w : World) (o : Out) (pr : Option Addr) (nr cr : Nat) (pf : Option Addr) (nf cf : Nat) (pc : Option Addr) (nc cc : Nat) (hl : LAt w c.args p 0) (ho : OAt w o pr nr cr pf nf cf pc nc cc) :
    Calls Tryd.prog 43 #[.agg #[.int .i64 c.k, .int .i64 c.co, .int .i64 c.r, .int .u64 c.ad, .int .u64 c.va, .slice p n q], .agg #[.slice pr nr cr, .slice pf nf cf, .slice pc nc cc]] w fun e w' => e = .returned (.bool (regB o c.co c.r c.va)) ∧ Below w.heap.size w w' := by
  obtain ⟨kk, hkk⟩ : ∃ k, k = c.k := ⟨_, rfl⟩
  obtain ⟨co, hcc⟩ : ∃ k, k = c.co := ⟨_, rfl⟩
  obtain ⟨rr, hrr⟩ : ∃ k, k = c.r := ⟨_, rfl⟩
  obtain ⟨aa, haa⟩ : ∃ k, k = c.ad := ⟨_, rfl⟩
  obtain ⟨vv, hvv⟩ : ∃ k, k = c.va := ⟨_, rfl⟩
  rw [← hkk, ← hcc, ← hrr, ← haa, ← hvv]
  clear hkk hcc hrr haa hvv
  go_enter Tryd.func43, Tryd.ntmps43
  go_upto_region 1 with fail
  refine to_cls ?_
  intro U0 hU0 y0
  have r_c : ∀ z : Wb U0, Row z.at w.heap.size [.int .i64 kk, .int .i64 co, .int .i64 rr, .int .u64 aa, .int .u64 vv, .slice p n q] 25 := Row.next ((Row.new _ [.int .i64 kk, .int .i64 co, .int .i64 rr, .int .u64 aa, .int .u64 vv, .slice p n q] _).old _) hU0
  have r_o : ∀ z : Wb U0, Row z.at (w.heap.size + 1) [.slice pr nr cr, .slice pf nf cf, .slice pc nc cc] 50 := Row.next (Row.new' _ [.slice pr nr cr, .slice pf nf cf, .slice pc nc cc] _ _ (by simp)) hU0
  have KK := Lib.hid (KB.next (KB.alloc (KB.alloc (Below.refl w.heap.size w) _) _) hU0)
  clear hU0
  have c_0 := fun z : Wb U0 => (r_c z).cell 0
  have c_1 := fun z : Wb U0 => (r_c z).cell 1
  have c_2 := fun z : Wb U0 => (r_c z).cell 2
  have c_3 := fun z : Wb U0 => (r_c z).cell 3
  have c_4 := fun z : Wb U0 => (r_c z).cell 4
  have c_5 := fun z : Wb U0 => (r_c z).cell 5
  have o_0 := fun z : Wb U0 => (r_o z).cell 0
  have o_1 := fun z : Wb U0 => (r_o z).cell 1
  have o_2 := fun z : Wb U0 => (r_o z).cell 2
  simp only [List.getElem?_cons_zero, List.getElem?_cons_succ] at c_0 c_1 c_2 c_3 c_4 c_5 o_0 o_1 o_2
  have LU := Lib.hid (fun z : Wb U0 => hl.below (KK.out z))
  have OU := Lib.hid (fun z : Wb U0 => ho.below (KK.out z))
  clear r_c r_o
  obtain ⟨pC, hpC⟩ : ∃ b, b = w.heap.size := ⟨_, rfl⟩
  rw [← hpC] at c_0 c_1 c_2 c_3 c_4 c_5 o_0 o_1 o_2
  simp only [← hpC]
  clear hpC hl ho
  have c_0 := y0.lift c_0
  have c_1 := y0.lift c_1
  have c_2 := y0.lift c_2
  have c_3 := y0.lift c_3
  have c_4 := y0.lift c_4
  have c_5 := y0.lift c_5
  have o_0 := y0.lift o_0
  have o_1 := y0.lift o_1
  have o_2 := y0.lift o_2
  by_cases c0 : co < 0
  · have B := Lib.hid (show regB o co rr vv = false by unfold regB; exact decide_eq_false (by omega))
    refine wp_region_wb (by kernel_rfl) (by kernel_rfl) ?_
    repeat (go_big_quiet_step (fail))
    refine wpQuiet_nil ?_
    rintro _ ⟨x9, rfl⟩
    go_wp2
    go_ret
    exact ⟨by rw [B.out]; rfl, KK.out ⟨x9.at, y0.bel.trans (x9.bel.mono y0.bel.size)⟩⟩
  · obtain ⟨i, rfl⟩ : ∃ i : Nat, co = (i : Int) := ⟨co.toNat, by omega⟩
    by_cases c1 : nr ≤ i
    · have g1 : (nr : Int) ≤ (i : Int) := by omega
      have B := Lib.hid (show regB o (i : Int) rr vv = false by
        unfold regB
        refine decide_eq_false ?_
        rintro ⟨_, _, h⟩
        rw [Int.toNat_natCast, List.getElem?_eq_none (by have := (OU.out y0).enr; omega)] at h
        cases h)
      clear c1
      refine wp_region_wb (by kernel_rfl) (by kernel_rfl) ?_
      repeat (go_big_quiet_step (fail))
      refine wpQuiet_nil ?_
      rintro _ ⟨x9, rfl⟩
      go_wp2
      go_ret
      exact ⟨by rw [B.out]; rfl, KK.out ⟨x9.at, y0.bel.trans (x9.bel.mono y0.bel.size)⟩⟩
    · have g1 : ¬ (nr : Int) ≤ (i : Int) := by omega
      have g2 : (i : Int) < (nr : Int) := by omega
      have il : i < o.regs.length := by have := (OU.out y0).enr; omega
      by_cases c2 : rr < 0
      · have B := Lib.hid (show regB o (i : Int) rr vv = false by unfold regB; exact decide_eq_false (by omega))
        clear il c1
        refine wp_region_wb (by kernel_rfl) (by kernel_rfl) ?_
        repeat (go_big_quiet_step (fail))
        refine wpQuiet_nil ?_
        rintro _ ⟨x9, rfl⟩
        go_wp2
        go_ret
        exact ⟨by rw [B.out]; rfl, KK.out ⟨x9.at, y0.bel.trans (x9.bel.mono y0.bel.size)⟩⟩
      · obtain ⟨j, rfl⟩ : ∃ j : Nat, rr = (j : Int) := ⟨rr.toNat, by omega⟩
        have OY := Lib.hid (fun z : Wb y0.at => (OU.out y0).below z.bel)
        have RB := Lib.hid (show regB o (i : Int) (j : Int) vv = decide ((o.regs[i]'il)[j]? = some vv) by
          unfold regB
          rw [Int.toNat_natCast, Int.toNat_natCast, List.getElem?_eq_getElem il]
          simp)
        obtain ⟨a, p2, n2, q2, rfl, f0, hn2, hm2, hr2⟩ := (OU.out y0).regs i il
        have e0 : ∀ z : Wb y0.at, z.at.cell? (a.add i) = some (.slice p2 n2 q2) := fun z => keep_below z.bel _ _ f0
        clear f0
        have n29 : (n2 : Int) ≤ 9223372036854775807 := by unfold maxLen at hm2; omega
        obtain ⟨l, hl2⟩ : ∃ l, l = o.regs[i]'il := ⟨_, rfl⟩
        rw [← hl2] at RB hn2 hr2
        have HN2 := Lib.hid hn2
        have HR2 := Lib.hid hr2
        clear hl2 c1 hn2 hr2 hm2 OY
        by_cases c3 : n2 ≤ j
        · have g3 : (n2 : Int) ≤ (j : Int) := by omega
          have B := Lib.hid (show regB o (i : Int) (j : Int) vv = false by
            rw [RB.out]
            refine decide_eq_false ?_
            rw [List.getElem?_eq_none (by have := HN2.out; omega)]
            simp)
          clear c3 il
          refine wp_region_wb (by kernel_rfl) (by kernel_rfl) ?_
          repeat (go_big_quiet_step (fail))
          refine wpQuiet_nil ?_
          rintro _ ⟨x9, rfl⟩
          go_wp2
          go_ret
          exact ⟨by rw [B.out]; rfl, KK.out ⟨x9.at, y0.bel.trans (x9.bel.mono y0.bel.size)⟩⟩
        · have g3 : ¬ (n2 : Int) ≤ (j : Int) := by omega
          have g4 : (j : Int) < (n2 : Int) := by omega
          have jl : j < l.length := by have := HN2.out; omega
          obtain ⟨b, rfl, f1⟩ := HR2.out j jl
          have e1 : ∀ z : Wb y0.at, z.at.cell? (b.add j) = some (.int .u64 (l[j]'jl)) := fun z => keep_below z.bel _ _ f1
          clear f1
          have B := Lib.hid (show regB o (i : Int) (j : Int) vv = decide (l[j]'jl = vv) by rw [RB.out, List.getElem?_eq_getElem jl]; simp)
          obtain ⟨x, hx⟩ : ∃ x, x = l[j]'jl := ⟨_, rfl⟩
          rw [← hx] at B e1
          clear hx jl c3 il
          refine wp_region_wb (by kernel_rfl) (by kernel_rfl) ?_
          repeat (go_big_quiet_step (fail))
          refine wpQuiet_nil ?_
          rintro _ ⟨x9, rfl⟩
          have c_0 := x9.lift c_0
          have c_1 := x9.lift c_1
          have c_2 := x9.lift c_2
          have c_3 := x9.lift c_3
          have c_4 := x9.lift c_4
          have c_5 := x9.lift c_5
          have o_0 := x9.lift o_0
          have o_1 := x9.lift o_1
          have o_2 := x9.lift o_2
          have e0 := x9.lift e0
          have e1 := x9.lift e1
          go_upto_region 3 with fail
          by_cases ex : x = vv
          · subst ex
            have B := Lib.hid (show regB o (i : Int) (j : Int) x = true by rw [B.out]; exact decide_eq_true rfl)
            refine wp_region_wb (by kernel_rfl) (by kernel_rfl) ?_
            repeat (go_big_quiet_step (fail))
            refine wpQuiet_nil ?_
            rintro _ ⟨x8, rfl⟩
            go_wp2
            go_ret
            exact ⟨by rw [B.out]; rfl, KK.out ⟨x8.at, y0.bel.trans ((x9.bel.trans (x8.bel.mono x9.bel.size)).mono y0.bel.size)⟩⟩
          · have ex1 : (x == vv) = false := by simpa using ex
            have B := Lib.hid (show regB o (i : Int) (j : Int) vv = false by rw [B.out]; exact decide_eq_false ex)
            refine wp_region_wb (by kernel_rfl) (by kernel_rfl) ?_
            repeat (go_big_quiet_step (fail))
            refine wpQuiet_nil ?_
            rintro _ ⟨x8, rfl⟩
            go_wp2
            go_ret
            exact ⟨by rw [B.out]; rfl, KK.out ⟨x8.at, y0.bel.trans ((x9.bel.trans (x8.bel.mono x9.bel.size)).mono y0.bel.size)⟩⟩
end Go.Proofs.YtgpngjgilcbigaaDoor
