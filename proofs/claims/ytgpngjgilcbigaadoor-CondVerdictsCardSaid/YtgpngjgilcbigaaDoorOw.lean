/-
  Layer 11, the walks: Verdict.
-/
import Derived.Test.YtgpngjgilcbigaaDoorOv
set_option linter.unusedSimpArgs false
set_option linter.unusedVariables false
namespace GrC
def verd (c : Cnd) (all : Bool) (os : List Out) : Bool := if all = true then os.all (c.holds ·) else os.any (c.holds ·)
theorem verd_no {c : Cnd} {os : List Out} (i : Nat) (h : i < os.length) (all : Bool) (hb : (!all) = c.holds (os[i]'h)) : verd c all os = (!all) := by
  unfold verd
  cases all with
  | true =>
    rw [if_pos rfl]
    refine Bool.eq_false_iff.2 fun e => ?_
    have := List.all_eq_true.1 e _ (List.getElem_mem h)
    rw [← hb] at this
    cases this
  | false =>
    rw [if_neg (by decide)]
    exact List.any_eq_true.2 ⟨_, List.getElem_mem h, hb.symm⟩
theorem verd_all {c : Cnd} {os : List Out} (all : Bool) (h : ∀ j (h : j < os.length), c.holds (os[j]'h) = all) : verd c all os = all := by
  unfold verd
  cases all with
  | true =>
    rw [if_pos rfl]
    refine List.all_eq_true.2 fun x hx => ?_
    obtain ⟨j, hj, rfl⟩ := List.getElem_of_mem hx
    exact h j hj
  | false =>
    rw [if_neg (by decide)]
    refine Bool.eq_false_iff.2 fun e => ?_
    obtain ⟨x, hx, e⟩ := List.any_eq_true.1 e
    obtain ⟨j, hj, rfl⟩ := List.getElem_of_mem hx
    rw [h j hj] at e
    cases e
end GrC
namespace Go.Proofs.YtgpngjgilcbigaaDoor
open Go.RowKit GrP GrL GrC
/-- outcomes in memory -/
def OsAt (W : World) (os : List Out) (p : Option Addr) : Prop := ∀ i (h : i < os.length), ∃ a pr nr cr pf nf cf pc nc cc, p = some a ∧ W.cell? (a.add (i * 3)) = some (.slice pr nr cr) ∧ W.cell? ⟨(a.add (i * 3)).block, (a.add (i * 3)).off + 1, none⟩ = some (.slice pf nf cf) ∧ W.cell? ⟨(a.add (i * 3)).block, (a.add (i * 3)).off + 2, none⟩ = some (.slice pc nc cc) ∧ OAt W (os[i]'h) pr nr cr pf nf cf pc nc cc
theorem OsAt.below {W U : World} {os : List Out} {p : Option Addr} (h : OsAt W os p) (k : Below W.heap.size W U) : OsAt U os p := fun i hi => by
  obtain ⟨a, pr, nr, cr, pf, nf, cf, pc, nc, cc, e, c0, c1, c2, ho⟩ := h i hi
  exact ⟨a, pr, nr, cr, pf, nf, cf, pc, nc, cc, e, keep_below k _ _ c0, keep_below k _ _ c1, keep_below k _ _ c2, ho.below k⟩

set_option maxRecDepth 100000 in
set_option maxHeartbeats 6400000 in
theorem verdict_any (c : Cnd) (p : Option Addr) (n q : Nat) (all : Bool) (os : List Out) (p2 : Option Addr) (n2 q2 : Nat) (w : World) (hn : n = c.args.length) (hl : LAt w c.args p 0) (hn2 : n2 = os.length) (hm : n2 ≤ maxLen) (hos : OsAt w os p2) :
    Calls Tryd.prog 24 #[.agg #[.int .i64 c.k, .int .i64 c.co, .int .i64 c.r, .int .u64 c.ad, .int .u64 c.va, .slice p n q], .bool all, .slice p2 n2 q2] w fun e w' => e = .returned (.bool (verd c all os)) ∧ Below w.heap.size w w' := by
  have HH := Lib.hid (fun (o : Out) pr nr cr pf nf cf pc nc cc (U : World) (k : Below w.heap.size w U) => holds_any o pr nr cr pf nf cf pc nc cc c.cnt c p n q U (Nat.le_refl _) hn (hl.below k))
  obtain ⟨kk, hkk⟩ : ∃ k, k = c.k := ⟨_, rfl⟩
  obtain ⟨co, hcc⟩ : ∃ k, k = c.co := ⟨_, rfl⟩
  obtain ⟨rr, hrr⟩ : ∃ k, k = c.r := ⟨_, rfl⟩
  obtain ⟨aa, haa⟩ : ∃ k, k = c.ad := ⟨_, rfl⟩
  obtain ⟨vv, hvv⟩ : ∃ k, k = c.va := ⟨_, rfl⟩
  obtain ⟨ts, hts⟩ : ∃ ts, ts = c.args := ⟨_, rfl⟩
  rw [← hkk, ← hcc, ← hrr, ← haa, ← hvv] at HH
  rw [← hts] at hn hl
  rw [← hkk, ← hcc, ← hrr, ← haa, ← hvv]
  have N2 := Lib.hid hn2
  have m9 : (n2 : Int) ≤ 9223372036854775807 := by unfold maxLen at hm; omega
  have m0 : (0 : Int) ≤ (n2 : Int) := by omega
  clear hkk hcc hrr haa hvv hn hn2 hm
  go_enter Tryd.func24, Tryd.ntmps24
  go_upto_region 1 with fail
  refine to_cls ?_
  intro U0 hU0 y0
  have r_c : ∀ z : Wb U0, Row z.at w.heap.size [.int .i64 kk, .int .i64 co, .int .i64 rr, .int .u64 aa, .int .u64 vv, .slice p n q] 25 := Row.next (Row.new _ [.int .i64 kk, .int .i64 co, .int .i64 rr, .int .u64 aa, .int .u64 vv, .slice p n q] _) hU0
  have KK := Lib.hid (KB.next (KB.alloc (Below.refl w.heap.size w) _) hU0)
  clear hU0
  have c_0 := fun z : Wb U0 => (r_c z).cell 0
  have c_1 := fun z : Wb U0 => (r_c z).cell 1
  have c_2 := fun z : Wb U0 => (r_c z).cell 2
  have c_3 := fun z : Wb U0 => (r_c z).cell 3
  have c_4 := fun z : Wb U0 => (r_c z).cell 4
  have c_5 := fun z : Wb U0 => (r_c z).cell 5
  simp only [List.getElem?_cons_zero, List.getElem?_cons_succ] at c_0 c_1 c_2 c_3 c_4 c_5
  have LU := Lib.hid (fun z : Wb U0 => hl.below (KK.out z))
  clear r_c
  obtain ⟨pC, hpC⟩ : ∃ b, b = w.heap.size := ⟨_, rfl⟩
  rw [← hpC] at c_0 c_1 c_2 c_3 c_4 c_5
  simp only [← hpC]
  clear hpC hl
  have OS := Lib.hid (fun z : Wb U0 => hos.below (KK.out z))
  clear LU hts hos
  go_wp2_with fail
  go_loopw [11] (fun iv wr => ∃ (i : Nat) (z : Wb U0), i ≤ n2 ∧ iv = .int .i64 (i : Int) ∧ (∀ j (h : j < os.length), j < i → c.holds (os[j]'h) = all) ∧ wr = z.at) (fun iv _ => n2 - (intOf iv).toNat)
  case atStart => exact ⟨0, y0, by omega, rfl, fun j h h2 => by omega, rfl⟩
  case round =>
    obtain ⟨i, z, hi, rfl, hall, rfl⟩ := hrel
    have HA := Lib.hid hall
    clear hall
    have i0 : (0 : Int) ≤ (i : Int) := by omega
    by_cases ci : i < n2
    · have l1 : i < os.length := by have := N2.out; omega
      obtain ⟨a, pr, nr, cr, pf, nf, cf, pc, nc, cc, rfl, f0, f1, f2, ho⟩ := OS.out z i l1
      have HO := Lib.hid ho
      have IL := Lib.hid (show i + 1 ≤ n2 by omega)
      have g1 : (i : Int) < (n2 : Int) := by omega
      have e0 : ∀ y : Wb z.at, y.at.cell? (a.add (i * 3)) = some (.slice pr nr cr) := fun y => keep_below y.bel _ _ f0
      have e1 : ∀ y : Wb z.at, y.at.cell? ⟨(a.add (i * 3)).block, (a.add (i * 3)).off + 1, none⟩ = some (.slice pf nf cf) := fun y => keep_below y.bel _ _ f1
      have e2 : ∀ y : Wb z.at, y.at.cell? ⟨(a.add (i * 3)).block, (a.add (i * 3)).off + 2, none⟩ = some (.slice pc nc cc) := fun y => keep_below y.bel _ _ f2
      clear ho ci hi
      go_upto_region 4 with fail
      refine to_cls ?_
      intro U1 hU1 y1
      have B1 := Lib.hid ((KB.alloc (Below.refl z.at.heap.size z.at) (.cells #[.slice pr nr cr, .slice pf nf cf, .slice pc nc cc] 50)).trans ((hU1.trans (y1.bel.mono hU1.size)).mono (by simp)))
      have RO := Lib.hid (show Row y1.at z.at.heap.size [.slice pr nr cr, .slice pf nf cf, .slice pc nc cc] 50 from ((Row.new z.at [.slice pr nr cr, .slice pf nf cf, .slice pc nc cc] _).below hU1).below y1.bel)
      have HC := Lib.hid (HH.out (os[i]'l1) pr nr cr pf nf cf pc nc cc y1.at ((KK.out z).trans (B1.out.mono (KK.out z).size)) (HO.out.below B1.out))
      obtain ⟨pO, hpO⟩ : ∃ b, b = z.at.heap.size := ⟨_, rfl⟩
      rw [← hpO] at RO
      simp only [← hpO]
      have d0 := keep_below B1.out _ _ (c_0 z)
      have d1 := keep_below B1.out _ _ (c_1 z)
      have d2 := keep_below B1.out _ _ (c_2 z)
      have d3 := keep_below B1.out _ _ (c_3 z)
      have d4 := keep_below B1.out _ _ (c_4 z)
      have d5 := keep_below B1.out _ _ (c_5 z)
      have o0 := (RO.out).cell 0
      have o1 := (RO.out).cell 1
      have o2 := (RO.out).cell 2
      simp only [List.getElem?_cons_zero, List.getElem?_cons_succ] at o0 o1 o2
      clear hU1 hpO e0 e1 e2 f0 f1 f2 c_0 c_1 c_2 c_3 c_4 c_5
      obtain ⟨b, hb⟩ : ∃ b, b = c.holds (os[i]'l1) := ⟨_, rfl⟩
      rw [← hb] at HC
      have BE := Lib.hid hb
      clear hb
      cases all <;> cases b
      · have NX := Lib.hid (show ∀ j (h : j < os.length), j < i + 1 → c.holds (os[j]'h) = false from fun j h h2 => by
          by_cases ej : j = i
          · subst ej; exact BE.out.symm
          · exact HA.out j h (by omega))
        go_wp2_with (go_at_call 22; refine (HC.out).mono ?_; rintro e w5 ⟨rfl, g⟩; obtain ⟨x5, rfl⟩ := Wb.start (W := y1.at) g; clear g)
        go_roundw
        case rel => exact ⟨i + 1, ⟨x5.at, z.bel.trans ((B1.out.trans (x5.bel.mono B1.out.size)).mono z.size)⟩, IL.out, by go_num, NX.out, rfl⟩
        case measure => have := IL.out; simp [intOf] <;> omega
      · have VD := Lib.hid (verd_no (c := c) (os := os) i l1 (false) BE.out)
        go_wp2_with (go_at_call 22; refine (HC.out).mono ?_; rintro e w5 ⟨rfl, g⟩; obtain ⟨x5, rfl⟩ := Wb.start (W := y1.at) g; clear g)
        go_ret
        exact ⟨by rw [VD.out]; rfl, (KK.out z).trans ((B1.out.trans (x5.bel.mono B1.out.size)).mono (KK.out z).size)⟩
      · have VD := Lib.hid (verd_no (c := c) (os := os) i l1 (true) BE.out)
        go_wp2_with (go_at_call 22; refine (HC.out).mono ?_; rintro e w5 ⟨rfl, g⟩; obtain ⟨x5, rfl⟩ := Wb.start (W := y1.at) g; clear g)
        go_ret
        exact ⟨by rw [VD.out]; rfl, (KK.out z).trans ((B1.out.trans (x5.bel.mono B1.out.size)).mono (KK.out z).size)⟩
      · have NX := Lib.hid (show ∀ j (h : j < os.length), j < i + 1 → c.holds (os[j]'h) = true from fun j h h2 => by
          by_cases ej : j = i
          · subst ej; exact BE.out.symm
          · exact HA.out j h (by omega))
        go_wp2_with (go_at_call 22; refine (HC.out).mono ?_; rintro e w5 ⟨rfl, g⟩; obtain ⟨x5, rfl⟩ := Wb.start (W := y1.at) g; clear g)
        go_roundw
        case rel => exact ⟨i + 1, ⟨x5.at, z.bel.trans ((B1.out.trans (x5.bel.mono B1.out.size)).mono z.size)⟩, IL.out, by go_num, NX.out, rfl⟩
        case measure => have := IL.out; simp [intOf] <;> omega
    · have g1 : ¬ (i : Int) < (n2 : Int) := by omega
      have VD := Lib.hid (verd_all (c := c) (os := os) all fun j h => HA.out j h (by have := N2.out; omega))
      clear ci hi
      go_wp2
      go_ret
      exact ⟨by rw [VD.out]; rfl, KK.out z⟩
end Go.Proofs.YtgpngjgilcbigaaDoor
