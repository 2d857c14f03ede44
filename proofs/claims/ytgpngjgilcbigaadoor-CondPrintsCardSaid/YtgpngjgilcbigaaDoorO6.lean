/-
  Layer 11, the walks: the page's Same, Clean.
  Layer 11, the walks: the page's Clean.
-/
import Derived.Test.YtgpngjgilcbigaaDoorO4
import Derived.Deep.RegionHeld3
set_option linter.unusedSimpArgs false
set_option linter.unusedVariables false
namespace GrC
mutual
def sameC : Cnd → Cnd → Bool
  | .node k co r ad va ts, .node k2 co2 r2 ad2 va2 us => decide (k = k2) && decide (co = co2) && decide (r = r2) && decide (ad = ad2) && decide (va = va2) && decide (ts.length = us.length) && sameL ts us
def sameL : List Cnd → List Cnd → Bool
  | [], _ => true
  | _ :: _, [] => false
  | a :: ts, b :: us => sameC a b && sameL ts us
end
theorem same_eq (c d : Cnd) : sameC c d = (decide (c.k = d.k) && decide (c.co = d.co) && decide (c.r = d.r) && decide (c.ad = d.ad) && decide (c.va = d.va) && decide (c.args.length = d.args.length) && sameL c.args d.args) := by
  obtain ⟨k, co, r, ad, va, ts⟩ := c
  obtain ⟨k2, co2, r2, ad2, va2, us⟩ := d
  rw [sameC]
  rfl
theorem sameL_get : ∀ (ts us : List Cnd), ts.length = us.length → (∀ i (h : i < ts.length) (h2 : i < us.length), sameC ts[i] us[i] = true) → sameL ts us = true
  | [], us, _, _ => by rw [sameL]
  | a :: ts, [], h, _ => by simp at h
  | a :: ts, b :: us, h, k => by
    have k0 := k 0 (by simp) (by simp)
    simp only [List.getElem_cons_zero] at k0
    rw [sameL, k0, sameL_get ts us (by simpa using h) (fun i h h2 => by
      have k1 := k (i + 1) (by simpa using h) (by simpa using h2)
      simp only [List.getElem_cons_succ] at k1
      exact k1)]
    rfl
theorem sameL_no : ∀ (ts us : List Cnd) (i : Nat) (h : i < ts.length) (h2 : i < us.length), sameC ts[i] us[i] = false → sameL ts us = false
  | [], us, i, h, _, _ => by simp at h
  | a :: ts, [], i, _, h, _ => by simp at h
  | a :: ts, b :: us, 0, _, _, h => by
    rw [sameL]
    simp only [List.getElem_cons_zero] at h
    rw [h]
    rfl
  | a :: ts, b :: us, i + 1, h1, h2, h => by
    rw [sameL, sameL_no ts us i (by simpa using h1) (by simpa using h2) (by simpa using h)]
    simp
mutual
theorem sameC_refl : ∀ c : Cnd, sameC c c = true
  | .node k co r ad va ts => by rw [sameC, sameL_refl ts]; simp
theorem sameL_refl : ∀ ts : List Cnd, sameL ts ts = true
  | [] => by rw [sameL]
  | a :: ts => by rw [sameL, sameC_refl a, sameL_refl ts]; rfl
end
/-- the fields that a kind has, and zeros -/
def zf (k : Int) (l : List Int) (v : Int) : Int := if k ∈ l then v else 0
def top0 (c : Cnd) : Bool := decide (zf c.k [1, 3] c.co = c.co) && decide (zf c.k [1] c.r = c.r) && decide (zf c.k [2] c.ad = c.ad) && decide (zf c.k [1, 2, 3] c.va = c.va)
mutual
def cleanB : Cnd → Bool
  | .node k co r ad va ts => top0 (.node k co r ad va ts) && cleanBL ts
def cleanBL : List Cnd → Bool
  | [] => true
  | a :: ts => cleanB a && cleanBL ts
end
theorem cleanBL_all (ts : List Cnd) : cleanBL ts = ts.all cleanB := by
  induction ts with
  | nil => rw [cleanBL]; rfl
  | cons a ts ih => rw [cleanBL, ih]; rfl
theorem cleanB_eq (c : Cnd) : cleanB c = (top0 c && c.args.all cleanB) := by
  obtain ⟨k, co, r, ad, va, ts⟩ := c
  rw [cleanB, cleanBL_all]
  rfl
/-- a right one that is clean is what its own text is read as -/
theorem clean_same {c : Cnd} (h : Rt c) : cleanB c = true → c.clean = c := by
  have g : ∀ {k co r ad va : Int}, top0 (.node k co r ad va []) = true → zf k [1, 3] co = co ∧ zf k [1] r = r ∧ zf k [2] ad = ad ∧ zf k [1, 2, 3] va = va := fun {k co r ad va} h => by
    simp only [top0, Bool.and_eq_true, decide_eq_true_eq] at h
    exact ⟨h.1.1.1, h.1.1.2, h.1.2, h.2⟩
  have g2 : ∀ {k co r ad va : Int} {ts : List Cnd}, top0 (.node k co r ad va ts) = top0 (.node k co r ad va []) := rfl
  induction h with
  | reg co r ad va _ _ _ _ _ _ =>
    intro e
    rw [cleanB_eq, Bool.and_eq_true] at e
    obtain ⟨e1, e2, e3, e4⟩ := g e.1
    rw [Cnd.clean, if_pos rfl]
    simp [zf] at e3
    subst e3
    rfl
  | cell co r ad va _ _ _ _ =>
    intro e
    rw [cleanB_eq, Bool.and_eq_true] at e
    obtain ⟨e1, e2, e3, e4⟩ := g e.1
    rw [Cnd.clean, if_neg (by decide), if_pos rfl]
    simp [zf] at e1 e2
    subst e1 e2
    rfl
  | flt co r ad va _ _ _ _ =>
    intro e
    rw [cleanB_eq, Bool.and_eq_true] at e
    obtain ⟨e1, e2, e3, e4⟩ := g e.1
    rw [Cnd.clean, if_neg (by decide), if_neg (by decide), if_pos rfl]
    simp [zf] at e2 e3
    subst e2 e3
    rfl
  | tru co r ad va =>
    intro e
    rw [cleanB_eq, Bool.and_eq_true] at e
    obtain ⟨e1, e2, e3, e4⟩ := g e.1
    rw [Cnd.clean]
    simp [zf] at e1 e2 e3 e4
    subst e1 e2 e3 e4
    rfl
  | not co r ad va d _ ih =>
    intro e
    rw [cleanB_eq, Bool.and_eq_true] at e
    obtain ⟨e0, e5⟩ := e
    rw [g2] at e0
    obtain ⟨e1, e2, e3, e4⟩ := g e0
    simp [zf] at e1 e2 e3 e4
    simp [Cnd.args] at e5
    rw [Cnd.clean, if_neg (by decide), if_neg (by decide), if_neg (by decide), if_neg (by decide), cleanL, cleanL, ih e5]
    subst e1 e2 e3 e4
    rfl
  | and co r ad va d f _ _ ih1 ih2 =>
    intro e
    rw [cleanB_eq, Bool.and_eq_true] at e
    obtain ⟨e0, e5⟩ := e
    rw [g2] at e0
    obtain ⟨e1, e2, e3, e4⟩ := g e0
    simp [zf] at e1 e2 e3 e4
    simp [Cnd.args] at e5
    rw [Cnd.clean, if_neg (by decide), if_neg (by decide), if_neg (by decide), if_neg (by decide), cleanL, cleanL, cleanL, ih1 e5.1, ih2 e5.2]
    subst e1 e2 e3 e4
    rfl
  | or co r ad va d f _ _ ih1 ih2 =>
    intro e
    rw [cleanB_eq, Bool.and_eq_true] at e
    obtain ⟨e0, e5⟩ := e
    rw [g2] at e0
    obtain ⟨e1, e2, e3, e4⟩ := g e0
    simp [zf] at e1 e2 e3 e4
    simp [Cnd.args] at e5
    rw [Cnd.clean, if_neg (by decide), if_neg (by decide), if_neg (by decide), if_neg (by decide), cleanL, cleanL, cleanL, ih1 e5.1, ih2 e5.2]
    subst e1 e2 e3 e4
    rfl
end GrC
namespace Go.Proofs.YtgpngjgilcbigaaDoor
open Go.RowKit GrP GrL GrC

set_option maxRecDepth 100000 in
set_option maxHeartbeats 12800000 in
theorem same_any : ∀ (N : Nat) (c d : Cnd) (p : Option Addr) (n q : Nat) (p2 : Option Addr) (n2 q2 : Nat) (w : World), c.cnt ≤ N → c.cnt ≤ 1000000 → n = c.args.length → LAt w c.args p 0 → n2 = d.args.length → LAt w d.args p2 0 →
    Calls Tryd.prog 18 #[.agg #[.int .i64 c.k, .int .i64 c.co, .int .i64 c.r, .int .u64 c.ad, .int .u64 c.va, .slice p n q], .agg #[.int .i64 d.k, .int .i64 d.co, .int .i64 d.r, .int .u64 d.ad, .int .u64 d.va, .slice p2 n2 q2]] w fun e w' => e = .returned (.bool (sameC c d)) ∧ Below w.heap.size w w' := by
  intro N
  induction N with
  | zero => intro c d p n q p2 n2 q2 w hc _; have := cnt_pos c; omega
  | succ N ih0 =>
    intro c d p n q p2 n2 q2 w hc hb hn hl hn2 hl2
    have n9 : (n : Int) ≤ 1000000 := by have := len_sum c.args; have := cnt_args c; omega
    have CB := Lib.hid (show ∀ t ∈ c.args, t.cnt ≤ 1000000 from fun t ht => by
      obtain ⟨i, hi, rfl⟩ := List.getElem_of_mem ht
      have := mem_cnt hi
      have := cnt_args c
      omega)
    have ih := ih0
    clear ih0
    have CN := Lib.hid (show ∀ j, j = 0 → (c.args.map Cnd.cnt).sum ≤ N from fun _ _ => by have := cnt_args c; omega)
    obtain ⟨kk, hkk⟩ : ∃ k, k = c.k := ⟨_, rfl⟩
    obtain ⟨co, hcc⟩ : ∃ k, k = c.co := ⟨_, rfl⟩
    obtain ⟨rr, hrr⟩ : ∃ k, k = c.r := ⟨_, rfl⟩
    obtain ⟨aa, haa⟩ : ∃ k, k = c.ad := ⟨_, rfl⟩
    obtain ⟨vv, hvv⟩ : ∃ k, k = c.va := ⟨_, rfl⟩
    obtain ⟨ts, hts⟩ : ∃ ts, ts = c.args := ⟨_, rfl⟩
    obtain ⟨kk2, hkk2⟩ : ∃ k, k = d.k := ⟨_, rfl⟩
    obtain ⟨co2, hcc2⟩ : ∃ k, k = d.co := ⟨_, rfl⟩
    obtain ⟨rr2, hrr2⟩ : ∃ k, k = d.r := ⟨_, rfl⟩
    obtain ⟨aa2, haa2⟩ : ∃ k, k = d.ad := ⟨_, rfl⟩
    obtain ⟨vv2, hvv2⟩ : ∃ k, k = d.va := ⟨_, rfl⟩
    obtain ⟨us, hus⟩ : ∃ ts, ts = d.args := ⟨_, rfl⟩
    rw [← hts] at hn hl
    rw [← hus] at hn2 hl2
    have CN := Lib.hid (show (ts.map Cnd.cnt).sum ≤ N by rw [hts]; exact CN.out 0 rfl)
    have CB := Lib.hid (show ∀ t ∈ ts, t.cnt ≤ 1000000 by rw [hts]; exact CB.out)
    rw [← hkk, ← hcc, ← hrr, ← haa, ← hvv, ← hkk2, ← hcc2, ← hrr2, ← haa2, ← hvv2]
    have NM := Lib.hid (show kk = c.k ∧ co = c.co ∧ rr = c.r ∧ aa = c.ad ∧ vv = c.va from ⟨hkk, hcc, hrr, haa, hvv⟩)
    have MN := Lib.hid (show kk2 = d.k ∧ co2 = d.co ∧ rr2 = d.r ∧ aa2 = d.ad ∧ vv2 = d.va from ⟨hkk2, hcc2, hrr2, haa2, hvv2⟩)
    have HTS := Lib.hid hts
    have HUS := Lib.hid hus
    have HN := Lib.hid hn
    have HM := Lib.hid hn2
    have HL1 := Lib.hid hl
    have HL2 := Lib.hid hl2
    have n0 : (0 : Int) ≤ (n : Int) := by omega
    clear hkk hcc hrr haa hvv hkk2 hcc2 hrr2 haa2 hvv2 hts hus hn hn2 hl hl2 hc hb
    have ih := Lib.hid ih
    go_enter Tryd.func18, Tryd.ntmps18
    go_upto_region 1 with fail
    refine to_cls ?_
    intro U0 hU0 y0
    have r_c : ∀ z : Wb U0, Row z.at w.heap.size [.int .i64 kk, .int .i64 co, .int .i64 rr, .int .u64 aa, .int .u64 vv, .slice p n q] 25 := Row.next ((Row.new _ [.int .i64 kk, .int .i64 co, .int .i64 rr, .int .u64 aa, .int .u64 vv, .slice p n q] _).old _) hU0
    have r_d : ∀ z : Wb U0, Row z.at (w.heap.size + 1) [.int .i64 kk2, .int .i64 co2, .int .i64 rr2, .int .u64 aa2, .int .u64 vv2, .slice p2 n2 q2] 25 := Row.next (Row.new' _ [.int .i64 kk2, .int .i64 co2, .int .i64 rr2, .int .u64 aa2, .int .u64 vv2, .slice p2 n2 q2] _ _ (by simp)) hU0
    have KK := Lib.hid (KB.next (KB.alloc (KB.alloc (Below.refl w.heap.size w) _) _) hU0)
    clear hU0
    have c_0 := fun z : Wb U0 => (r_c z).cell 0
    have d_0 := fun z : Wb U0 => (r_d z).cell 0
    have c_1 := fun z : Wb U0 => (r_c z).cell 1
    have d_1 := fun z : Wb U0 => (r_d z).cell 1
    have c_2 := fun z : Wb U0 => (r_c z).cell 2
    have d_2 := fun z : Wb U0 => (r_d z).cell 2
    have c_3 := fun z : Wb U0 => (r_c z).cell 3
    have d_3 := fun z : Wb U0 => (r_d z).cell 3
    have c_4 := fun z : Wb U0 => (r_c z).cell 4
    have d_4 := fun z : Wb U0 => (r_d z).cell 4
    have c_5 := fun z : Wb U0 => (r_c z).cell 5
    have d_5 := fun z : Wb U0 => (r_d z).cell 5
    simp only [List.getElem?_cons_zero, List.getElem?_cons_succ] at c_0 d_0 c_1 d_1 c_2 d_2 c_3 d_3 c_4 d_4 c_5 d_5
    clear r_c r_d
    obtain ⟨pC, hpC⟩ : ∃ b, b = w.heap.size := ⟨_, rfl⟩
    obtain ⟨pD, hpD⟩ : ∃ b, b = pC + 1 := ⟨_, rfl⟩
    rw [← hpC] at c_0 d_0 c_1 d_1 c_2 d_2 c_3 d_3 c_4 d_4 c_5 d_5
    rw [← hpD] at d_0 d_1 d_2 d_3 d_4 d_5
    simp only [← hpC]
    simp only [← hpD]
    clear hpC hpD
    by_cases h0 : kk = kk2
    · subst h0
      by_cases h1 : co = co2
      · subst h1
        by_cases h2 : rr = rr2
        · subst h2
          by_cases h3 : aa = aa2
          · subst h3
            by_cases h4 : vv = vv2
            · subst h4
              by_cases h5 : n = n2
              · subst h5
                go_wp2_with fail
                go_loopw [5] (fun iv wr => ∃ (j : Nat) (z : Wb U0), j ≤ n ∧ iv = .int .i64 (j : Int) ∧ (∀ i (h : i < ts.length) (h2 : i < us.length), i < j → sameC ts[i] us[i] = true) ∧ wr = z.at) (fun iv _ => n - (intOf iv).toNat)
                case atStart => exact ⟨0, y0, by omega, rfl, fun i h h2 h3 => by omega, rfl⟩
                case round =>
                  obtain ⟨j, z, hj, rfl, hall, rfl⟩ := hrel
                  have HA := Lib.hid hall
                  clear hall
                  have j0 : (0 : Int) ≤ (j : Int) := by omega
                  have KZ := Lib.hid (KK.out z)
                  have c_0 := z.lift c_0
                  have d_0 := z.lift d_0
                  have c_1 := z.lift c_1
                  have d_1 := z.lift d_1
                  have c_2 := z.lift c_2
                  have d_2 := z.lift d_2
                  have c_3 := z.lift c_3
                  have d_3 := z.lift d_3
                  have c_4 := z.lift c_4
                  have d_4 := z.lift d_4
                  have c_5 := z.lift c_5
                  have d_5 := z.lift d_5
                  by_cases cj : j < n
                  · have l1 : j < ts.length := by have := HN.out; omega
                    have l2 : j < us.length := by have := HM.out; omega
                    have IL := Lib.hid (show j + 1 ≤ n by omega)
                    have g1 : (j : Int) < (n : Int) := by omega
                    have LA := HL1.out.below KZ.out
                    have LB := HL2.out.below KZ.out
                    obtain ⟨a, rfl⟩ := LA.addr j l1
                    obtain ⟨b, rfl⟩ := LB.addr j l2
                    obtain ⟨p3, n3, q3, hn3, hl3, e0, e1, e2, e3, e4, e5⟩ := LA.cells j l1
                    obtain ⟨p4, n4, q4, hn4, hl4, f0, f1, f2, f3, f4, f5⟩ := LB.cells j l2
                    have SC := Lib.hid (fun x : Wb z.at => ih.out (ts[j]'l1) (us[j]'l2) p3 n3 q3 p4 n4 q4 x.at (by have := CN.out; have := mem_cnt l1; omega) (CB.out _ (List.getElem_mem l1)) hn3 (hl3.below x.bel) hn4 (hl4.below x.bel))
                    obtain ⟨s, hs⟩ : ∃ s, s = sameC (ts[j]'l1) (us[j]'l2) := ⟨_, rfl⟩
                    rw [← hs] at SC
                    have HS := Lib.hid hs
                    obtain ⟨ex0, hex0⟩ : ∃ x, x = (ts[j]'l1).k := ⟨_, rfl⟩
                    obtain ⟨fx0, hfx0⟩ : ∃ x, x = (us[j]'l2).k := ⟨_, rfl⟩
                    rw [← hex0] at e0
                    rw [← hfx0] at f0
                    obtain ⟨ex1, hex1⟩ : ∃ x, x = (ts[j]'l1).co := ⟨_, rfl⟩
                    obtain ⟨fx1, hfx1⟩ : ∃ x, x = (us[j]'l2).co := ⟨_, rfl⟩
                    rw [← hex1] at e1
                    rw [← hfx1] at f1
                    obtain ⟨ex2, hex2⟩ : ∃ x, x = (ts[j]'l1).r := ⟨_, rfl⟩
                    obtain ⟨fx2, hfx2⟩ : ∃ x, x = (us[j]'l2).r := ⟨_, rfl⟩
                    rw [← hex2] at e2
                    rw [← hfx2] at f2
                    obtain ⟨ex3, hex3⟩ : ∃ x, x = (ts[j]'l1).ad := ⟨_, rfl⟩
                    obtain ⟨fx3, hfx3⟩ : ∃ x, x = (us[j]'l2).ad := ⟨_, rfl⟩
                    rw [← hex3] at e3
                    rw [← hfx3] at f3
                    obtain ⟨ex4, hex4⟩ : ∃ x, x = (ts[j]'l1).va := ⟨_, rfl⟩
                    obtain ⟨fx4, hfx4⟩ : ∃ x, x = (us[j]'l2).va := ⟨_, rfl⟩
                    rw [← hex4] at e4
                    rw [← hfx4] at f4
                    rw [← hex0, ← hex1, ← hex2, ← hex3, ← hex4, ← hfx0, ← hfx1, ← hfx2, ← hfx3, ← hfx4] at SC
                    have e0 := fun y : Wb z.at => keep_below y.bel _ _ e0
                    have f0 := fun y : Wb z.at => keep_below y.bel _ _ f0
                    have e1 := fun y : Wb z.at => keep_below y.bel _ _ e1
                    have f1 := fun y : Wb z.at => keep_below y.bel _ _ f1
                    have e2 := fun y : Wb z.at => keep_below y.bel _ _ e2
                    have f2 := fun y : Wb z.at => keep_below y.bel _ _ f2
                    have e3 := fun y : Wb z.at => keep_below y.bel _ _ e3
                    have f3 := fun y : Wb z.at => keep_below y.bel _ _ f3
                    have e4 := fun y : Wb z.at => keep_below y.bel _ _ e4
                    have f4 := fun y : Wb z.at => keep_below y.bel _ _ f4
                    have e5 := fun y : Wb z.at => keep_below y.bel _ _ e5
                    have f5 := fun y : Wb z.at => keep_below y.bel _ _ f5
                    clear hex0 hex1 hex2 hex3 hex4 hfx0 hfx1 hfx2 hfx3 hfx4 hn3 hl3 hn4 hl4 LA LB cj hj hs
                    cases s with
                    | false =>
                      have E := Lib.hid (show sameC c d = false by rw [same_eq, ← HTS.out, ← HUS.out, sameL_no ts us j l1 l2 HS.out.symm]; simp)
                      clear HS l1 l2
                      go_upto_region 6 with fail
                      refine wp_region_wb (by kernel_rfl) (by kernel_rfl) ?_
                      repeat (go_big_quiet_step ((go_at_call 18; exact Calls.wb (SC.out _))))
                      refine wpQuiet_nil ?_
                      rintro _ ⟨x7, rfl⟩
                      go_wp2
                      go_ret
                      exact ⟨by rw [E.out]; rfl, KZ.out.trans (x7.bel.mono KZ.out.size)⟩
                    | true =>
                      have NX := Lib.hid (show ∀ i (h : i < ts.length) (h2 : i < us.length), i < j + 1 → sameC ts[i] us[i] = true from fun i h h2 h3 => by
                        by_cases e : i = j
                        · subst e; exact HS.out.symm
                        · exact HA.out i h h2 (by omega))
                      clear HS l1 l2
                      go_upto_region 6 with fail
                      refine wp_region_wb (by kernel_rfl) (by kernel_rfl) ?_
                      repeat (go_big_quiet_step ((go_at_call 18; exact Calls.wb (SC.out _))))
                      refine wpQuiet_nil ?_
                      rintro _ ⟨x7, rfl⟩
                      go_wp2
                      go_roundw
                      case rel => exact ⟨j + 1, ⟨x7.at, z.bel.trans (x7.bel.mono z.bel.size)⟩, IL.out, by go_num, NX.out, rfl⟩
                      case measure => have := IL.out; simp [intOf] <;> omega
                  · have g1 : ¬ (j : Int) < (n : Int) := by omega
                    have E := Lib.hid (show sameC c d = true by
                      rw [same_eq, ← HTS.out, ← HUS.out, sameL_get ts us (by have := HN.out; have := HM.out; omega) (fun i h h2 => HA.out i h h2 (by have := HN.out; omega))]
                      obtain ⟨q1, q2, q3, q4, q5⟩ := NM.out
                      obtain ⟨u1, u2, u3, u4, u5⟩ := MN.out
                      rw [← q1, ← q2, ← q3, ← q4, ← q5, ← u1, ← u2, ← u3, ← u4, ← u5, show ts.length = us.length by have := HN.out; have := HM.out; omega]
                      simp)
                    have c_0 := c_0 ⟨z.at, Below.refl _ _⟩
                    have d_0 := d_0 ⟨z.at, Below.refl _ _⟩
                    have c_1 := c_1 ⟨z.at, Below.refl _ _⟩
                    have d_1 := d_1 ⟨z.at, Below.refl _ _⟩
                    have c_2 := c_2 ⟨z.at, Below.refl _ _⟩
                    have d_2 := d_2 ⟨z.at, Below.refl _ _⟩
                    have c_3 := c_3 ⟨z.at, Below.refl _ _⟩
                    have d_3 := d_3 ⟨z.at, Below.refl _ _⟩
                    have c_4 := c_4 ⟨z.at, Below.refl _ _⟩
                    have d_4 := d_4 ⟨z.at, Below.refl _ _⟩
                    have c_5 := c_5 ⟨z.at, Below.refl _ _⟩
                    have d_5 := d_5 ⟨z.at, Below.refl _ _⟩
                    clear cj hj
                    go_wp2
                    go_ret
                    exact ⟨by rw [E.out]; rfl, KZ.out⟩
              · have E := Lib.hid (show sameC c d = false by rw [same_eq, decide_eq_false (show ¬ c.args.length = d.args.length by have := HN.out; have := HM.out; rw [← HTS.out, ← HUS.out]; omega)]; simp)
                have g : ((n : Int) != (n2 : Int)) = true := by simp; omega
                clear h5
                have c_0 := c_0 y0
                have d_0 := d_0 y0
                have c_1 := c_1 y0
                have d_1 := d_1 y0
                have c_2 := c_2 y0
                have d_2 := d_2 y0
                have c_3 := c_3 y0
                have d_3 := d_3 y0
                have c_4 := c_4 y0
                have d_4 := d_4 y0
                have c_5 := c_5 y0
                have d_5 := d_5 y0
                go_wp2
                go_ret
                exact ⟨by rw [E.out]; rfl, KK.out y0⟩
            · have E := Lib.hid (show sameC c d = false by rw [same_eq]; obtain ⟨q1, q2, q3, q4, q5⟩ := NM.out; obtain ⟨u1, u2, u3, u4, u5⟩ := MN.out; rw [← q5, ← u5, decide_eq_false h4]; simp)
              have g : (vv != vv2) = true := by simpa using h4
              clear h4
              have c_0 := c_0 y0
              have d_0 := d_0 y0
              have c_1 := c_1 y0
              have d_1 := d_1 y0
              have c_2 := c_2 y0
              have d_2 := d_2 y0
              have c_3 := c_3 y0
              have d_3 := d_3 y0
              have c_4 := c_4 y0
              have d_4 := d_4 y0
              have c_5 := c_5 y0
              have d_5 := d_5 y0
              go_wp2
              go_ret
              exact ⟨by rw [E.out]; rfl, KK.out y0⟩
          · have E := Lib.hid (show sameC c d = false by rw [same_eq]; obtain ⟨q1, q2, q3, q4, q5⟩ := NM.out; obtain ⟨u1, u2, u3, u4, u5⟩ := MN.out; rw [← q4, ← u4, decide_eq_false h3]; simp)
            have g : (aa != aa2) = true := by simpa using h3
            clear h3
            have c_0 := c_0 y0
            have d_0 := d_0 y0
            have c_1 := c_1 y0
            have d_1 := d_1 y0
            have c_2 := c_2 y0
            have d_2 := d_2 y0
            have c_3 := c_3 y0
            have d_3 := d_3 y0
            have c_4 := c_4 y0
            have d_4 := d_4 y0
            have c_5 := c_5 y0
            have d_5 := d_5 y0
            go_wp2
            go_ret
            exact ⟨by rw [E.out]; rfl, KK.out y0⟩
        · have E := Lib.hid (show sameC c d = false by rw [same_eq]; obtain ⟨q1, q2, q3, q4, q5⟩ := NM.out; obtain ⟨u1, u2, u3, u4, u5⟩ := MN.out; rw [← q3, ← u3, decide_eq_false h2]; simp)
          have g : (rr != rr2) = true := by simpa using h2
          clear h2
          have c_0 := c_0 y0
          have d_0 := d_0 y0
          have c_1 := c_1 y0
          have d_1 := d_1 y0
          have c_2 := c_2 y0
          have d_2 := d_2 y0
          have c_3 := c_3 y0
          have d_3 := d_3 y0
          have c_4 := c_4 y0
          have d_4 := d_4 y0
          have c_5 := c_5 y0
          have d_5 := d_5 y0
          go_wp2
          go_ret
          exact ⟨by rw [E.out]; rfl, KK.out y0⟩
      · have E := Lib.hid (show sameC c d = false by rw [same_eq]; obtain ⟨q1, q2, q3, q4, q5⟩ := NM.out; obtain ⟨u1, u2, u3, u4, u5⟩ := MN.out; rw [← q2, ← u2, decide_eq_false h1]; simp)
        have g : (co != co2) = true := by simpa using h1
        clear h1
        have c_0 := c_0 y0
        have d_0 := d_0 y0
        have c_1 := c_1 y0
        have d_1 := d_1 y0
        have c_2 := c_2 y0
        have d_2 := d_2 y0
        have c_3 := c_3 y0
        have d_3 := d_3 y0
        have c_4 := c_4 y0
        have d_4 := d_4 y0
        have c_5 := c_5 y0
        have d_5 := d_5 y0
        go_wp2
        go_ret
        exact ⟨by rw [E.out]; rfl, KK.out y0⟩
    · have E := Lib.hid (show sameC c d = false by rw [same_eq]; obtain ⟨q1, q2, q3, q4, q5⟩ := NM.out; obtain ⟨u1, u2, u3, u4, u5⟩ := MN.out; rw [← q1, ← u1, decide_eq_false h0]; simp)
      have g : (kk != kk2) = true := by simpa using h0
      clear h0
      have c_0 := c_0 y0
      have d_0 := d_0 y0
      have c_1 := c_1 y0
      have d_1 := d_1 y0
      have c_2 := c_2 y0
      have d_2 := d_2 y0
      have c_3 := c_3 y0
      have d_3 := d_3 y0
      have c_4 := c_4 y0
      have d_4 := d_4 y0
      have c_5 := c_5 y0
      have d_5 := d_5 y0
      go_wp2
      go_ret
      exact ⟨by rw [E.out]; rfl, KK.out y0⟩
end Go.Proofs.YtgpngjgilcbigaaDoor

namespace Go.Proofs.YtgpngjgilcbigaaDoor
open Go.RowKit GrP GrL GrC

theorem clean_top (c : Cnd) (z : Cnd) (hz : z = .node c.k (zf c.k [1, 3] c.co) (zf c.k [1] c.r) (zf c.k [2] c.ad) (zf c.k [1, 2, 3] c.va) c.args) : sameC z c = top0 c := by
  obtain ⟨k, co, r, ad, va, ts⟩ := c
  subst hz
  rw [show Cnd.args (.node k co r ad va ts) = ts from rfl, sameC, sameL_refl]
  show _ = (decide (zf k [1, 3] co = co) && decide (zf k [1] r = r) && decide (zf k [2] ad = ad) && decide (zf k [1, 2, 3] va = va))
  simp [Cnd.k, Cnd.co, Cnd.r, Cnd.ad, Cnd.va]
  rfl

set_option maxRecDepth 100000 in
set_option maxHeartbeats 12800000 in
theorem clean_any : ∀ (N : Nat) (c : Cnd) (p : Option Addr) (n q : Nat) (w : World), c.cnt ≤ N → c.cnt ≤ 1000000 → n = c.args.length → LAt w c.args p 0 →
    Calls Tryd.prog 17 #[.agg #[.int .i64 c.k, .int .i64 c.co, .int .i64 c.r, .int .u64 c.ad, .int .u64 c.va, .slice p n q]] w fun e w' => e = .returned (.bool (cleanB c)) ∧ Below w.heap.size w w' := by
  intro N
  induction N with
  | zero => intro c p n q w hc _; have := cnt_pos c; omega
  | succ N ih0 =>
    intro c p n q w hc hb hn hl
    have ih := Lib.hid ih0
    clear ih0
    have n9 : (n : Int) ≤ 1000000 := by have := len_sum c.args; have := cnt_args c; omega
    have n0 : (0 : Int) ≤ (n : Int) := by omega
    have CB := Lib.hid (show ∀ t ∈ c.args, t.cnt ≤ 1000000 from fun t ht => by
      obtain ⟨i, hi, rfl⟩ := List.getElem_of_mem ht
      have := mem_cnt hi
      have := cnt_args c
      omega)
    have CN := Lib.hid (show ∀ i (h : i < c.args.length), (c.args[i]'h).cnt ≤ N from fun i hi => by
      have := mem_cnt hi
      have := cnt_args c
      omega)
    obtain ⟨tp, htp⟩ : ∃ b, b = top0 c := ⟨_, rfl⟩
    have SA := Lib.hid (fun (z : Cnd) (hzt : z.args = c.args) (hz : sameC z c = tp) (U : World) (h : Below w.heap.size w U) => show Calls Tryd.prog 18 #[.agg #[.int .i64 z.k, .int .i64 z.co, .int .i64 z.r, .int .u64 z.ad, .int .u64 z.va, .slice p n q], .agg #[.int .i64 c.k, .int .i64 c.co, .int .i64 c.r, .int .u64 c.ad, .int .u64 c.va, .slice p n q]] U fun e w' => e = .returned (.bool tp) ∧ Below U.heap.size U w' from
      hz ▸ same_any z.cnt z c p n q p n q U (Nat.le_refl _) (by rw [show z.cnt = c.cnt by rw [cnt_args, cnt_args, hzt]]; exact hb) (by rw [hzt]; exact hn) (by rw [hzt]; exact hl.below h) hn (hl.below h))
    have EF := Lib.hid (show tp = false → cleanB c = false from fun h => by rw [cleanB_eq, ← htp, h]; rfl)
    have EN := Lib.hid (show ∀ j (h : j < c.args.length), cleanB (c.args[j]'h) = false → cleanB c = false from fun j h h2 => by
      rw [cleanB_eq, List.all_eq_false.2 ⟨_, List.getElem_mem h, by rw [h2]; decide⟩]
      simp)
    have EY := Lib.hid (show tp = true → (∀ i (h : i < c.args.length), cleanB (c.args[i]'h) = true) → cleanB c = true from fun h h2 => by
      rw [cleanB_eq, ← htp, h, List.all_eq_true.2 fun x hx => by
        obtain ⟨i, hi, rfl⟩ := List.getElem_of_mem hx
        exact h2 i hi]
      rfl)
    have CT := Lib.hid (show ∀ z : Cnd, z = .node c.k (zf c.k [1, 3] c.co) (zf c.k [1] c.r) (zf c.k [2] c.ad) (zf c.k [1, 2, 3] c.va) c.args → sameC z c = tp from fun z hz => htp ▸ clean_top c z hz)
    clear htp hc hb
    obtain ⟨kk, hkk⟩ : ∃ k, k = c.k := ⟨_, rfl⟩
    obtain ⟨co, hcc⟩ : ∃ k, k = c.co := ⟨_, rfl⟩
    obtain ⟨rr, hrr⟩ : ∃ k, k = c.r := ⟨_, rfl⟩
    obtain ⟨aa, haa⟩ : ∃ k, k = c.ad := ⟨_, rfl⟩
    obtain ⟨vv, hvv⟩ : ∃ k, k = c.va := ⟨_, rfl⟩
    obtain ⟨ts, hts⟩ : ∃ ts, ts = c.args := ⟨_, rfl⟩
    rw [← hts] at hn hl CB CN SA EN EY CT
    rw [← hkk, ← hcc, ← hrr, ← haa, ← hvv]
    rw [← hkk, ← hcc, ← hrr, ← haa, ← hvv] at SA CT
    have HN := Lib.hid hn
    have HL1 := Lib.hid hl
    clear hkk hcc hrr haa hvv hts hn hl
    go_enter Tryd.func17, Tryd.ntmps17
    go_upto_region 1 with fail
    refine to_cls ?_
    intro U0 hU0 y0
    have RC0 := Lib.hid (show Row y0.at w.heap.size [.int .i64 kk, .int .i64 co, .int .i64 rr, .int .u64 aa, .int .u64 vv, .slice p n q] 25 from Row.next (Row.new _ [.int .i64 kk, .int .i64 co, .int .i64 rr, .int .u64 aa, .int .u64 vv, .slice p n q] _) hU0 y0)
    have KK := Lib.hid (KB.next (KB.alloc (Below.refl w.heap.size w) _) hU0 y0)
    clear hU0
    obtain ⟨pC, hpC⟩ : ∃ b, b = w.heap.size := ⟨_, rfl⟩
    rw [← hpC] at RC0
    simp only [← hpC]
    clear hpC
    have WR := Lib.hid (fun (V : World) (h : Below y0.at.heap.size y0.at V) => RC0.out.below h)
    have W0 := Lib.hid (fun (V : World) (h : Below y0.at.heap.size y0.at V) => KK.out.trans (h.mono KK.out.size))
    have c_0 := (RC0.out).cell 0
    have c_1 := (RC0.out).cell 1
    have c_2 := (RC0.out).cell 2
    have c_3 := (RC0.out).cell 3
    have c_4 := (RC0.out).cell 4
    have c_5 := (RC0.out).cell 5
    simp only [List.getElem?_cons_zero, List.getElem?_cons_succ] at c_0 c_1 c_2 c_3 c_4 c_5
    go_upto_region 2 with fail
    refine to_cls ?_
    intro U1 hU1 y1
    obtain ⟨pM, hpM⟩ : ∃ b, b = y0.at.heap.size := ⟨_, rfl⟩
    have RZ := Lib.hid (show Row y1.at pM [.int .i64 kk, .int .i64 0, .int .i64 0, .int .u64 0, .int .u64 0, .slice p n q] 25 from hpM ▸ ((Row.new y0.at [.int .i64 kk, .int .i64 0, .int .i64 0, .int .u64 0, .int .u64 0, .slice p n q] _).below hU1).below y1.bel)
    have KW := Lib.hid (show Below y0.at.heap.size y0.at y1.at from (KB.alloc (Below.refl y0.at.heap.size y0.at) _).trans ((hU1.trans (y1.bel.mono hU1.size)).mono (by simp)))
    have HP : y0.at.heap.size ≤ pM := by omega
    simp only [← hpM]
    clear hU1 hpM c_0 c_1 c_2 c_3 c_4 c_5
    have m_0 := RZ.out.cell 0
    have m_1 := RZ.out.cell 1
    have m_2 := RZ.out.cell 2
    have m_3 := RZ.out.cell 3
    have m_4 := RZ.out.cell 4
    have m_5 := RZ.out.cell 5
    simp only [List.getElem?_cons_zero, List.getElem?_cons_succ] at m_0 m_1 m_2 m_3 m_4 m_5
    by_cases h1 : kk = 1
    · subst h1
      have HZ := Lib.hid (show (.node 1 co rr 0 vv ts : Cnd) = .node 1 (zf 1 [1, 3] co) (zf 1 [1] rr) (zf 1 [2] aa) (zf 1 [1, 2, 3] vv) ts by simp [zf])
      have SS := Lib.hid (fun (V : World) (h : Below y0.at.heap.size y0.at V) => (show V.cell? ⟨pC, 0, none⟩ = some (.int .i64 1) ∧ V.cell? ⟨pC, 1, none⟩ = some (.int .i64 co) ∧ V.cell? ⟨pC, 2, none⟩ = some (.int .i64 rr) ∧ V.cell? ⟨pC, 3, none⟩ = some (.int .u64 aa) ∧ V.cell? ⟨pC, 4, none⟩ = some (.int .u64 vv) ∧ V.cell? ⟨pC, 5, none⟩ = some (.slice p n q) from ⟨(WR.out V h).cell 0, (WR.out V h).cell 1, (WR.out V h).cell 2, (WR.out V h).cell 3, (WR.out V h).cell 4, (WR.out V h).cell 5⟩))
      have c_0 := (WR.out _ KW.out).cell 0
      have c_1 := (WR.out _ KW.out).cell 1
      have c_2 := (WR.out _ KW.out).cell 2
      have c_3 := (WR.out _ KW.out).cell 3
      have c_4 := (WR.out _ KW.out).cell 4
      have c_5 := (WR.out _ KW.out).cell 5
      simp only [List.getElem?_cons_zero, List.getElem?_cons_succ] at c_0 c_1 c_2 c_3 c_4 c_5
      have mf_0 := RZ.out.free 0
      have mf_1 := RZ.out.free 1
      have mf_2 := RZ.out.free 2
      have mf_3 := RZ.out.free 3
      have mf_4 := RZ.out.free 4
      have mf_5 := RZ.out.free 5
      go_upto_region 4 with fail
      go_region_held3 (fun V => V.cell? ⟨pC, 0, none⟩ = some (.int .i64 1) ∧ V.cell? ⟨pC, 1, none⟩ = some (.int .i64 co) ∧ V.cell? ⟨pC, 2, none⟩ = some (.int .i64 rr) ∧ V.cell? ⟨pC, 3, none⟩ = some (.int .u64 aa) ∧ V.cell? ⟨pC, 4, none⟩ = some (.int .u64 vv) ∧ V.cell? ⟨pC, 5, none⟩ = some (.slice p n q))
        (first | (refine SS.out _ ?_; repeat' (first | (with_reducible exact Below.refl _ _) | (with_reducible exact KW.out) | (with_reducible refine KB.alloc ?_ _) | (with_reducible refine Below.drew ?_) | (with_reducible refine KB.put ?_ (by omega) _ _))))
        (fail)
      go_upto_region 9 with fail
      refine to_cls ?_
      intro U1 hU1 y1
      have RC := Lib.hid (show Row y1.at pC [.int .i64 1, .int .i64 co, .int .i64 rr, .int .u64 aa, .int .u64 vv, .slice p n q] 25 from ((WR.out _ (by
        repeat' (first | (with_reducible exact Below.refl _ _) | (with_reducible exact KW.out) | (with_reducible refine KB.alloc ?_ _) | (with_reducible refine Below.drew ?_) | (with_reducible refine KB.put ?_ (by omega) _ _)))).below hU1).below y1.bel)
      have RM := Lib.hid (show Row y1.at pM [.int .i64 1, .int .i64 co, .int .i64 rr, .int .u64 0, .int .u64 vv, .slice p n q] 25 from Row.below (Row.below (by
        repeat' (first | (with_reducible exact RZ.out) | (with_reducible exact RZ.out.drew) | exact ((((RZ.out.drew).set 1 _).set 2 _).set 4 _) | (with_reducible refine Row.drew ?_))) hU1) y1.bel)
      have KY := Lib.hid (show Below w.heap.size w y1.at from (W0.out _ (by
        repeat' (first | (with_reducible exact Below.refl _ _) | (with_reducible exact KW.out) | (with_reducible refine KB.alloc ?_ _) | (with_reducible refine Below.drew ?_) | (with_reducible refine KB.put ?_ (by omega) _ _)))).trans ((hU1.trans (y1.bel.mono hU1.size)).mono (W0.out _ (by
        repeat' (first | (with_reducible exact Below.refl _ _) | (with_reducible exact KW.out) | (with_reducible refine KB.alloc ?_ _) | (with_reducible refine Below.drew ?_) | (with_reducible refine KB.put ?_ (by omega) _ _)))).size))
      clear hU1
      have SMC := Lib.hid (fun z : Wb y1.at => show Calls Tryd.prog 18 #[.agg #[.int .i64 1, .int .i64 co, .int .i64 rr, .int .u64 0, .int .u64 vv, .slice p n q], .agg #[.int .i64 1, .int .i64 co, .int .i64 rr, .int .u64 aa, .int .u64 vv, .slice p n q]] z.at fun e w' => e = .returned (.bool tp) ∧ Below z.at.heap.size z.at w' from
        (SA.out (.node 1 co rr 0 vv ts : Cnd) rfl (CT.out _ HZ.out) z.at (KY.out.trans (z.bel.mono KY.out.size))))
      have CA := Lib.hid (fun (j : Nat) (h : j < ts.length) (z : Wb y1.at) p3 n3 q3 hn3 hl3 => ih.out (ts[j]'h) p3 n3 q3 z.at (CN.out j h) (CB.out _ (List.getElem_mem h)) hn3 hl3)
      cases tp with
      | false =>
        have c_0 := RC.out.cell 0
        have c_1 := RC.out.cell 1
        have c_2 := RC.out.cell 2
        have c_3 := RC.out.cell 3
        have c_4 := RC.out.cell 4
        have c_5 := RC.out.cell 5
        have m_0 := RM.out.cell 0
        have m_1 := RM.out.cell 1
        have m_2 := RM.out.cell 2
        have m_3 := RM.out.cell 3
        have m_4 := RM.out.cell 4
        have m_5 := RM.out.cell 5
        simp only [List.getElem?_cons_zero, List.getElem?_cons_succ] at c_0 c_1 c_2 c_3 c_4 c_5 m_0 m_1 m_2 m_3 m_4 m_5
        go_wp2_with (go_at_call 18; refine (SMC.out ⟨y1.at, Below.refl _ _⟩).mono ?_; rintro e w9 ⟨rfl, g⟩; have G9 := Lib.hid g; clear g)
        go_ret
        have E := EF.out (by first | rfl | exact trivial)
        exact ⟨by rw [E]; rfl, KY.out.trans (G9.out.mono KY.out.size)⟩
      | true =>
        have c_0 := RC.out.cell 0
        have c_1 := RC.out.cell 1
        have c_2 := RC.out.cell 2
        have c_3 := RC.out.cell 3
        have c_4 := RC.out.cell 4
        have c_5 := RC.out.cell 5
        have m_0 := RM.out.cell 0
        have m_1 := RM.out.cell 1
        have m_2 := RM.out.cell 2
        have m_3 := RM.out.cell 3
        have m_4 := RM.out.cell 4
        have m_5 := RM.out.cell 5
        simp only [List.getElem?_cons_zero, List.getElem?_cons_succ] at c_0 c_1 c_2 c_3 c_4 c_5 m_0 m_1 m_2 m_3 m_4 m_5
        go_wp2_with (go_at_call 18; refine (SMC.out ⟨y1.at, Below.refl _ _⟩).mono ?_; rintro e w9 ⟨rfl, g⟩; obtain ⟨x9, rfl⟩ := Wb.start (W := y1.at) g; clear g)
        go_loopw [4] (fun iv wr => ∃ (j : Nat) (z : Wb y1.at), j ≤ n ∧ iv = .int .i64 (j : Int) ∧ (∀ i (h : i < ts.length), i < j → cleanB ts[i] = true) ∧ wr = z.at) (fun iv _ => n - (intOf iv).toNat)
        case atStart => exact ⟨0, x9, by omega, rfl, fun i h h3 => by omega, rfl⟩
        case round =>
          obtain ⟨j, z, hj, rfl, hall, rfl⟩ := hrel
          have HA := Lib.hid hall
          clear hall
          have j0 : (0 : Int) ≤ (j : Int) := by omega
          have KZ := Lib.hid (KY.out.trans (z.bel.mono KY.out.size))
          have c_0 := (RC.out.below z.bel).cell 0
          have c_1 := (RC.out.below z.bel).cell 1
          have c_2 := (RC.out.below z.bel).cell 2
          have c_3 := (RC.out.below z.bel).cell 3
          have c_4 := (RC.out.below z.bel).cell 4
          have c_5 := (RC.out.below z.bel).cell 5
          simp only [List.getElem?_cons_zero, List.getElem?_cons_succ] at c_0 c_1 c_2 c_3 c_4 c_5
          by_cases cj : j < n
          · have l1 : j < ts.length := by have := HN.out; omega
            have IL := Lib.hid (show j + 1 ≤ n by omega)
            have g1 : (j : Int) < (n : Int) := by omega
            have LA := HL1.out.below KZ.out
            obtain ⟨a, rfl⟩ := LA.addr j l1
            obtain ⟨p3, n3, q3, hn3, hl3, e0, e1, e2, e3, e4, e5⟩ := LA.cells j l1
            have SC := Lib.hid (CA.out j l1 z p3 n3 q3 hn3 hl3)
            obtain ⟨s, hs⟩ : ∃ s, s = cleanB (ts[j]'l1) := ⟨_, rfl⟩
            rw [← hs] at SC
            have HS := Lib.hid hs
            obtain ⟨ex0, hex0⟩ : ∃ x, x = (ts[j]'l1).k := ⟨_, rfl⟩
            rw [← hex0] at e0
            obtain ⟨ex1, hex1⟩ : ∃ x, x = (ts[j]'l1).co := ⟨_, rfl⟩
            rw [← hex1] at e1
            obtain ⟨ex2, hex2⟩ : ∃ x, x = (ts[j]'l1).r := ⟨_, rfl⟩
            rw [← hex2] at e2
            obtain ⟨ex3, hex3⟩ : ∃ x, x = (ts[j]'l1).ad := ⟨_, rfl⟩
            rw [← hex3] at e3
            obtain ⟨ex4, hex4⟩ : ∃ x, x = (ts[j]'l1).va := ⟨_, rfl⟩
            rw [← hex4] at e4
            rw [← hex0, ← hex1, ← hex2, ← hex3, ← hex4] at SC
            clear hex0 hex1 hex2 hex3 hex4 hn3 hl3 LA cj hj hs
            cases s with
            | false =>
              have E := Lib.hid (EN.out j l1 HS.out.symm)
              clear HS l1
              go_wp2_with (go_at_call 17; refine (SC.out).mono ?_; rintro e w9 ⟨rfl, g⟩; have G9 := Lib.hid g; clear g)
              go_ret
              exact ⟨by rw [E.out]; rfl, KZ.out.trans (G9.out.mono KZ.out.size)⟩
            | true =>
              have NX := Lib.hid (show ∀ i (h : i < ts.length), i < j + 1 → cleanB ts[i] = true from fun i h h3 => by
                by_cases e : i = j
                · subst e; exact HS.out.symm
                · exact HA.out i h (by omega))
              clear HS l1
              go_wp2_with (go_at_call 17; refine (SC.out).mono ?_; rintro e w9 ⟨rfl, g⟩; obtain ⟨x7, rfl⟩ := Wb.next (x := z) g; clear g)
              go_roundw
              case rel => exact ⟨j + 1, x7, IL.out, by go_num, NX.out, rfl⟩
              case measure => have := IL.out; simp [intOf] <;> omega
          · have g1 : ¬ (j : Int) < (n : Int) := by omega
            have E := Lib.hid (EY.out (by first | rfl | exact trivial) (fun i h => HA.out i h (by have := HN.out; omega)))
            clear cj hj
            go_wp2
            go_ret
            exact ⟨by rw [E.out]; rfl, KZ.out⟩
    by_cases h2 : kk = 2
    · subst h2
      have HZ := Lib.hid (show (.node 2 0 0 aa vv ts : Cnd) = .node 2 (zf 2 [1, 3] co) (zf 2 [1] rr) (zf 2 [2] aa) (zf 2 [1, 2, 3] vv) ts by simp [zf])
      have SS := Lib.hid (fun (V : World) (h : Below y0.at.heap.size y0.at V) => (show V.cell? ⟨pC, 0, none⟩ = some (.int .i64 2) ∧ V.cell? ⟨pC, 1, none⟩ = some (.int .i64 co) ∧ V.cell? ⟨pC, 2, none⟩ = some (.int .i64 rr) ∧ V.cell? ⟨pC, 3, none⟩ = some (.int .u64 aa) ∧ V.cell? ⟨pC, 4, none⟩ = some (.int .u64 vv) ∧ V.cell? ⟨pC, 5, none⟩ = some (.slice p n q) from ⟨(WR.out V h).cell 0, (WR.out V h).cell 1, (WR.out V h).cell 2, (WR.out V h).cell 3, (WR.out V h).cell 4, (WR.out V h).cell 5⟩))
      have c_0 := (WR.out _ KW.out).cell 0
      have c_1 := (WR.out _ KW.out).cell 1
      have c_2 := (WR.out _ KW.out).cell 2
      have c_3 := (WR.out _ KW.out).cell 3
      have c_4 := (WR.out _ KW.out).cell 4
      have c_5 := (WR.out _ KW.out).cell 5
      simp only [List.getElem?_cons_zero, List.getElem?_cons_succ] at c_0 c_1 c_2 c_3 c_4 c_5
      have mf_0 := RZ.out.free 0
      have mf_1 := RZ.out.free 1
      have mf_2 := RZ.out.free 2
      have mf_3 := RZ.out.free 3
      have mf_4 := RZ.out.free 4
      have mf_5 := RZ.out.free 5
      go_upto_region 6 with fail
      go_region_held3 (fun V => V.cell? ⟨pC, 0, none⟩ = some (.int .i64 2) ∧ V.cell? ⟨pC, 1, none⟩ = some (.int .i64 co) ∧ V.cell? ⟨pC, 2, none⟩ = some (.int .i64 rr) ∧ V.cell? ⟨pC, 3, none⟩ = some (.int .u64 aa) ∧ V.cell? ⟨pC, 4, none⟩ = some (.int .u64 vv) ∧ V.cell? ⟨pC, 5, none⟩ = some (.slice p n q))
        (first | (refine SS.out _ ?_; repeat' (first | (with_reducible exact Below.refl _ _) | (with_reducible exact KW.out) | (with_reducible refine KB.alloc ?_ _) | (with_reducible refine Below.drew ?_) | (with_reducible refine KB.put ?_ (by omega) _ _))))
        (fail)
      go_upto_region 9 with fail
      refine to_cls ?_
      intro U1 hU1 y1
      have RC := Lib.hid (show Row y1.at pC [.int .i64 2, .int .i64 co, .int .i64 rr, .int .u64 aa, .int .u64 vv, .slice p n q] 25 from ((WR.out _ (by
        repeat' (first | (with_reducible exact Below.refl _ _) | (with_reducible exact KW.out) | (with_reducible refine KB.alloc ?_ _) | (with_reducible refine Below.drew ?_) | (with_reducible refine KB.put ?_ (by omega) _ _)))).below hU1).below y1.bel)
      have RM := Lib.hid (show Row y1.at pM [.int .i64 2, .int .i64 0, .int .i64 0, .int .u64 aa, .int .u64 vv, .slice p n q] 25 from Row.below (Row.below (by
        repeat' (first | (with_reducible exact RZ.out) | (with_reducible exact RZ.out.drew) | exact (((RZ.out.drew).set 3 _).set 4 _) | (with_reducible refine Row.drew ?_))) hU1) y1.bel)
      have KY := Lib.hid (show Below w.heap.size w y1.at from (W0.out _ (by
        repeat' (first | (with_reducible exact Below.refl _ _) | (with_reducible exact KW.out) | (with_reducible refine KB.alloc ?_ _) | (with_reducible refine Below.drew ?_) | (with_reducible refine KB.put ?_ (by omega) _ _)))).trans ((hU1.trans (y1.bel.mono hU1.size)).mono (W0.out _ (by
        repeat' (first | (with_reducible exact Below.refl _ _) | (with_reducible exact KW.out) | (with_reducible refine KB.alloc ?_ _) | (with_reducible refine Below.drew ?_) | (with_reducible refine KB.put ?_ (by omega) _ _)))).size))
      clear hU1
      have SMC := Lib.hid (fun z : Wb y1.at => show Calls Tryd.prog 18 #[.agg #[.int .i64 2, .int .i64 0, .int .i64 0, .int .u64 aa, .int .u64 vv, .slice p n q], .agg #[.int .i64 2, .int .i64 co, .int .i64 rr, .int .u64 aa, .int .u64 vv, .slice p n q]] z.at fun e w' => e = .returned (.bool tp) ∧ Below z.at.heap.size z.at w' from
        (SA.out (.node 2 0 0 aa vv ts : Cnd) rfl (CT.out _ HZ.out) z.at (KY.out.trans (z.bel.mono KY.out.size))))
      have CA := Lib.hid (fun (j : Nat) (h : j < ts.length) (z : Wb y1.at) p3 n3 q3 hn3 hl3 => ih.out (ts[j]'h) p3 n3 q3 z.at (CN.out j h) (CB.out _ (List.getElem_mem h)) hn3 hl3)
      cases tp with
      | false =>
        have c_0 := RC.out.cell 0
        have c_1 := RC.out.cell 1
        have c_2 := RC.out.cell 2
        have c_3 := RC.out.cell 3
        have c_4 := RC.out.cell 4
        have c_5 := RC.out.cell 5
        have m_0 := RM.out.cell 0
        have m_1 := RM.out.cell 1
        have m_2 := RM.out.cell 2
        have m_3 := RM.out.cell 3
        have m_4 := RM.out.cell 4
        have m_5 := RM.out.cell 5
        simp only [List.getElem?_cons_zero, List.getElem?_cons_succ] at c_0 c_1 c_2 c_3 c_4 c_5 m_0 m_1 m_2 m_3 m_4 m_5
        go_wp2_with (go_at_call 18; refine (SMC.out ⟨y1.at, Below.refl _ _⟩).mono ?_; rintro e w9 ⟨rfl, g⟩; have G9 := Lib.hid g; clear g)
        go_ret
        have E := EF.out (by first | rfl | exact trivial)
        exact ⟨by rw [E]; rfl, KY.out.trans (G9.out.mono KY.out.size)⟩
      | true =>
        have c_0 := RC.out.cell 0
        have c_1 := RC.out.cell 1
        have c_2 := RC.out.cell 2
        have c_3 := RC.out.cell 3
        have c_4 := RC.out.cell 4
        have c_5 := RC.out.cell 5
        have m_0 := RM.out.cell 0
        have m_1 := RM.out.cell 1
        have m_2 := RM.out.cell 2
        have m_3 := RM.out.cell 3
        have m_4 := RM.out.cell 4
        have m_5 := RM.out.cell 5
        simp only [List.getElem?_cons_zero, List.getElem?_cons_succ] at c_0 c_1 c_2 c_3 c_4 c_5 m_0 m_1 m_2 m_3 m_4 m_5
        go_wp2_with (go_at_call 18; refine (SMC.out ⟨y1.at, Below.refl _ _⟩).mono ?_; rintro e w9 ⟨rfl, g⟩; obtain ⟨x9, rfl⟩ := Wb.start (W := y1.at) g; clear g)
        go_loopw [4] (fun iv wr => ∃ (j : Nat) (z : Wb y1.at), j ≤ n ∧ iv = .int .i64 (j : Int) ∧ (∀ i (h : i < ts.length), i < j → cleanB ts[i] = true) ∧ wr = z.at) (fun iv _ => n - (intOf iv).toNat)
        case atStart => exact ⟨0, x9, by omega, rfl, fun i h h3 => by omega, rfl⟩
        case round =>
          obtain ⟨j, z, hj, rfl, hall, rfl⟩ := hrel
          have HA := Lib.hid hall
          clear hall
          have j0 : (0 : Int) ≤ (j : Int) := by omega
          have KZ := Lib.hid (KY.out.trans (z.bel.mono KY.out.size))
          have c_0 := (RC.out.below z.bel).cell 0
          have c_1 := (RC.out.below z.bel).cell 1
          have c_2 := (RC.out.below z.bel).cell 2
          have c_3 := (RC.out.below z.bel).cell 3
          have c_4 := (RC.out.below z.bel).cell 4
          have c_5 := (RC.out.below z.bel).cell 5
          simp only [List.getElem?_cons_zero, List.getElem?_cons_succ] at c_0 c_1 c_2 c_3 c_4 c_5
          by_cases cj : j < n
          · have l1 : j < ts.length := by have := HN.out; omega
            have IL := Lib.hid (show j + 1 ≤ n by omega)
            have g1 : (j : Int) < (n : Int) := by omega
            have LA := HL1.out.below KZ.out
            obtain ⟨a, rfl⟩ := LA.addr j l1
            obtain ⟨p3, n3, q3, hn3, hl3, e0, e1, e2, e3, e4, e5⟩ := LA.cells j l1
            have SC := Lib.hid (CA.out j l1 z p3 n3 q3 hn3 hl3)
            obtain ⟨s, hs⟩ : ∃ s, s = cleanB (ts[j]'l1) := ⟨_, rfl⟩
            rw [← hs] at SC
            have HS := Lib.hid hs
            obtain ⟨ex0, hex0⟩ : ∃ x, x = (ts[j]'l1).k := ⟨_, rfl⟩
            rw [← hex0] at e0
            obtain ⟨ex1, hex1⟩ : ∃ x, x = (ts[j]'l1).co := ⟨_, rfl⟩
            rw [← hex1] at e1
            obtain ⟨ex2, hex2⟩ : ∃ x, x = (ts[j]'l1).r := ⟨_, rfl⟩
            rw [← hex2] at e2
            obtain ⟨ex3, hex3⟩ : ∃ x, x = (ts[j]'l1).ad := ⟨_, rfl⟩
            rw [← hex3] at e3
            obtain ⟨ex4, hex4⟩ : ∃ x, x = (ts[j]'l1).va := ⟨_, rfl⟩
            rw [← hex4] at e4
            rw [← hex0, ← hex1, ← hex2, ← hex3, ← hex4] at SC
            clear hex0 hex1 hex2 hex3 hex4 hn3 hl3 LA cj hj hs
            cases s with
            | false =>
              have E := Lib.hid (EN.out j l1 HS.out.symm)
              clear HS l1
              go_wp2_with (go_at_call 17; refine (SC.out).mono ?_; rintro e w9 ⟨rfl, g⟩; have G9 := Lib.hid g; clear g)
              go_ret
              exact ⟨by rw [E.out]; rfl, KZ.out.trans (G9.out.mono KZ.out.size)⟩
            | true =>
              have NX := Lib.hid (show ∀ i (h : i < ts.length), i < j + 1 → cleanB ts[i] = true from fun i h h3 => by
                by_cases e : i = j
                · subst e; exact HS.out.symm
                · exact HA.out i h (by omega))
              clear HS l1
              go_wp2_with (go_at_call 17; refine (SC.out).mono ?_; rintro e w9 ⟨rfl, g⟩; obtain ⟨x7, rfl⟩ := Wb.next (x := z) g; clear g)
              go_roundw
              case rel => exact ⟨j + 1, x7, IL.out, by go_num, NX.out, rfl⟩
              case measure => have := IL.out; simp [intOf] <;> omega
          · have g1 : ¬ (j : Int) < (n : Int) := by omega
            have E := Lib.hid (EY.out (by first | rfl | exact trivial) (fun i h => HA.out i h (by have := HN.out; omega)))
            clear cj hj
            go_wp2
            go_ret
            exact ⟨by rw [E.out]; rfl, KZ.out⟩
    by_cases h3 : kk = 3
    · subst h3
      have HZ := Lib.hid (show (.node 3 co 0 0 vv ts : Cnd) = .node 3 (zf 3 [1, 3] co) (zf 3 [1] rr) (zf 3 [2] aa) (zf 3 [1, 2, 3] vv) ts by simp [zf])
      have SS := Lib.hid (fun (V : World) (h : Below y0.at.heap.size y0.at V) => (show V.cell? ⟨pC, 0, none⟩ = some (.int .i64 3) ∧ V.cell? ⟨pC, 1, none⟩ = some (.int .i64 co) ∧ V.cell? ⟨pC, 2, none⟩ = some (.int .i64 rr) ∧ V.cell? ⟨pC, 3, none⟩ = some (.int .u64 aa) ∧ V.cell? ⟨pC, 4, none⟩ = some (.int .u64 vv) ∧ V.cell? ⟨pC, 5, none⟩ = some (.slice p n q) from ⟨(WR.out V h).cell 0, (WR.out V h).cell 1, (WR.out V h).cell 2, (WR.out V h).cell 3, (WR.out V h).cell 4, (WR.out V h).cell 5⟩))
      have c_0 := (WR.out _ KW.out).cell 0
      have c_1 := (WR.out _ KW.out).cell 1
      have c_2 := (WR.out _ KW.out).cell 2
      have c_3 := (WR.out _ KW.out).cell 3
      have c_4 := (WR.out _ KW.out).cell 4
      have c_5 := (WR.out _ KW.out).cell 5
      simp only [List.getElem?_cons_zero, List.getElem?_cons_succ] at c_0 c_1 c_2 c_3 c_4 c_5
      have mf_0 := RZ.out.free 0
      have mf_1 := RZ.out.free 1
      have mf_2 := RZ.out.free 2
      have mf_3 := RZ.out.free 3
      have mf_4 := RZ.out.free 4
      have mf_5 := RZ.out.free 5
      go_upto_region 8 with fail
      go_region_held3 (fun V => V.cell? ⟨pC, 0, none⟩ = some (.int .i64 3) ∧ V.cell? ⟨pC, 1, none⟩ = some (.int .i64 co) ∧ V.cell? ⟨pC, 2, none⟩ = some (.int .i64 rr) ∧ V.cell? ⟨pC, 3, none⟩ = some (.int .u64 aa) ∧ V.cell? ⟨pC, 4, none⟩ = some (.int .u64 vv) ∧ V.cell? ⟨pC, 5, none⟩ = some (.slice p n q))
        (first | (refine SS.out _ ?_; repeat' (first | (with_reducible exact Below.refl _ _) | (with_reducible exact KW.out) | (with_reducible refine KB.alloc ?_ _) | (with_reducible refine Below.drew ?_) | (with_reducible refine KB.put ?_ (by omega) _ _))))
        (fail)
      go_upto_region 9 with fail
      refine to_cls ?_
      intro U1 hU1 y1
      have RC := Lib.hid (show Row y1.at pC [.int .i64 3, .int .i64 co, .int .i64 rr, .int .u64 aa, .int .u64 vv, .slice p n q] 25 from ((WR.out _ (by
        repeat' (first | (with_reducible exact Below.refl _ _) | (with_reducible exact KW.out) | (with_reducible refine KB.alloc ?_ _) | (with_reducible refine Below.drew ?_) | (with_reducible refine KB.put ?_ (by omega) _ _)))).below hU1).below y1.bel)
      have RM := Lib.hid (show Row y1.at pM [.int .i64 3, .int .i64 co, .int .i64 0, .int .u64 0, .int .u64 vv, .slice p n q] 25 from Row.below (Row.below (by
        repeat' (first | (with_reducible exact RZ.out) | (with_reducible exact RZ.out.drew) | exact (((RZ.out.drew).set 1 _).set 4 _) | (with_reducible refine Row.drew ?_))) hU1) y1.bel)
      have KY := Lib.hid (show Below w.heap.size w y1.at from (W0.out _ (by
        repeat' (first | (with_reducible exact Below.refl _ _) | (with_reducible exact KW.out) | (with_reducible refine KB.alloc ?_ _) | (with_reducible refine Below.drew ?_) | (with_reducible refine KB.put ?_ (by omega) _ _)))).trans ((hU1.trans (y1.bel.mono hU1.size)).mono (W0.out _ (by
        repeat' (first | (with_reducible exact Below.refl _ _) | (with_reducible exact KW.out) | (with_reducible refine KB.alloc ?_ _) | (with_reducible refine Below.drew ?_) | (with_reducible refine KB.put ?_ (by omega) _ _)))).size))
      clear hU1
      have SMC := Lib.hid (fun z : Wb y1.at => show Calls Tryd.prog 18 #[.agg #[.int .i64 3, .int .i64 co, .int .i64 0, .int .u64 0, .int .u64 vv, .slice p n q], .agg #[.int .i64 3, .int .i64 co, .int .i64 rr, .int .u64 aa, .int .u64 vv, .slice p n q]] z.at fun e w' => e = .returned (.bool tp) ∧ Below z.at.heap.size z.at w' from
        (SA.out (.node 3 co 0 0 vv ts : Cnd) rfl (CT.out _ HZ.out) z.at (KY.out.trans (z.bel.mono KY.out.size))))
      have CA := Lib.hid (fun (j : Nat) (h : j < ts.length) (z : Wb y1.at) p3 n3 q3 hn3 hl3 => ih.out (ts[j]'h) p3 n3 q3 z.at (CN.out j h) (CB.out _ (List.getElem_mem h)) hn3 hl3)
      cases tp with
      | false =>
        have c_0 := RC.out.cell 0
        have c_1 := RC.out.cell 1
        have c_2 := RC.out.cell 2
        have c_3 := RC.out.cell 3
        have c_4 := RC.out.cell 4
        have c_5 := RC.out.cell 5
        have m_0 := RM.out.cell 0
        have m_1 := RM.out.cell 1
        have m_2 := RM.out.cell 2
        have m_3 := RM.out.cell 3
        have m_4 := RM.out.cell 4
        have m_5 := RM.out.cell 5
        simp only [List.getElem?_cons_zero, List.getElem?_cons_succ] at c_0 c_1 c_2 c_3 c_4 c_5 m_0 m_1 m_2 m_3 m_4 m_5
        go_wp2_with (go_at_call 18; refine (SMC.out ⟨y1.at, Below.refl _ _⟩).mono ?_; rintro e w9 ⟨rfl, g⟩; have G9 := Lib.hid g; clear g)
        go_ret
        have E := EF.out (by first | rfl | exact trivial)
        exact ⟨by rw [E]; rfl, KY.out.trans (G9.out.mono KY.out.size)⟩
      | true =>
        have c_0 := RC.out.cell 0
        have c_1 := RC.out.cell 1
        have c_2 := RC.out.cell 2
        have c_3 := RC.out.cell 3
        have c_4 := RC.out.cell 4
        have c_5 := RC.out.cell 5
        have m_0 := RM.out.cell 0
        have m_1 := RM.out.cell 1
        have m_2 := RM.out.cell 2
        have m_3 := RM.out.cell 3
        have m_4 := RM.out.cell 4
        have m_5 := RM.out.cell 5
        simp only [List.getElem?_cons_zero, List.getElem?_cons_succ] at c_0 c_1 c_2 c_3 c_4 c_5 m_0 m_1 m_2 m_3 m_4 m_5
        go_wp2_with (go_at_call 18; refine (SMC.out ⟨y1.at, Below.refl _ _⟩).mono ?_; rintro e w9 ⟨rfl, g⟩; obtain ⟨x9, rfl⟩ := Wb.start (W := y1.at) g; clear g)
        go_loopw [4] (fun iv wr => ∃ (j : Nat) (z : Wb y1.at), j ≤ n ∧ iv = .int .i64 (j : Int) ∧ (∀ i (h : i < ts.length), i < j → cleanB ts[i] = true) ∧ wr = z.at) (fun iv _ => n - (intOf iv).toNat)
        case atStart => exact ⟨0, x9, by omega, rfl, fun i h h3 => by omega, rfl⟩
        case round =>
          obtain ⟨j, z, hj, rfl, hall, rfl⟩ := hrel
          have HA := Lib.hid hall
          clear hall
          have j0 : (0 : Int) ≤ (j : Int) := by omega
          have KZ := Lib.hid (KY.out.trans (z.bel.mono KY.out.size))
          have c_0 := (RC.out.below z.bel).cell 0
          have c_1 := (RC.out.below z.bel).cell 1
          have c_2 := (RC.out.below z.bel).cell 2
          have c_3 := (RC.out.below z.bel).cell 3
          have c_4 := (RC.out.below z.bel).cell 4
          have c_5 := (RC.out.below z.bel).cell 5
          simp only [List.getElem?_cons_zero, List.getElem?_cons_succ] at c_0 c_1 c_2 c_3 c_4 c_5
          by_cases cj : j < n
          · have l1 : j < ts.length := by have := HN.out; omega
            have IL := Lib.hid (show j + 1 ≤ n by omega)
            have g1 : (j : Int) < (n : Int) := by omega
            have LA := HL1.out.below KZ.out
            obtain ⟨a, rfl⟩ := LA.addr j l1
            obtain ⟨p3, n3, q3, hn3, hl3, e0, e1, e2, e3, e4, e5⟩ := LA.cells j l1
            have SC := Lib.hid (CA.out j l1 z p3 n3 q3 hn3 hl3)
            obtain ⟨s, hs⟩ : ∃ s, s = cleanB (ts[j]'l1) := ⟨_, rfl⟩
            rw [← hs] at SC
            have HS := Lib.hid hs
            obtain ⟨ex0, hex0⟩ : ∃ x, x = (ts[j]'l1).k := ⟨_, rfl⟩
            rw [← hex0] at e0
            obtain ⟨ex1, hex1⟩ : ∃ x, x = (ts[j]'l1).co := ⟨_, rfl⟩
            rw [← hex1] at e1
            obtain ⟨ex2, hex2⟩ : ∃ x, x = (ts[j]'l1).r := ⟨_, rfl⟩
            rw [← hex2] at e2
            obtain ⟨ex3, hex3⟩ : ∃ x, x = (ts[j]'l1).ad := ⟨_, rfl⟩
            rw [← hex3] at e3
            obtain ⟨ex4, hex4⟩ : ∃ x, x = (ts[j]'l1).va := ⟨_, rfl⟩
            rw [← hex4] at e4
            rw [← hex0, ← hex1, ← hex2, ← hex3, ← hex4] at SC
            clear hex0 hex1 hex2 hex3 hex4 hn3 hl3 LA cj hj hs
            cases s with
            | false =>
              have E := Lib.hid (EN.out j l1 HS.out.symm)
              clear HS l1
              go_wp2_with (go_at_call 17; refine (SC.out).mono ?_; rintro e w9 ⟨rfl, g⟩; have G9 := Lib.hid g; clear g)
              go_ret
              exact ⟨by rw [E.out]; rfl, KZ.out.trans (G9.out.mono KZ.out.size)⟩
            | true =>
              have NX := Lib.hid (show ∀ i (h : i < ts.length), i < j + 1 → cleanB ts[i] = true from fun i h h3 => by
                by_cases e : i = j
                · subst e; exact HS.out.symm
                · exact HA.out i h (by omega))
              clear HS l1
              go_wp2_with (go_at_call 17; refine (SC.out).mono ?_; rintro e w9 ⟨rfl, g⟩; obtain ⟨x7, rfl⟩ := Wb.next (x := z) g; clear g)
              go_roundw
              case rel => exact ⟨j + 1, x7, IL.out, by go_num, NX.out, rfl⟩
              case measure => have := IL.out; simp [intOf] <;> omega
          · have g1 : ¬ (j : Int) < (n : Int) := by omega
            have E := Lib.hid (EY.out (by first | rfl | exact trivial) (fun i h => HA.out i h (by have := HN.out; omega)))
            clear cj hj
            go_wp2
            go_ret
            exact ⟨by rw [E.out]; rfl, KZ.out⟩
    have HZ := Lib.hid (show (.node kk 0 0 0 0 ts : Cnd) = .node kk (zf kk [1, 3] co) (zf kk [1] rr) (zf kk [2] aa) (zf kk [1, 2, 3] vv) ts by simp [zf, h1, h2, h3])
    have k1b : (kk == 1) = false := by simpa using h1
    have k2b : (kk == 2) = false := by simpa using h2
    have k3b : (kk == 3) = false := by simpa using h3
    clear h1 h2 h3
    have c_0 := (WR.out _ KW.out).cell 0
    have c_1 := (WR.out _ KW.out).cell 1
    have c_2 := (WR.out _ KW.out).cell 2
    have c_3 := (WR.out _ KW.out).cell 3
    have c_4 := (WR.out _ KW.out).cell 4
    have c_5 := (WR.out _ KW.out).cell 5
    simp only [List.getElem?_cons_zero, List.getElem?_cons_succ] at c_0 c_1 c_2 c_3 c_4 c_5
    go_upto_region 9 with fail
    refine to_cls ?_
    intro U1 hU1 y1
    have RC := Lib.hid (show Row y1.at pC [.int .i64 kk, .int .i64 co, .int .i64 rr, .int .u64 aa, .int .u64 vv, .slice p n q] 25 from ((WR.out _ (by
      repeat' (first | (with_reducible exact Below.refl _ _) | (with_reducible exact KW.out) | (with_reducible refine KB.alloc ?_ _) | (with_reducible refine Below.drew ?_) | (with_reducible refine KB.put ?_ (by omega) _ _)))).below hU1).below y1.bel)
    have RM := Lib.hid (show Row y1.at pM [.int .i64 kk, .int .i64 0, .int .i64 0, .int .u64 0, .int .u64 0, .slice p n q] 25 from Row.below (Row.below (by
      repeat' (first | (with_reducible exact RZ.out) | (with_reducible exact RZ.out.drew) | exact RZ.out | (with_reducible refine Row.drew ?_))) hU1) y1.bel)
    have KY := Lib.hid (show Below w.heap.size w y1.at from (W0.out _ (by
      repeat' (first | (with_reducible exact Below.refl _ _) | (with_reducible exact KW.out) | (with_reducible refine KB.alloc ?_ _) | (with_reducible refine Below.drew ?_) | (with_reducible refine KB.put ?_ (by omega) _ _)))).trans ((hU1.trans (y1.bel.mono hU1.size)).mono (W0.out _ (by
      repeat' (first | (with_reducible exact Below.refl _ _) | (with_reducible exact KW.out) | (with_reducible refine KB.alloc ?_ _) | (with_reducible refine Below.drew ?_) | (with_reducible refine KB.put ?_ (by omega) _ _)))).size))
    clear hU1
    have SMC := Lib.hid (fun z : Wb y1.at => show Calls Tryd.prog 18 #[.agg #[.int .i64 kk, .int .i64 0, .int .i64 0, .int .u64 0, .int .u64 0, .slice p n q], .agg #[.int .i64 kk, .int .i64 co, .int .i64 rr, .int .u64 aa, .int .u64 vv, .slice p n q]] z.at fun e w' => e = .returned (.bool tp) ∧ Below z.at.heap.size z.at w' from
      (SA.out (.node kk 0 0 0 0 ts : Cnd) rfl (CT.out _ HZ.out) z.at (KY.out.trans (z.bel.mono KY.out.size))))
    have CA := Lib.hid (fun (j : Nat) (h : j < ts.length) (z : Wb y1.at) p3 n3 q3 hn3 hl3 => ih.out (ts[j]'h) p3 n3 q3 z.at (CN.out j h) (CB.out _ (List.getElem_mem h)) hn3 hl3)
    cases tp with
    | false =>
      have c_0 := RC.out.cell 0
      have c_1 := RC.out.cell 1
      have c_2 := RC.out.cell 2
      have c_3 := RC.out.cell 3
      have c_4 := RC.out.cell 4
      have c_5 := RC.out.cell 5
      have m_0 := RM.out.cell 0
      have m_1 := RM.out.cell 1
      have m_2 := RM.out.cell 2
      have m_3 := RM.out.cell 3
      have m_4 := RM.out.cell 4
      have m_5 := RM.out.cell 5
      simp only [List.getElem?_cons_zero, List.getElem?_cons_succ] at c_0 c_1 c_2 c_3 c_4 c_5 m_0 m_1 m_2 m_3 m_4 m_5
      go_wp2_with (go_at_call 18; refine (SMC.out ⟨y1.at, Below.refl _ _⟩).mono ?_; rintro e w9 ⟨rfl, g⟩; have G9 := Lib.hid g; clear g)
      go_ret
      have E := EF.out (by first | rfl | exact trivial)
      exact ⟨by rw [E]; rfl, KY.out.trans (G9.out.mono KY.out.size)⟩
    | true =>
      have c_0 := RC.out.cell 0
      have c_1 := RC.out.cell 1
      have c_2 := RC.out.cell 2
      have c_3 := RC.out.cell 3
      have c_4 := RC.out.cell 4
      have c_5 := RC.out.cell 5
      have m_0 := RM.out.cell 0
      have m_1 := RM.out.cell 1
      have m_2 := RM.out.cell 2
      have m_3 := RM.out.cell 3
      have m_4 := RM.out.cell 4
      have m_5 := RM.out.cell 5
      simp only [List.getElem?_cons_zero, List.getElem?_cons_succ] at c_0 c_1 c_2 c_3 c_4 c_5 m_0 m_1 m_2 m_3 m_4 m_5
      go_wp2_with (go_at_call 18; refine (SMC.out ⟨y1.at, Below.refl _ _⟩).mono ?_; rintro e w9 ⟨rfl, g⟩; obtain ⟨x9, rfl⟩ := Wb.start (W := y1.at) g; clear g)
      go_loopw [4] (fun iv wr => ∃ (j : Nat) (z : Wb y1.at), j ≤ n ∧ iv = .int .i64 (j : Int) ∧ (∀ i (h : i < ts.length), i < j → cleanB ts[i] = true) ∧ wr = z.at) (fun iv _ => n - (intOf iv).toNat)
      case atStart => exact ⟨0, x9, by omega, rfl, fun i h h3 => by omega, rfl⟩
      case round =>
        obtain ⟨j, z, hj, rfl, hall, rfl⟩ := hrel
        have HA := Lib.hid hall
        clear hall
        have j0 : (0 : Int) ≤ (j : Int) := by omega
        have KZ := Lib.hid (KY.out.trans (z.bel.mono KY.out.size))
        have c_0 := (RC.out.below z.bel).cell 0
        have c_1 := (RC.out.below z.bel).cell 1
        have c_2 := (RC.out.below z.bel).cell 2
        have c_3 := (RC.out.below z.bel).cell 3
        have c_4 := (RC.out.below z.bel).cell 4
        have c_5 := (RC.out.below z.bel).cell 5
        simp only [List.getElem?_cons_zero, List.getElem?_cons_succ] at c_0 c_1 c_2 c_3 c_4 c_5
        by_cases cj : j < n
        · have l1 : j < ts.length := by have := HN.out; omega
          have IL := Lib.hid (show j + 1 ≤ n by omega)
          have g1 : (j : Int) < (n : Int) := by omega
          have LA := HL1.out.below KZ.out
          obtain ⟨a, rfl⟩ := LA.addr j l1
          obtain ⟨p3, n3, q3, hn3, hl3, e0, e1, e2, e3, e4, e5⟩ := LA.cells j l1
          have SC := Lib.hid (CA.out j l1 z p3 n3 q3 hn3 hl3)
          obtain ⟨s, hs⟩ : ∃ s, s = cleanB (ts[j]'l1) := ⟨_, rfl⟩
          rw [← hs] at SC
          have HS := Lib.hid hs
          obtain ⟨ex0, hex0⟩ : ∃ x, x = (ts[j]'l1).k := ⟨_, rfl⟩
          rw [← hex0] at e0
          obtain ⟨ex1, hex1⟩ : ∃ x, x = (ts[j]'l1).co := ⟨_, rfl⟩
          rw [← hex1] at e1
          obtain ⟨ex2, hex2⟩ : ∃ x, x = (ts[j]'l1).r := ⟨_, rfl⟩
          rw [← hex2] at e2
          obtain ⟨ex3, hex3⟩ : ∃ x, x = (ts[j]'l1).ad := ⟨_, rfl⟩
          rw [← hex3] at e3
          obtain ⟨ex4, hex4⟩ : ∃ x, x = (ts[j]'l1).va := ⟨_, rfl⟩
          rw [← hex4] at e4
          rw [← hex0, ← hex1, ← hex2, ← hex3, ← hex4] at SC
          clear hex0 hex1 hex2 hex3 hex4 hn3 hl3 LA cj hj hs
          cases s with
          | false =>
            have E := Lib.hid (EN.out j l1 HS.out.symm)
            clear HS l1
            go_wp2_with (go_at_call 17; refine (SC.out).mono ?_; rintro e w9 ⟨rfl, g⟩; have G9 := Lib.hid g; clear g)
            go_ret
            exact ⟨by rw [E.out]; rfl, KZ.out.trans (G9.out.mono KZ.out.size)⟩
          | true =>
            have NX := Lib.hid (show ∀ i (h : i < ts.length), i < j + 1 → cleanB ts[i] = true from fun i h h3 => by
              by_cases e : i = j
              · subst e; exact HS.out.symm
              · exact HA.out i h (by omega))
            clear HS l1
            go_wp2_with (go_at_call 17; refine (SC.out).mono ?_; rintro e w9 ⟨rfl, g⟩; obtain ⟨x7, rfl⟩ := Wb.next (x := z) g; clear g)
            go_roundw
            case rel => exact ⟨j + 1, x7, IL.out, by go_num, NX.out, rfl⟩
            case measure => have := IL.out; simp [intOf] <;> omega
        · have g1 : ¬ (j : Int) < (n : Int) := by omega
          have E := Lib.hid (EY.out (by first | rfl | exact trivial) (fun i h => HA.out i h (by have := HN.out; omega)))
          clear cj hj
          go_wp2
          go_ret
          exact ⟨by rw [E.out]; rfl, KZ.out⟩
end Go.Proofs.YtgpngjgilcbigaaDoor
