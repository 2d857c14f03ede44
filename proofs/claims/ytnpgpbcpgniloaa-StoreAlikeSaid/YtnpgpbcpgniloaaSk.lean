/-
  Layer 6, the page's lists: Cells.
-/
import Derived.Test.YtnpgpbcpgniloaaSj
set_option linter.unusedSimpArgs false
set_option linter.unusedVariables false
namespace GrS
def posL (out : List (Int × Int)) (a : Int) : Nat := (out.takeWhile (fun p => decide (p.1 < a))).length
def fndB (out : List (Int × Int)) (a : Int) : Bool := match out[posL out a]? with | some p => p.1 == a | none => false
def insC (out : List (Int × Int)) (a v : Int) : List (Int × Int) := if (v == 0 || fndB out a) = true then out else out.take (posL out a) ++ [(a, v)] ++ out.drop (posL out a)
def cellsTo (L : List (Int × Int)) (k : Nat) : List (Int × Int) := (L.take k).foldl (fun out p => insC out p.1 (readL L p.1)) []
theorem cellsTo_succ (L : List (Int × Int)) (k : Nat) (h : k < L.length) : cellsTo L (k + 1) = insC (cellsTo L k) L[k].1 (readL L L[k].1) := by
  unfold cellsTo
  rw [List.take_succ_eq_append_getElem h, List.foldl_append]
  rfl
theorem posL_le (out : List (Int × Int)) (a : Int) : posL out a ≤ out.length := (List.takeWhile_prefix _).length_le
theorem posL_eq (out : List (Int × Int)) (a : Int) (n : Nat) (hn : n ≤ out.length) (h : ∀ j (hj : j < n), (out[j]'(by omega)).1 < a) (e : ∀ (h : n < out.length), ¬ (out[n]).1 < a) : posL out a = n := by
  unfold posL
  have e1 : out = out.take n ++ out.drop n := (List.take_append_drop n out).symm
  rw [e1, List.takeWhile_append_of_pos]
  · have e2 : (out.drop n).takeWhile (fun p => decide (p.1 < a)) = [] := by
      by_cases c : n < out.length
      · rw [List.drop_eq_getElem_cons c, List.takeWhile_cons_of_neg (by simpa using e c)]
      · rw [List.drop_of_length_le (by omega)]; rfl
    rw [e2]
    simp
    omega
  · intro p hp
    obtain ⟨j, hj, rfl⟩ := List.mem_iff_getElem.1 hp
    simp at hj ⊢
    exact h j (by omega)
theorem insC_len (out : List (Int × Int)) (a v : Int) : (insC out a v).length ≤ out.length + 1 := by
  unfold insC
  split
  · omega
  · simp; have := posL_le out a; omega
theorem cellsTo_len (L : List (Int × Int)) (k : Nat) : (cellsTo L k).length ≤ k := by
  induction k with
  | zero => simp [cellsTo]
  | succ k ih =>
    by_cases h : k < L.length
    · rw [cellsTo_succ L k h]
      have := insC_len (cellsTo L k) L[k].1 (readL L L[k].1)
      omega
    · have : cellsTo L (k + 1) = cellsTo L k := by unfold cellsTo; rw [List.take_of_length_le (by omega), List.take_of_length_le (by omega)]
      rw [this]; omega
end GrS
namespace Go.Proofs.Ytnpgpbcpgniloaa
open Go.RowKit GrS

theorem cbytes : (Try.prog.info? 64).map (fun i => (i.zero, i.size, i.bytes)) = some (some (.agg #[.int .u64 0, .int .u64 0]), 2, 16) := by kernel_rfl
/-- out[:n] of an own slice is own -/
theorem own_cut {w : World} {base : Nat} {e : TypeId} {g cap n m : Nat} {xs : List Value} (h : w.ownsRow base e 2 (.slice (some ⟨g, 0, none⟩) n cap) n xs) (hm : m ≤ n) : w.ownsRow base e 2 (.slice (some ⟨g, 0, none⟩) m cap) m (xs.take (m * 2)) := by
  obtain ⟨h1, ⟨h2, _⟩ | ⟨g', c', cur, e1, hb, hg, hn, hc, hs, ht⟩⟩ := h
  · cases h2
  · injection e1 with a1 a2 a3
    injection a1 with a1
    injection a1 with a1
    subst a1 a3
    refine ⟨by simp; omega, .inr ⟨g, cap, cur, rfl, hb, hg, by omega, hc, hs, ?_⟩⟩
    rw [← ht, List.take_take]
    congr 1
    omega
theorem own_cells {w : World} {base : Nat} {e : TypeId} {g cap n : Nat} {xs : List Value} (h : w.ownsRow base e 2 (.slice (some ⟨g, 0, none⟩) n cap) n xs) : ∀ j u, xs[j]? = some u → w.cell? ⟨g, j, none⟩ = some u := by
  rcases own_open h with ⟨h1, _⟩ | ⟨g', c', e1, _, _, hx⟩
  · cases h1
  · injection e1 with a1 a2 a3
    injection a1 with a1
    injection a1 with a1
    subst a1
    exact hx
theorem own_cap {w : World} {base : Nat} {e : TypeId} {g cap n : Nat} {xs : List Value} (h : w.ownsRow base e 2 (.slice (some ⟨g, 0, none⟩) n cap) n xs) : n ≤ cap ∧ cap ≤ maxLen ∧ base ≤ g := by
  obtain ⟨h1, ⟨h2, _⟩ | ⟨g', c', cur, e1, hb, hg, hn, hc, hs, ht⟩⟩ := h
  · cases h2
  · injection e1 with a1 a2 a3
    injection a1 with a1
    injection a1 with a1
    subst a1 a3
    exact ⟨hn, hc, hb⟩
theorem app_two (w : World) (u0 u1 : Value) (T : TypeId) : ∀ j u, ([u0, u1] : List Value)[j]? = some u → (w.alloc (.cells #[u0, u1] T)).cell? ((⟨w.heap.size, 0, none⟩ : Addr).add j) = some u := by
  intro j u h
  match j, h with
  | 0, h => simp at h; subst h; simp [Addr.add, World.cell?_alloc_new]
  | 1, h => simp at h; subst h; simp [Addr.add, World.cell?_alloc_new]
  | j + 2, h => simp at h

set_option maxRecDepth 100000 in
set_option maxHeartbeats 3200000 in
theorem rcells_some (a : Addr) (n c : Nat) (L : List (Int × Int)) (w : World) (h : SlP w (.slice (some a) n c) L) (hn : n ≤ 100000) :
    Calls Try.prog 25 #[.slice (some a) n c] w fun e w' => ∃ v, e = .returned v ∧ Below w.heap.size w w' ∧ w'.ownsRow w.heap.size 64 2 v (cellsTo L n).length (cellsL (cellsTo L n)) := by
  obtain ⟨i0, hi, hz0, hz1, hz2⟩ := info_parts cbytes
  have HN := Lib.hid h.len
  have HS := Lib.hid h
  clear h
  go_enter Try.func25, Try.ntmps25
  go_wp2_with fail
  go_loopw [3, 4] (fun ov i wr => ∃ k : Nat, k ≤ n ∧ i = .int .i64 (k : Int) ∧ wr.ownsRow w.heap.size 64 2 ov (cellsTo L k).length (cellsL (cellsTo L k)) ∧ Below w.heap.size w wr) (fun _ i _ => n - (intOf i).toNat)
  case atStart => exact ⟨0, by omega, rfl, World.ownsRow_nil _ _ _ _, Below.refl _ _⟩
  case round =>
    obtain ⟨k, hk, rfl, hown, hb⟩ := hrel
    have HO := Lib.hid hown
    have HB := Lib.hid hb
    clear hown hb
    by_cases ck : k < n
    · have lk : k < L.length := by have := HN.out; omega
      have y0 := ((HS.out.below HB.out).at k lk).1
      have CT := Lib.hid (cellsTo_succ L k lk)
      have CL := Lib.hid (cellsTo_len L k)
      obtain ⟨x, hx⟩ : ∃ x, x = L[k].1 := ⟨_, rfl⟩
      rw [← hx] at y0 CT
      obtain ⟨rv, hrv⟩ : ∃ rv, rv = readL L x := ⟨_, rfl⟩
      have RD := Lib.hid (show Calls Try.prog 27 #[.slice (some a) n c, .int .u64 x] wr fun e w' => e = .returned (.int .u64 rv) ∧ Below wr.heap.size wr w' by rw [hrv]; exact rread_some a n c L x wr (HS.out.below HB.out) (by omega))
      rw [← hrv] at CT
      obtain ⟨out, hout⟩ : ∃ o, o = cellsTo L k := ⟨_, rfl⟩
      rw [← hout] at CT HO CL
      clear hx hrv hout lk
      have i0' : (0 : Int) ≤ (k : Int) := by omega
      have i1 : (k : Int) < (n : Int) := by omega
      rcases own_open HO.out with ⟨rfl, h0⟩ | ⟨g, cap, rfl, hg, hgl, hcells⟩
      · obtain rfl : out = [] := List.eq_nil_of_length_eq_zero h0
        have i9 : (0 : Int) ≤ 0 := by omega
        go_wp2_with fail
        refine RD.out.mono ?_
        rintro e w2 ⟨rfl, b2⟩
        have B2 := Lib.hid b2
        clear b2 RD y0
        go_wp2_with fail
        refine wp_loop_rounds 2 ?_
        rw [rounds_succ]
        by_cases cr : rv = 0
        · have rb : (rv == 0) = true := by simpa using cr
          have EC := Lib.hid (show cellsTo L (k + 1) = [] by rw [CT.out]; unfold insC; rw [if_pos (by simp [rb])])
          clear cr
          go_wp2
          go_roundw
          case rel => exact ⟨k + 1, by omega, by go_num, by rw [EC.out]; exact World.ownsRow_nil _ _ _ _, HB.out.trans (B2.out.mono HB.out.size)⟩
          case measure => simp [intOf]; omega
        · have rb : (rv == 0) = false := by simpa using cr
          have RZ := Lib.hid cr
          have IE := Lib.hid (show cellsTo L (k + 1) = [(x, rv)] by rw [CT.out]; unfold insC; rw [if_neg (by simp [fndB, posL, RZ.out])]; rfl)
          clear cr
          have OE := Lib.hid (show (w2.alloc (.cells #[] 64)).ownsRow w2.heap.size 64 2 (.slice (some ⟨w2.heap.size, 0, none⟩) 0 0) 0 [] from World.ownsRow_made w2 #[] 0 (Nat.le_refl _) (by unfold maxLen; omega) rfl)
          have bw := Lib.hid (show w.heap.size ≤ w2.heap.size by have := HB.out.size; have := B2.out.size; omega)
          have k2 := Lib.hid (show ∀ (T : TypeId) j u, ([.int .u64 x, .int .u64 rv] : List Value)[j]? = some u → ((w2.alloc (.cells #[] 64)).alloc (.cells #[.int .u64 x, .int .u64 rv] T)).cell? ((⟨w2.heap.size + 1, 0, none⟩ : Addr).add j) = some u from fun T j u hj => by have := app_two (w2.alloc (.cells #[] 64)) (.int .u64 x) (.int .u64 rv) T j u hj; simpa only [World.size_alloc] using this)
          have k3 := Lib.hid (show ∀ u ∈ [Value.int .u64 x, .int .u64 rv], u.oneCell' = true by simp [Value.oneCell'])
          have s5 := Lib.hid (show ∀ o : Obj, w.heap.size ≤ ((w2.alloc (.cells #[] 64)).alloc o).heap.size from fun o => by have := bw.out; simp; omega)
          go_wp2_with (at_builtin; refine wpList_append_own _ rfl (.tmp 62) (.tmp 66) 23 rfl w.heap.size 64 i0 (.agg #[.int .u64 0, .int .u64 0]) 2 16 Try.underlying23 hi hz0 hz1 hz2 rfl (by decide) _ _ _ rfl (World.ownsRow_nil _ _ _ _) ⟨w2.heap.size + 1, 0, none⟩ 1 1 [.int .u64 x, .int .u64 rv] rfl rfl (k2.out _) k3.out (by unfold maxLen; omega) (by omega) (s5.out _) ?_)
          intro v2 w5 h2 hg2 hn2
          have O5 := Lib.hid (show w5.ownsRow w.heap.size 64 2 v2 1 (cellsL [(x, rv)]) from h2)
          have B5 := Lib.hid (show Below w.heap.size w w5 from ((KB.alloc (KB.alloc (HB.out.trans (B2.out.mono HB.out.size)) _) _).grown hg2 (s5.out _) (fun k hk => by cases hk)))
          clear h2 hg2 hn2 OE
          have s6 := Lib.hid (show w.heap.size ≤ w5.heap.size from B5.out.size)
          go_wp2_with (at_builtin; refine wpList_append_own _ rfl (.tmp 68) (.tmp 69) 23 rfl w.heap.size 64 i0 (.agg #[.int .u64 0, .int .u64 0]) 2 16 Try.underlying23 hi hz0 hz1 hz2 rfl (by decide) _ _ _ rfl O5.out ⟨w2.heap.size, 0, none⟩ 0 0 [] rfl rfl (fun j u h => by simp at h) (fun u h => by simp at h) (by unfold maxLen; omega) (by omega) s6.out ?_)
          intro v3 w6 h3 hg3 _
          have O6 := Lib.hid (show w6.ownsRow w.heap.size 64 2 v3 1 (cellsL [(x, rv)]) by simpa using h3)
          have B6 := Lib.hid (show Below w.heap.size w w6 from B5.out.grown hg3 s6.out (fun k hk => (O5.out.lt k hk).1))
          clear h3 hg3
          go_wp2
          go_roundw
          case rel => exact ⟨k + 1, by omega, by go_num, by rw [IE.out]; exact O6.out, B6.out⟩
          case measure => simp [intOf]; omega
      · obtain ⟨m, hm⟩ : ∃ m, m = out.length := ⟨_, rfl⟩
        rw [← hm] at HO ⊢
        have HM := Lib.hid hm
        have mb : m ≤ 100000 := by have := CL.out; omega
        clear hm hcells hg hgl
        go_wp2_with fail
        refine RD.out.mono ?_
        rintro e w2 ⟨rfl, b2⟩
        have B2 := Lib.hid b2
        clear b2 RD y0
        go_wp2_with fail
        go_loopw [7] (fun i wr2 => ∃ j : Nat, j ≤ m ∧ i = .int .i64 (j : Int) ∧ (∀ q (hq : q < out.length), q < j → out[q].1 < x) ∧ Below w2.heap.size w2 wr2) (fun i _ => m - (intOf i).toNat)
        case atStart => exact ⟨0, by omega, rfl, fun q hq h => absurd h (by omega), Below.refl _ _⟩
        case round =>
          obtain ⟨j, hj, rfl, hlt, hb3⟩ := hrel
          have LT := Lib.hid hlt
          have B3 := Lib.hid (B2.out.trans (hb3.mono B2.out.size))
          have HO3 := Lib.hid (own_below HO.out B3.out)
          clear hlt
          have hb3k := Lib.hid (show Below w2.heap.size w2 wr from hb3)
          clear hb3
          by_cases cj : j < m
          · have lj : j < out.length := by have := HM.out; omega
            have cj0 := own_cells HO3.out (j * 2) _ (cellsL_get out j lj).1
            have PJ := Lib.hid (fun e => posL_eq out x j (Nat.le_of_lt lj) (fun q hq => LT.out q (by omega) hq) e)
            obtain ⟨⟨y, y2⟩, hy⟩ : ∃ p, p = out[j] := ⟨_, rfl⟩
            rw [← hy] at cj0
            have PY := Lib.hid (show out[j]? = some (y, y2) by rw [List.getElem?_eq_getElem lj, hy])
            have YL := Lib.hid (show ∀ q (hq : q < out.length), q < j + 1 → y < x → out[q].1 < x from fun q hq h1 h2 => by
            by_cases c : q = j
            · subst c; rw [← hy]; exact h2
            · exact LT.out q hq (by omega))
            have YN := Lib.hid (show ¬ y < x → ∀ h : j < out.length, ¬ (out[j]).1 < x from fun h _ => by rw [← hy]; exact h)
            clear hy
            have i2 : (0 : Int) ≤ (j : Int) := by omega
            have i3 : (j : Int) < (m : Int) := by omega
            have e1 : decide ((j : Int) < (m : Int)) = true := by simpa using i3
            have capm := (own_cap HO3.out).1
            have i4 : (m : Int) ≤ (cap : Int) := by omega
            clear capm
            by_cases cy : y < x
            · have ey : decide (y < x) = true := by simpa using cy
              have YY := Lib.hid (fun q hq h => YL.out q hq h cy)
              clear cy lj
              go_wp2
              go_roundw
              case rel => exact ⟨j + 1, by omega, by go_num, YY.out, hb3k.out⟩
              case measure => simp [intOf]; omega
            · have ey : decide (y < x) = false := by simpa using cy
              have PO := Lib.hid (PJ.out (YN.out cy))
              clear cy
              by_cases cr : rv = 0
              · have rb : (rv == 0) = true := by simpa using cr
                clear cr lj
                have EC := Lib.hid (show cellsTo L (k + 1) = out by rw [CT.out]; unfold insC; rw [if_pos (by simp [rb])])
                go_wp2
                go_roundw
                case rel => exact ⟨k + 1, by omega, by go_num, by rw [EC.out, ← HM.out]; exact HO3.out, HB.out.trans (B3.out.mono HB.out.size)⟩
                case measure => simp [intOf]; omega
              · by_cases cx : y = x
                · have yb : (y == x) = true := by simpa using cx
                  have FB := Lib.hid (show fndB out x = true by unfold fndB; rw [PO.out, PY.out]; exact yb)
                  have rb : (rv == 0) = false := by simpa using cr
                  clear cr cx lj
                  have EC := Lib.hid (show cellsTo L (k + 1) = out by rw [CT.out]; unfold insC; rw [if_pos (by simp [FB.out])])
                  go_wp2
                  go_roundw
                  case rel => exact ⟨k + 1, by omega, by go_num, by rw [EC.out, ← HM.out]; exact HO3.out, HB.out.trans (B3.out.mono HB.out.size)⟩
                  case measure => simp [intOf]; omega
                · have yb : (y == x) = false := by simpa using cx
                  have FB := Lib.hid (show fndB out x = false by unfold fndB; rw [PO.out, PY.out]; exact yb)
                  have rb : (rv == 0) = false := by simpa using cr
                  have RZ := Lib.hid cr
                  have ncj : ¬ cap = j := by omega
                  clear cr cx lj
                  have OC := Lib.hid (own_cap HO3.out)
                  have jm := Lib.hid (show j ≤ m by omega)
                  have q1 : (0 : Int) ≤ (j : Int) := by omega
                  have q2 : (j : Int) ≤ (m : Int) := by omega
                  have q3 : (m : Int) ≤ (cap : Int) := by have := OC.out.1; omega
                  have g2 := Lib.hid (show g < wr.heap.size from (HO3.out.lt g rfl).2)
                  have OE := Lib.hid (show (wr.alloc (.cells #[] 64)).ownsRow wr.heap.size 64 2 (.slice (some ⟨wr.heap.size, 0, none⟩) 0 0) 0 [] from World.ownsRow_made wr #[] 0 (Nat.le_refl _) (by unfold maxLen; omega) rfl)
                  have NW := Lib.hid (show ∀ i u, (cellsL (out.drop j))[i]? = some u → (wr.alloc (.cells #[] 64)).cell? ((⟨g, j * 2, none⟩ : Addr).add i) = some u from fun i u hi => by
              rw [show (⟨g, j * 2, none⟩ : Addr).add i = ⟨g, j * 2 + i, none⟩ by unfold Addr.add; split <;> simp_all]
              rw [← cellsL_drop, List.getElem?_drop] at hi
              exact (own_cells (own_below HO3.out (KB.alloc (Below.refl _ _) _))) _ _ hi)
                  have NL := Lib.hid (show (cellsL (out.drop j)).length = (m - j) * 2 by rw [cellsL_len, List.length_drop, ← HM.out])
                  have N1 := Lib.hid (cellsL_one (out.drop j))
                  have bd := Lib.hid (show m ≤ 100000 by have := CL.out; have := HM.out; omega)
                  have s1 := Lib.hid (show ∀ o : Obj, wr.heap.size ≤ (wr.alloc o).heap.size from fun o => by simp)
                  go_wp2_with (at_builtin; refine wpList_append_own _ rfl (.tmp 55) (.tmp 58) 23 rfl wr.heap.size 64 i0 (.agg #[.int .u64 0, .int .u64 0]) 2 16 Try.underlying23 hi hz0 hz1 hz2 rfl (by decide) _ _ _ rfl OE.out ⟨g, j * 2, none⟩ (m - j) (cap - j) (cellsL (out.drop j)) rfl NL.out NW.out N1.out (by have := bd.out; unfold maxLen; omega) (by have := bd.out; omega) (s1.out _) ?_)
                  intro v1 w4 h1 hg1 _
                  have OR := Lib.hid (show w4.ownsRow wr.heap.size 64 2 v1 (m - j) (cellsL (out.drop j)) by simpa using h1)
                  have B4 := Lib.hid (show Below wr.heap.size wr w4 from ((Below.refl _ _).alloc (Nat.le_refl _) _).grown hg1 (by simp) (fun k hk => by cases hk; exact Nat.le_refl _))
                  clear h1 hg1 OE NW
                  have HO4 := Lib.hid (own_below HO3.out B4.out)
                  have s4 := Lib.hid (show wr.heap.size ≤ w4.heap.size from B4.out.size)
                  have OK := Lib.hid (own_cut HO4.out jm.out)
                  rw [cellsL_take] at OK
                  have k2 := Lib.hid (app_two w4 (.int .u64 x) (.int .u64 rv))
                  have k3 := Lib.hid (show ∀ u ∈ [Value.int .u64 x, .int .u64 rv], u.oneCell' = true by simp [Value.oneCell'])
                  have s5 := Lib.hid (show ∀ o : Obj, w.heap.size ≤ (w4.alloc o).heap.size from fun o => by have := OC.out.2.2; have := g2.out; have := s4.out; simp; omega)
                  go_wp2_with (at_builtin; refine wpList_append_own _ rfl (.tmp 62) (.tmp 66) 23 rfl w.heap.size 64 i0 (.agg #[.int .u64 0, .int .u64 0]) 2 16 Try.underlying23 hi hz0 hz1 hz2 rfl (by decide) _ _ _ rfl (OK.out.alloc _) ⟨w4.heap.size, 0, none⟩ 1 1 [.int .u64 x, .int .u64 rv] rfl rfl (k2.out _) k3.out (by have := bd.out; have := jm.out; unfold maxLen; omega) (by have := bd.out; have := jm.out; omega) (s5.out _) ?_)
                  intro v2 w5 h2 hg2 hn2
                  have O5 := Lib.hid (show w5.ownsRow w.heap.size 64 2 v2 (j + 1) (cellsL (out.take j ++ [(x, rv)])) by rw [cellsL_app]; exact h2)
                  have OR5 := Lib.hid (own_keep OR.out (fun r hr hl => (hg2.block r (by simp; omega) (by intro e; injection e with e; have e2 : r = g := e; have := g2.out; omega)).trans (Below.heap_alloc _ _ _ hl)))
                  have B5 := Lib.hid (show Below w.heap.size w4 w5 from ((Below.refl _ _).alloc (by have := OC.out.2.2; have := g2.out; have := s4.out; omega) _).grown hg2 (s5.out _) (fun k hk => by cases hk; exact OC.out.2.2))
                  clear h2 hg2 hn2 OR
                  rcases own_open OR5.out with ⟨rfl, hz⟩ | ⟨r, rc, rfl, hr, hrl, hrc⟩
                  · have IE := Lib.hid (show cellsTo L (k + 1) = out.take j ++ [(x, rv)] ++ out.drop j by rw [CT.out]; unfold insC; rw [if_neg (by rw [FB.out]; simpa using RZ.out), PO.out])
                    have DE := Lib.hid (show out.drop j = [] from List.drop_of_length_le (by have := HM.out; omega))
                    go_wp2_with (at_builtin; refine wpList_append_own_none rfl (.tmp 68) (.tmp 69) 23 rfl w.heap.size 64 i0 2 Try.underlying23 hi _ _ _ rfl O5.out rfl ?_)
                    go_wp2
                    go_roundw
                    case rel => exact ⟨k + 1, by omega, by go_num, by rw [IE.out, DE.out, List.append_nil, show (out.take j ++ [(x, rv)]).length = j + 1 by simp; have := HM.out; omega]; exact O5.out, HB.out.trans ((B3.out.mono HB.out.size).trans (((B4.out.mono (by have := B2.out.size; have := B3.out.size; have := HB.out.size; omega))).trans B5.out))⟩
                    case measure => simp [intOf]; omega
                  · have IE := Lib.hid (show cellsTo L (k + 1) = out.take j ++ [(x, rv)] ++ out.drop j by rw [CT.out]; unfold insC; rw [if_neg (by rw [FB.out]; simpa using RZ.out), PO.out])
                    have HC := Lib.hid (show ∀ i u, (cellsL (out.drop j))[i]? = some u → w5.cell? ((⟨r, 0, none⟩ : Addr).add i) = some u from fun i u hi => by rw [show (⟨r, 0, none⟩ : Addr).add i = ⟨r, i, none⟩ by unfold Addr.add; split <;> simp_all]; exact hrc i u hi)
                    have s6 := Lib.hid (show w.heap.size ≤ w5.heap.size by have := OC.out.2.2; have := g2.out; have := s4.out; have := B5.out.size; omega)
                    clear hr hrl hrc
                    go_wp2_with (at_builtin; refine wpList_append_own _ rfl (.tmp 68) (.tmp 69) 23 rfl w.heap.size 64 i0 (.agg #[.int .u64 0, .int .u64 0]) 2 16 Try.underlying23 hi hz0 hz1 hz2 rfl (by decide) _ _ _ rfl O5.out ⟨r, 0, none⟩ (m - j) rc (cellsL (out.drop j)) rfl NL.out HC.out N1.out (by have := bd.out; have := jm.out; unfold maxLen; omega) (by have := bd.out; have := jm.out; omega) s6.out ?_)
                    intro v3 w6 h3 hg3 _
                    have O6 := Lib.hid (show w6.ownsRow w.heap.size 64 2 v3 (j + 1 + (m - j)) (cellsL (out.take j ++ [(x, rv)] ++ out.drop j)) by rw [cellsL_app]; exact h3)
                    have B6 := Lib.hid (show Below w.heap.size w5 w6 from (Below.refl _ _).grown hg3 s6.out (fun k hk => (O5.out.lt k hk).1))
                    clear h3 hg3
                    go_wp2
                    go_roundw
                    case rel => exact ⟨k + 1, by omega, by go_num, by rw [IE.out, show (out.take j ++ [(x, rv)] ++ out.drop j).length = j + 1 + (m - j) by simp; have := HM.out; omega]; exact O6.out, HB.out.trans ((B3.out.mono HB.out.size).trans (((B4.out.mono (by have := B2.out.size; have := B3.out.size; have := HB.out.size; omega))).trans (B5.out.trans B6.out)))⟩
                    case measure => simp [intOf]; omega
          · obtain rfl : m = j := by omega
            have PO := Lib.hid (posL_eq out x m (by have := HM.out; omega) (fun q hq => LT.out q (by have := HM.out; omega) hq) (fun h => absurd h (by have := HM.out; omega)))
            have FB := Lib.hid (show fndB out x = false by unfold fndB; rw [PO.out, List.getElem?_eq_none (by have := HM.out; omega)])
            have e1 : decide ((m : Int) < (m : Int)) = false := by simp
            by_cases cr : rv = 0
            · have rb : (rv == 0) = true := by simpa using cr
              clear cr
              have EC := Lib.hid (show cellsTo L (k + 1) = out by rw [CT.out]; unfold insC; rw [if_pos (by simp [rb])])
              go_wp2
              go_roundw
              case rel => exact ⟨k + 1, by omega, by go_num, by rw [EC.out, ← HM.out]; exact HO3.out, HB.out.trans (B3.out.mono HB.out.size)⟩
              case measure => simp [intOf]; omega
            · have rb : (rv == 0) = false := by simpa using cr
              have RZ := Lib.hid cr
              clear cr
              by_cases ncj : m = cap
              · subst ncj
                have OC := Lib.hid (own_cap HO3.out)
                have jm := Lib.hid (show m ≤ m by omega)
                have q1 : (0 : Int) ≤ (m : Int) := by omega
                have q2 : (m : Int) ≤ (m : Int) := by omega
                have q3 : (m : Int) ≤ (m : Int) := by have := OC.out.1; omega
                have g2 := Lib.hid (show g < wr.heap.size from (HO3.out.lt g rfl).2)
                have OE := Lib.hid (show (wr.alloc (.cells #[] 64)).ownsRow wr.heap.size 64 2 (.slice (some ⟨wr.heap.size, 0, none⟩) 0 0) 0 [] from World.ownsRow_made wr #[] 0 (Nat.le_refl _) (by unfold maxLen; omega) rfl)
                have NW := Lib.hid (show ∀ i u, (cellsL (out.drop m))[i]? = some u → (wr.alloc (.cells #[] 64)).cell? ((⟨g, 0, none⟩ : Addr).add i) = some u from fun i u hi => by rw [show out.drop m = [] from List.drop_of_length_le (by have := HM.out; omega)] at hi; simp [cellsL] at hi)
                have NL := Lib.hid (show (cellsL (out.drop m)).length = 0 * 2 by rw [cellsL_len, List.length_drop, ← HM.out]; omega)
                have N1 := Lib.hid (cellsL_one (out.drop m))
                have bd := Lib.hid (show m ≤ 100000 by have := CL.out; have := HM.out; omega)
                have s1 := Lib.hid (show ∀ o : Obj, wr.heap.size ≤ (wr.alloc o).heap.size from fun o => by simp)
                go_wp2_with (at_builtin; refine wpList_append_own _ rfl (.tmp 55) (.tmp 58) 23 rfl wr.heap.size 64 i0 (.agg #[.int .u64 0, .int .u64 0]) 2 16 Try.underlying23 hi hz0 hz1 hz2 rfl (by decide) _ _ _ rfl OE.out ⟨g, 0, none⟩ 0 0 (cellsL (out.drop m)) rfl NL.out NW.out N1.out (by have := bd.out; unfold maxLen; omega) (by have := bd.out; omega) (s1.out _) ?_)
                intro v1 w4 h1 hg1 _
                have OR := Lib.hid (show w4.ownsRow wr.heap.size 64 2 v1 0 (cellsL (out.drop m)) by simpa using h1)
                have B4 := Lib.hid (show Below wr.heap.size wr w4 from ((Below.refl _ _).alloc (Nat.le_refl _) _).grown hg1 (by simp) (fun k hk => by cases hk; exact Nat.le_refl _))
                clear h1 hg1 OE NW
                have HO4 := Lib.hid (own_below HO3.out B4.out)
                have s4 := Lib.hid (show wr.heap.size ≤ w4.heap.size from B4.out.size)
                have OK := Lib.hid (own_cut HO4.out jm.out)
                rw [cellsL_take] at OK
                have k2 := Lib.hid (app_two w4 (.int .u64 x) (.int .u64 rv))
                have k3 := Lib.hid (show ∀ u ∈ [Value.int .u64 x, .int .u64 rv], u.oneCell' = true by simp [Value.oneCell'])
                have s5 := Lib.hid (show ∀ o : Obj, w.heap.size ≤ (w4.alloc o).heap.size from fun o => by have := OC.out.2.2; have := g2.out; have := s4.out; simp; omega)
                go_wp2_with (at_builtin; refine wpList_append_own _ rfl (.tmp 62) (.tmp 66) 23 rfl w.heap.size 64 i0 (.agg #[.int .u64 0, .int .u64 0]) 2 16 Try.underlying23 hi hz0 hz1 hz2 rfl (by decide) _ _ _ rfl (OK.out.alloc _) ⟨w4.heap.size, 0, none⟩ 1 1 [.int .u64 x, .int .u64 rv] rfl rfl (k2.out _) k3.out (by have := bd.out; have := jm.out; unfold maxLen; omega) (by have := bd.out; have := jm.out; omega) (s5.out _) ?_)
                intro v2 w5 h2 hg2 hn2
                have O5 := Lib.hid (show w5.ownsRow w.heap.size 64 2 v2 (m + 1) (cellsL (out.take m ++ [(x, rv)])) by rw [cellsL_app]; exact h2)
                have OR5 := Lib.hid (own_keep OR.out (fun r hr hl => (hg2.block r (by simp; omega) (by intro e; injection e with e; have e2 : r = g := e; have := g2.out; omega)).trans (Below.heap_alloc _ _ _ hl)))
                have B5 := Lib.hid (show Below w.heap.size w4 w5 from ((Below.refl _ _).alloc (by have := OC.out.2.2; have := g2.out; have := s4.out; omega) _).grown hg2 (s5.out _) (fun k hk => by cases hk; exact OC.out.2.2))
                clear h2 hg2 hn2 OR
                rcases own_open OR5.out with ⟨rfl, hz⟩ | ⟨r, rc, rfl, hr, hrl, hrc⟩
                · have IE := Lib.hid (show cellsTo L (k + 1) = out.take m ++ [(x, rv)] ++ out.drop m by rw [CT.out]; unfold insC; rw [if_neg (by rw [FB.out]; simpa using RZ.out), PO.out])
                  have DE := Lib.hid (show out.drop m = [] from List.drop_of_length_le (by have := HM.out; omega))
                  go_wp2_with (at_builtin; refine wpList_append_own_none rfl (.tmp 68) (.tmp 69) 23 rfl w.heap.size 64 i0 2 Try.underlying23 hi _ _ _ rfl O5.out rfl ?_)
                  go_wp2
                  go_roundw
                  case rel => exact ⟨k + 1, by omega, by go_num, by rw [IE.out, DE.out, List.append_nil, show (out.take m ++ [(x, rv)]).length = m + 1 by simp; have := HM.out; omega]; exact O5.out, HB.out.trans ((B3.out.mono HB.out.size).trans (((B4.out.mono (by have := B2.out.size; have := B3.out.size; have := HB.out.size; omega))).trans B5.out))⟩
                  case measure => simp [intOf]; omega
                · have IE := Lib.hid (show cellsTo L (k + 1) = out.take m ++ [(x, rv)] ++ out.drop m by rw [CT.out]; unfold insC; rw [if_neg (by rw [FB.out]; simpa using RZ.out), PO.out])
                  have HC := Lib.hid (show ∀ i u, (cellsL (out.drop m))[i]? = some u → w5.cell? ((⟨r, 0, none⟩ : Addr).add i) = some u from fun i u hi => by rw [show (⟨r, 0, none⟩ : Addr).add i = ⟨r, i, none⟩ by unfold Addr.add; split <;> simp_all]; exact hrc i u hi)
                  have s6 := Lib.hid (show w.heap.size ≤ w5.heap.size by have := OC.out.2.2; have := g2.out; have := s4.out; have := B5.out.size; omega)
                  clear hr hrl hrc
                  go_wp2_with (at_builtin; refine wpList_append_own _ rfl (.tmp 68) (.tmp 69) 23 rfl w.heap.size 64 i0 (.agg #[.int .u64 0, .int .u64 0]) 2 16 Try.underlying23 hi hz0 hz1 hz2 rfl (by decide) _ _ _ rfl O5.out ⟨r, 0, none⟩ 0 rc (cellsL (out.drop m)) rfl NL.out HC.out N1.out (by have := bd.out; have := jm.out; unfold maxLen; omega) (by have := bd.out; have := jm.out; omega) s6.out ?_)
                  intro v3 w6 h3 hg3 _
                  have O6 := Lib.hid (show w6.ownsRow w.heap.size 64 2 v3 (m + 1 + 0) (cellsL (out.take m ++ [(x, rv)] ++ out.drop m)) by rw [cellsL_app]; exact h3)
                  have B6 := Lib.hid (show Below w.heap.size w5 w6 from (Below.refl _ _).grown hg3 s6.out (fun k hk => (O5.out.lt k hk).1))
                  clear h3 hg3
                  go_wp2
                  go_roundw
                  case rel => exact ⟨k + 1, by omega, by go_num, by rw [IE.out, show (out.take m ++ [(x, rv)] ++ out.drop m).length = m + 1 + 0 by simp; have := HM.out; omega]; exact O6.out, HB.out.trans ((B3.out.mono HB.out.size).trans (((B4.out.mono (by have := B2.out.size; have := B3.out.size; have := HB.out.size; omega))).trans (B5.out.trans B6.out)))⟩
                  case measure => simp [intOf]; omega
              · have ncj2 : ¬ cap = m := fun e => ncj e.symm
                have OC := Lib.hid (own_cap HO3.out)
                have jm := Lib.hid (show m ≤ m by omega)
                have q1 : (0 : Int) ≤ (m : Int) := by omega
                have q2 : (m : Int) ≤ (m : Int) := by omega
                have q3 : (m : Int) ≤ (cap : Int) := by have := OC.out.1; omega
                have g2 := Lib.hid (show g < wr.heap.size from (HO3.out.lt g rfl).2)
                have OE := Lib.hid (show (wr.alloc (.cells #[] 64)).ownsRow wr.heap.size 64 2 (.slice (some ⟨wr.heap.size, 0, none⟩) 0 0) 0 [] from World.ownsRow_made wr #[] 0 (Nat.le_refl _) (by unfold maxLen; omega) rfl)
                have NW := Lib.hid (show ∀ i u, (cellsL (out.drop m))[i]? = some u → (wr.alloc (.cells #[] 64)).cell? ((⟨g, m * 2, none⟩ : Addr).add i) = some u from fun i u hi => by rw [show out.drop m = [] from List.drop_of_length_le (by have := HM.out; omega)] at hi; simp [cellsL] at hi)
                have NL := Lib.hid (show (cellsL (out.drop m)).length = 0 * 2 by rw [cellsL_len, List.length_drop, ← HM.out]; omega)
                have N1 := Lib.hid (cellsL_one (out.drop m))
                have bd := Lib.hid (show m ≤ 100000 by have := CL.out; have := HM.out; omega)
                have s1 := Lib.hid (show ∀ o : Obj, wr.heap.size ≤ (wr.alloc o).heap.size from fun o => by simp)
                go_wp2_with (at_builtin; refine wpList_append_own _ rfl (.tmp 55) (.tmp 58) 23 rfl wr.heap.size 64 i0 (.agg #[.int .u64 0, .int .u64 0]) 2 16 Try.underlying23 hi hz0 hz1 hz2 rfl (by decide) _ _ _ rfl OE.out ⟨g, m * 2, none⟩ 0 (cap - m) (cellsL (out.drop m)) rfl NL.out NW.out N1.out (by have := bd.out; unfold maxLen; omega) (by have := bd.out; omega) (s1.out _) ?_)
                intro v1 w4 h1 hg1 _
                have OR := Lib.hid (show w4.ownsRow wr.heap.size 64 2 v1 0 (cellsL (out.drop m)) by simpa using h1)
                have B4 := Lib.hid (show Below wr.heap.size wr w4 from ((Below.refl _ _).alloc (Nat.le_refl _) _).grown hg1 (by simp) (fun k hk => by cases hk; exact Nat.le_refl _))
                clear h1 hg1 OE NW
                have HO4 := Lib.hid (own_below HO3.out B4.out)
                have s4 := Lib.hid (show wr.heap.size ≤ w4.heap.size from B4.out.size)
                have OK := Lib.hid (own_cut HO4.out jm.out)
                rw [cellsL_take] at OK
                have k2 := Lib.hid (app_two w4 (.int .u64 x) (.int .u64 rv))
                have k3 := Lib.hid (show ∀ u ∈ [Value.int .u64 x, .int .u64 rv], u.oneCell' = true by simp [Value.oneCell'])
                have s5 := Lib.hid (show ∀ o : Obj, w.heap.size ≤ (w4.alloc o).heap.size from fun o => by have := OC.out.2.2; have := g2.out; have := s4.out; simp; omega)
                go_wp2_with (at_builtin; refine wpList_append_own _ rfl (.tmp 62) (.tmp 66) 23 rfl w.heap.size 64 i0 (.agg #[.int .u64 0, .int .u64 0]) 2 16 Try.underlying23 hi hz0 hz1 hz2 rfl (by decide) _ _ _ rfl (OK.out.alloc _) ⟨w4.heap.size, 0, none⟩ 1 1 [.int .u64 x, .int .u64 rv] rfl rfl (k2.out _) k3.out (by have := bd.out; have := jm.out; unfold maxLen; omega) (by have := bd.out; have := jm.out; omega) (s5.out _) ?_)
                intro v2 w5 h2 hg2 hn2
                have O5 := Lib.hid (show w5.ownsRow w.heap.size 64 2 v2 (m + 1) (cellsL (out.take m ++ [(x, rv)])) by rw [cellsL_app]; exact h2)
                have OR5 := Lib.hid (own_keep OR.out (fun r hr hl => (hg2.block r (by simp; omega) (by intro e; injection e with e; have e2 : r = g := e; have := g2.out; omega)).trans (Below.heap_alloc _ _ _ hl)))
                have B5 := Lib.hid (show Below w.heap.size w4 w5 from ((Below.refl _ _).alloc (by have := OC.out.2.2; have := g2.out; have := s4.out; omega) _).grown hg2 (s5.out _) (fun k hk => by cases hk; exact OC.out.2.2))
                clear h2 hg2 hn2 OR
                rcases own_open OR5.out with ⟨rfl, hz⟩ | ⟨r, rc, rfl, hr, hrl, hrc⟩
                · have IE := Lib.hid (show cellsTo L (k + 1) = out.take m ++ [(x, rv)] ++ out.drop m by rw [CT.out]; unfold insC; rw [if_neg (by rw [FB.out]; simpa using RZ.out), PO.out])
                  have DE := Lib.hid (show out.drop m = [] from List.drop_of_length_le (by have := HM.out; omega))
                  go_wp2_with (at_builtin; refine wpList_append_own_none rfl (.tmp 68) (.tmp 69) 23 rfl w.heap.size 64 i0 2 Try.underlying23 hi _ _ _ rfl O5.out rfl ?_)
                  go_wp2
                  go_roundw
                  case rel => exact ⟨k + 1, by omega, by go_num, by rw [IE.out, DE.out, List.append_nil, show (out.take m ++ [(x, rv)]).length = m + 1 by simp; have := HM.out; omega]; exact O5.out, HB.out.trans ((B3.out.mono HB.out.size).trans (((B4.out.mono (by have := B2.out.size; have := B3.out.size; have := HB.out.size; omega))).trans B5.out))⟩
                  case measure => simp [intOf]; omega
                · have IE := Lib.hid (show cellsTo L (k + 1) = out.take m ++ [(x, rv)] ++ out.drop m by rw [CT.out]; unfold insC; rw [if_neg (by rw [FB.out]; simpa using RZ.out), PO.out])
                  have HC := Lib.hid (show ∀ i u, (cellsL (out.drop m))[i]? = some u → w5.cell? ((⟨r, 0, none⟩ : Addr).add i) = some u from fun i u hi => by rw [show (⟨r, 0, none⟩ : Addr).add i = ⟨r, i, none⟩ by unfold Addr.add; split <;> simp_all]; exact hrc i u hi)
                  have s6 := Lib.hid (show w.heap.size ≤ w5.heap.size by have := OC.out.2.2; have := g2.out; have := s4.out; have := B5.out.size; omega)
                  clear hr hrl hrc
                  go_wp2_with (at_builtin; refine wpList_append_own _ rfl (.tmp 68) (.tmp 69) 23 rfl w.heap.size 64 i0 (.agg #[.int .u64 0, .int .u64 0]) 2 16 Try.underlying23 hi hz0 hz1 hz2 rfl (by decide) _ _ _ rfl O5.out ⟨r, 0, none⟩ 0 rc (cellsL (out.drop m)) rfl NL.out HC.out N1.out (by have := bd.out; have := jm.out; unfold maxLen; omega) (by have := bd.out; have := jm.out; omega) s6.out ?_)
                  intro v3 w6 h3 hg3 _
                  have O6 := Lib.hid (show w6.ownsRow w.heap.size 64 2 v3 (m + 1 + 0) (cellsL (out.take m ++ [(x, rv)] ++ out.drop m)) by rw [cellsL_app]; exact h3)
                  have B6 := Lib.hid (show Below w.heap.size w5 w6 from (Below.refl _ _).grown hg3 s6.out (fun k hk => (O5.out.lt k hk).1))
                  clear h3 hg3
                  go_wp2
                  go_roundw
                  case rel => exact ⟨k + 1, by omega, by go_num, by rw [IE.out, show (out.take m ++ [(x, rv)] ++ out.drop m).length = m + 1 + 0 by simp; have := HM.out; omega]; exact O6.out, HB.out.trans ((B3.out.mono HB.out.size).trans (((B4.out.mono (by have := B2.out.size; have := B3.out.size; have := HB.out.size; omega))).trans (B5.out.trans B6.out)))⟩
                  case measure => simp [intOf]; omega
    · obtain rfl : n = k := by omega
      go_wp2
      go_ret
      exact ⟨_, rfl, HB.out, HO.out⟩
end Go.Proofs.Ytnpgpbcpgniloaa
