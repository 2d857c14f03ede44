/-
  Layer 5, the walks: the page's Set.
-/
import Derived.Test.YtnehdgapcgbdeaaGp
set_option linter.unusedSimpArgs false
set_option linter.unusedVariables false
namespace Go.Proofs.Ytnehdgapcgbdeaa
open Go.RowKit
theorem UAt.set {w : World} {b : Nat} {zs : List Int} (h : UAt w b zs) (n : Nat) (v : Int) : UAt (w.setCell ⟨b, n, none⟩ (.int .u64 v)) b (zs.set n v) := fun j hj => by
  simp only [List.length_set] at hj
  by_cases e : n = j
  · subst e
    rw [World.cell?_setCell_same _ _ _ (h n hj), List.getD_eq_getElem?_getD, List.getElem?_set_self hj]
    rfl
  · rw [World.cell?_setCell_other _ _ _ _ (fun c => e (congrArg Addr.off c)), h j hj, List.getD_eq_getElem?_getD, List.getD_eq_getElem?_getD, List.getElem?_set_ne e]
def PSetPost (X : List Int) (s : Bool) (sv : Value) (w : World) (e : Ending) (w' : World) : Prop := ∃ v, e = .returned (.agg #[v, .bool s, sv]) ∧ UV w' v X ∧ Fresh w v ∧ Below w.heap.size w w'
/-- what the page's Set keeps: its box, its result's box -/
structure PS (w wr : World) (v : Value) (s : Bool) (sv : Value) : Prop where
  box : wr.heap[w.heap.size]? = some (.cells #[v, .bool s, sv] 38 (0, 0))
  res : wr.heap[w.heap.size + 1]? = some (.cells #[.slice none 0 0, .bool false, .slice none 0 0] 38 (0, 0))
  bel : Below w.heap.size w wr
  size : w.heap.size + 2 ≤ wr.heap.size
theorem PS.grown {w wr w1 : World} {v : Value} {s : Bool} {sv : Value} {row : Option Nat} {o : Obj} (h : PS w wr v s sv) (hg : (wr.alloc o).grownBy w1 row) (hr : row = some wr.heap.size) : PS w w1 v s sv := by
  have keep : ∀ k, k < w.heap.size + 2 → w1.heap[k]? = wr.heap[k]? := fun k hk => by
    rw [hg.block k (by have := h.size; simp; omega) (fun e => by rw [hr] at e; have := Option.some.inj e; have := h.size; omega)]
    exact Below.heap_alloc _ _ _ (by have := h.size; omega)
  refine ⟨(keep _ (by omega)).trans h.box, (keep _ (by omega)).trans h.res, ?_, ?_⟩
  · exact (h.bel.alloc h.bel.size o).grown hg (by have := h.bel.size; simp; omega) (fun k e => by rw [hr] at e; have := Option.some.inj e; have := h.bel.size; omega)
  · have := hg.size
    have := h.size
    simp at *
    omega

theorem own_31 {w : World} {base : Nat} {v : Value} (X : List Int) (hl : X.length = 31) {xs : List Value} {n : Nat} (h : w.ownsRow base 30 1 v (n + 31) (xs ++ X.map (Value.int .u64))) (hn : n = 0 := by rfl) (hx : xs = [] := by rfl) :
    ∃ g cap cur, v = .slice (some ⟨g, 0, none⟩) 31 cap ∧ base ≤ g ∧ w.heap[g]? = some (.cells cur 30 (0, 0)) ∧ UAt w g X := by
  subst hn hx
  simp only [Nat.zero_add, List.nil_append] at h
  have ho : OwnU w base v X := by unfold OwnU; rw [hl]; exact h
  rcases ho.opened with ⟨_, e⟩ | ⟨g, cap, e, hb, ha⟩
  · rw [e] at hl; cases hl
  · obtain ⟨_, ⟨e2, _⟩ | ⟨g2, cap2, cur, e2, _, hh, _⟩⟩ := h
    · rw [e2] at e; cases e
    · rw [e2] at e
      injection e with h1 h2 h3
      injection h1 with h1
      injection h1 with h1
      subst h1
      exact ⟨g2, cap2, cur, e2, hb, hh, ha⟩

set_option maxHeartbeats 3200000 in
theorem pset_any (v : Value) (s : Bool) (sp : Option Addr) (sl sc : Nat) (X : List Int) (n val : Int) (w : World) (h : UV w v X) :
    Calls Try.prog 29 #[.agg #[v, .bool s, .slice sp sl sc], .int .i64 n, .int .u64 val] w (PSetPost (GrG.setL X n val) s (.slice sp sl sc) w) := by
  obtain ⟨i0, hi, hz0, hz1, hz2⟩ := info_parts info_u64
  obtain ⟨hl, g, cap, rfl, ha⟩ := h
  have HL := Lib.hid hl
  have HA := Lib.hid ha
  have E := Lib.hid (show GrG.setL X n val = if GrG.inR n = true then X.set n.toNat val else X from rfl)
  obtain ⟨Y, hY⟩ : ∃ Y, Y = GrG.setL X n val := ⟨_, rfl⟩
  rw [← hY] at E ⊢
  clear hl ha hY
  by_cases c0 : n < 0
  · have d0 : decide (0 ≤ n) = false := by simp; omega
    have R := Lib.hid (show Y = X by rw [E.out, if_neg (by simp [GrG.inR]; omega)])
    clear E
    go_enter Try.func29, Try.ntmps29
    go_upto_region 1 with fail
    obtain ⟨W2, hW2⟩ : ∃ W, W = (w.alloc (.cells #[.slice (some ⟨g, 0, none⟩) 31 cap, .bool s, .slice sp sl sc] 38)).alloc (.cells #[.slice none 0 0, .bool false, .slice none 0 0] 38) := ⟨_, rfl⟩
    have S2 := Lib.hid (show PS w W2 (.slice (some ⟨g, 0, none⟩) 31 cap) s (.slice sp sl sc) by
      rw [hW2]
      exact ⟨heap_alloc2_old w _ _, heap_alloc2_new w _ _, ((Below.refl _ _).alloc (Nat.le_refl _) _).alloc (by simp) _, by simp⟩)
    rw [← hW2]
    clear hW2
    have c0 : (W2.alloc (.cells #[] 30)).cell? ⟨w.heap.size, 0, none⟩ = some (.slice (some ⟨g, 0, none⟩) 31 cap) := by
      rw [((Below.refl _ W2).alloc (Nat.le_refl _) _).cell (p := ⟨w.heap.size, 0, none⟩) (by have := S2.out.size; simp; omega), cell_of_row W2 w.heap.size 0 _ _ _ S2.out.box]
      rfl
    have HA2 := Lib.hid (HA.out.keep S2.out.bel)
    have n1 := Lib.hid (show (X.map (Value.int .u64)).length = 31 * 1 by simp [HL.out])
    have n2 := Lib.hid (show ∀ (o : Obj) j u, (X.map (Value.int .u64))[j]? = some u → (W2.alloc o).cell? ((⟨g, 0, none⟩ : Addr).add j) = some u from fun o j u hju => by
      rw [List.getElem?_map] at hju
      have hj : j < X.length := by
        by_cases c : j < X.length
        · exact c
        · rw [List.getElem?_eq_none (by omega)] at hju; cases hju
      have hc := (HA2.out.keep ((Below.refl _ _).alloc (Nat.le_refl _) o)) j hj
      have e : (⟨g, 0, none⟩ : Addr).add j = ⟨g, j, none⟩ := by unfold Addr.add; split <;> simp_all
      rw [e, hc, ← hju, List.getElem?_eq_getElem hj, List.getD_eq_getElem?_getD, List.getElem?_eq_getElem hj]
      rfl)
    have n3 := Lib.hid (show ∀ u ∈ X.map (Value.int .u64), u.oneCell' = true from fun u hu => by obtain ⟨a, _, rfl⟩ := List.mem_map.1 hu; rfl)
    have n6 := Lib.hid (show ∀ o : Obj, w.heap.size + 2 ≤ (W2.alloc o).heap.size from fun o => by have := S2.out.size; simp; omega)
    go_wp2_with (at_builtin; refine wpList_append_own _ rfl (.tmp 8) (.tmp 10) 29 rfl (w.heap.size + 2) 30 i0 (.int .u64 0) 1 8 Try.underlying29 hi hz0 hz1 hz2 rfl (by decide) _ _ _ rfl (World.ownsRow_made W2 #[] 0 S2.out.size (by unfold maxLen; omega) rfl) ⟨g, 0, none⟩ 31 cap (X.map (Value.int .u64)) rfl n1.out (n2.out _) n3.out (by unfold maxLen; omega) (by omega) (n6.out _) ?_)
    intro v1 w4 h1 hg1 _
    have S4 := Lib.hid (S2.out.grown hg1 rfl)
    obtain ⟨g1, cap1, cur1, rfl, hb1, hh1, hA1⟩ := own_31 X HL.out h1
    have G1 := Lib.hid hb1
    have HH1 := Lib.hid hh1
    have UA1 := Lib.hid hA1
    have LT1 := Lib.hid (show w.heap.size < w4.heap.size by have := S4.out.size; omega)
    clear h1 hg1 hb1 hh1 hA1 c0
    have b0 := cell_of_row w4 w.heap.size 0 _ _ _ S4.out.box
    have b1 := cell_of_row w4 w.heap.size 1 _ _ _ S4.out.box
    have b2 := cell_of_row w4 w.heap.size 2 _ _ _ S4.out.box
    have p0 := frozen_of_row w4 w.heap.size 0 _ _ S4.out.box
    have r0 := cell_of_row w4 (w.heap.size + 1) 0 _ _ _ S4.out.res
    have r1 := cell_of_row w4 (w.heap.size + 1) 1 _ _ _ S4.out.res
    have r2 := cell_of_row w4 (w.heap.size + 1) 2 _ _ _ S4.out.res
    have q0 := frozen_of_row w4 (w.heap.size + 1) 0 _ _ S4.out.res
    have q1 := frozen_of_row w4 (w.heap.size + 1) 1 _ _ S4.out.res
    have q2 := frozen_of_row w4 (w.heap.size + 1) 2 _ _ S4.out.res
    simp only [List.getElem?_toArray, List.getElem?_cons_zero, List.getElem?_cons_succ] at b0 b1 b2 r0 r1 r2
    go_wp2
    refine bodyPost_ret (v := .agg #[.slice (some ⟨g1, 0, none⟩) 31 cap1, .bool s, .slice sp sl sc]) (by simp [results, Try.results29, go_sem, *]) rfl ⟨_, rfl, ⟨by rw [R.out]; exact HL.out, g1, cap1, rfl, ?_⟩, fun k hk => by have := G1.out; cases hk; show w.heap.size ≤ g1; omega, ?_⟩
    · rw [R.out]
      exact (((UA1.out.other (Only.set _ _) (by have := G1.out; omega)).other (Only.set _ _) (by have := G1.out; omega)).other (Only.set _ _) (by have := G1.out; omega)).other (Only.set _ _) (by have := G1.out; omega)
    · repeat' (first | exact S4.out.bel | (with_reducible refine Below.setCell ?_ ?_ _) | (simp; done) | (simp; omega))
  · by_cases c1 : 30 < n
    · have d0 : decide (0 ≤ n) = true := by simp; omega
      have d1 : decide (n ≤ 30) = false := by simp; omega
      have R := Lib.hid (show Y = X by rw [E.out, if_neg (by simp [GrG.inR]; omega)])
      clear E
      go_enter Try.func29, Try.ntmps29
      go_upto_region 1 with fail
      obtain ⟨W2, hW2⟩ : ∃ W, W = (w.alloc (.cells #[.slice (some ⟨g, 0, none⟩) 31 cap, .bool s, .slice sp sl sc] 38)).alloc (.cells #[.slice none 0 0, .bool false, .slice none 0 0] 38) := ⟨_, rfl⟩
      have S2 := Lib.hid (show PS w W2 (.slice (some ⟨g, 0, none⟩) 31 cap) s (.slice sp sl sc) by
        rw [hW2]
        exact ⟨heap_alloc2_old w _ _, heap_alloc2_new w _ _, ((Below.refl _ _).alloc (Nat.le_refl _) _).alloc (by simp) _, by simp⟩)
      rw [← hW2]
      clear hW2
      have c0 : (W2.alloc (.cells #[] 30)).cell? ⟨w.heap.size, 0, none⟩ = some (.slice (some ⟨g, 0, none⟩) 31 cap) := by
        rw [((Below.refl _ W2).alloc (Nat.le_refl _) _).cell (p := ⟨w.heap.size, 0, none⟩) (by have := S2.out.size; simp; omega), cell_of_row W2 w.heap.size 0 _ _ _ S2.out.box]
        rfl
      have HA2 := Lib.hid (HA.out.keep S2.out.bel)
      have n1 := Lib.hid (show (X.map (Value.int .u64)).length = 31 * 1 by simp [HL.out])
      have n2 := Lib.hid (show ∀ (o : Obj) j u, (X.map (Value.int .u64))[j]? = some u → (W2.alloc o).cell? ((⟨g, 0, none⟩ : Addr).add j) = some u from fun o j u hju => by
        rw [List.getElem?_map] at hju
        have hj : j < X.length := by
          by_cases c : j < X.length
          · exact c
          · rw [List.getElem?_eq_none (by omega)] at hju; cases hju
        have hc := (HA2.out.keep ((Below.refl _ _).alloc (Nat.le_refl _) o)) j hj
        have e : (⟨g, 0, none⟩ : Addr).add j = ⟨g, j, none⟩ := by unfold Addr.add; split <;> simp_all
        rw [e, hc, ← hju, List.getElem?_eq_getElem hj, List.getD_eq_getElem?_getD, List.getElem?_eq_getElem hj]
        rfl)
      have n3 := Lib.hid (show ∀ u ∈ X.map (Value.int .u64), u.oneCell' = true from fun u hu => by obtain ⟨a, _, rfl⟩ := List.mem_map.1 hu; rfl)
      have n6 := Lib.hid (show ∀ o : Obj, w.heap.size + 2 ≤ (W2.alloc o).heap.size from fun o => by have := S2.out.size; simp; omega)
      go_wp2_with (at_builtin; refine wpList_append_own _ rfl (.tmp 8) (.tmp 10) 29 rfl (w.heap.size + 2) 30 i0 (.int .u64 0) 1 8 Try.underlying29 hi hz0 hz1 hz2 rfl (by decide) _ _ _ rfl (World.ownsRow_made W2 #[] 0 S2.out.size (by unfold maxLen; omega) rfl) ⟨g, 0, none⟩ 31 cap (X.map (Value.int .u64)) rfl n1.out (n2.out _) n3.out (by unfold maxLen; omega) (by omega) (n6.out _) ?_)
      intro v1 w4 h1 hg1 _
      have S4 := Lib.hid (S2.out.grown hg1 rfl)
      obtain ⟨g1, cap1, cur1, rfl, hb1, hh1, hA1⟩ := own_31 X HL.out h1
      have G1 := Lib.hid hb1
      have HH1 := Lib.hid hh1
      have UA1 := Lib.hid hA1
      have LT1 := Lib.hid (show w.heap.size < w4.heap.size by have := S4.out.size; omega)
      clear h1 hg1 hb1 hh1 hA1 c0
      have b0 := cell_of_row w4 w.heap.size 0 _ _ _ S4.out.box
      have b1 := cell_of_row w4 w.heap.size 1 _ _ _ S4.out.box
      have b2 := cell_of_row w4 w.heap.size 2 _ _ _ S4.out.box
      have p0 := frozen_of_row w4 w.heap.size 0 _ _ S4.out.box
      have r0 := cell_of_row w4 (w.heap.size + 1) 0 _ _ _ S4.out.res
      have r1 := cell_of_row w4 (w.heap.size + 1) 1 _ _ _ S4.out.res
      have r2 := cell_of_row w4 (w.heap.size + 1) 2 _ _ _ S4.out.res
      have q0 := frozen_of_row w4 (w.heap.size + 1) 0 _ _ S4.out.res
      have q1 := frozen_of_row w4 (w.heap.size + 1) 1 _ _ S4.out.res
      have q2 := frozen_of_row w4 (w.heap.size + 1) 2 _ _ S4.out.res
      simp only [List.getElem?_toArray, List.getElem?_cons_zero, List.getElem?_cons_succ] at b0 b1 b2 r0 r1 r2
      go_wp2
      refine bodyPost_ret (v := .agg #[.slice (some ⟨g1, 0, none⟩) 31 cap1, .bool s, .slice sp sl sc]) (by simp [results, Try.results29, go_sem, *]) rfl ⟨_, rfl, ⟨by rw [R.out]; exact HL.out, g1, cap1, rfl, ?_⟩, fun k hk => by have := G1.out; cases hk; show w.heap.size ≤ g1; omega, ?_⟩
      · rw [R.out]
        exact (((UA1.out.other (Only.set _ _) (by have := G1.out; omega)).other (Only.set _ _) (by have := G1.out; omega)).other (Only.set _ _) (by have := G1.out; omega)).other (Only.set _ _) (by have := G1.out; omega)
      · repeat' (first | exact S4.out.bel | (with_reducible refine Below.setCell ?_ ?_ _) | (simp; done) | (simp; omega))
    · have d0 : decide (0 ≤ n) = true := by simp; omega
      have d1 : decide (n ≤ 30) = true := by simp; omega
      have R := Lib.hid (show Y = X.set n.toNat val by rw [E.out, if_pos (by simp [GrG.inR]; omega)])
      have m0 : 0 ≤ n := by omega
      have m1 : n ≤ 30 := by omega
      clear E c0 c1
      go_enter Try.func29, Try.ntmps29
      go_upto_region 1 with fail
      obtain ⟨W2, hW2⟩ : ∃ W, W = (w.alloc (.cells #[.slice (some ⟨g, 0, none⟩) 31 cap, .bool s, .slice sp sl sc] 38)).alloc (.cells #[.slice none 0 0, .bool false, .slice none 0 0] 38) := ⟨_, rfl⟩
      have S2 := Lib.hid (show PS w W2 (.slice (some ⟨g, 0, none⟩) 31 cap) s (.slice sp sl sc) by
        rw [hW2]
        exact ⟨heap_alloc2_old w _ _, heap_alloc2_new w _ _, ((Below.refl _ _).alloc (Nat.le_refl _) _).alloc (by simp) _, by simp⟩)
      rw [← hW2]
      clear hW2
      have c0 : (W2.alloc (.cells #[] 30)).cell? ⟨w.heap.size, 0, none⟩ = some (.slice (some ⟨g, 0, none⟩) 31 cap) := by
        rw [((Below.refl _ W2).alloc (Nat.le_refl _) _).cell (p := ⟨w.heap.size, 0, none⟩) (by have := S2.out.size; simp; omega), cell_of_row W2 w.heap.size 0 _ _ _ S2.out.box]
        rfl
      have HA2 := Lib.hid (HA.out.keep S2.out.bel)
      have n1 := Lib.hid (show (X.map (Value.int .u64)).length = 31 * 1 by simp [HL.out])
      have n2 := Lib.hid (show ∀ (o : Obj) j u, (X.map (Value.int .u64))[j]? = some u → (W2.alloc o).cell? ((⟨g, 0, none⟩ : Addr).add j) = some u from fun o j u hju => by
        rw [List.getElem?_map] at hju
        have hj : j < X.length := by
          by_cases c : j < X.length
          · exact c
          · rw [List.getElem?_eq_none (by omega)] at hju; cases hju
        have hc := (HA2.out.keep ((Below.refl _ _).alloc (Nat.le_refl _) o)) j hj
        have e : (⟨g, 0, none⟩ : Addr).add j = ⟨g, j, none⟩ := by unfold Addr.add; split <;> simp_all
        rw [e, hc, ← hju, List.getElem?_eq_getElem hj, List.getD_eq_getElem?_getD, List.getElem?_eq_getElem hj]
        rfl)
      have n3 := Lib.hid (show ∀ u ∈ X.map (Value.int .u64), u.oneCell' = true from fun u hu => by obtain ⟨a, _, rfl⟩ := List.mem_map.1 hu; rfl)
      have n6 := Lib.hid (show ∀ o : Obj, w.heap.size + 2 ≤ (W2.alloc o).heap.size from fun o => by have := S2.out.size; simp; omega)
      go_wp2_with (at_builtin; refine wpList_append_own _ rfl (.tmp 8) (.tmp 10) 29 rfl (w.heap.size + 2) 30 i0 (.int .u64 0) 1 8 Try.underlying29 hi hz0 hz1 hz2 rfl (by decide) _ _ _ rfl (World.ownsRow_made W2 #[] 0 S2.out.size (by unfold maxLen; omega) rfl) ⟨g, 0, none⟩ 31 cap (X.map (Value.int .u64)) rfl n1.out (n2.out _) n3.out (by unfold maxLen; omega) (by omega) (n6.out _) ?_)
      intro v1 w4 h1 hg1 _
      have S4 := Lib.hid (S2.out.grown hg1 rfl)
      obtain ⟨g1, cap1, cur1, rfl, hb1, hh1, hA1⟩ := own_31 X HL.out h1
      have G1 := Lib.hid hb1
      have HH1 := Lib.hid hh1
      have UA1 := Lib.hid hA1
      have LT1 := Lib.hid (show w.heap.size < w4.heap.size by have := S4.out.size; omega)
      clear h1 hg1 hb1 hh1 hA1 c0
      have b0 := cell_of_row w4 w.heap.size 0 _ _ _ S4.out.box
      have b1 := cell_of_row w4 w.heap.size 1 _ _ _ S4.out.box
      have b2 := cell_of_row w4 w.heap.size 2 _ _ _ S4.out.box
      have p0 := frozen_of_row w4 w.heap.size 0 _ _ S4.out.box
      have r0 := cell_of_row w4 (w.heap.size + 1) 0 _ _ _ S4.out.res
      have r1 := cell_of_row w4 (w.heap.size + 1) 1 _ _ _ S4.out.res
      have r2 := cell_of_row w4 (w.heap.size + 1) 2 _ _ _ S4.out.res
      have q0 := frozen_of_row w4 (w.heap.size + 1) 0 _ _ S4.out.res
      have q1 := frozen_of_row w4 (w.heap.size + 1) 1 _ _ S4.out.res
      have q2 := frozen_of_row w4 (w.heap.size + 1) 2 _ _ S4.out.res
      simp only [List.getElem?_toArray, List.getElem?_cons_zero, List.getElem?_cons_succ] at b0 b1 b2 r0 r1 r2
      have x0 := UA1.out n.toNat (by rw [HL.out]; omega)
      have x1 := frozen_of_row w4 g1 n.toNat _ _ HH1.out
      have gne : g1 ≠ w.heap.size := by have := G1.out; omega
      have gne1 : g1 ≠ w.heap.size + 1 := by have := G1.out; omega
      go_upto_region 4 with fail
      obtain ⟨w5, hw5⟩ : ∃ w5, w5 = w4.setCell ⟨g1, n.toNat, none⟩ (.int .u64 val) := ⟨_, rfl⟩
      rw [← hw5]
      have O5 := Lib.hid (show Only g1 w4 w5 by rw [hw5]; exact Only.set _ _)
      have UA5 := Lib.hid (show UAt w5 g1 (X.set n.toNat val) by rw [hw5]; exact UA1.out.set n.toNat val)
      have S5 := Lib.hid (show PS w w5 (.slice (some ⟨g, 0, none⟩) 31 cap) s (.slice sp sl sc) from ⟨(O5.out.block _ LT1.out (by omega)).trans S4.out.box, (O5.out.block _ (by have := S4.out.size; omega) (by omega)).trans S4.out.res, S4.out.bel.trans (O5.out.below (by have := G1.out; omega) S4.out.bel.size), by have := O5.out.size; have := S4.out.size; omega⟩)
      have LT5 := Lib.hid (show w.heap.size < w5.heap.size by have := S5.out.size; omega)
      clear hw5 b0 b1 b2 p0 r0 r1 r2 q0 q1 q2 x0 x1 gne gne1
      have b0 := cell_of_row w5 w.heap.size 0 _ _ _ S5.out.box
      have b1 := cell_of_row w5 w.heap.size 1 _ _ _ S5.out.box
      have b2 := cell_of_row w5 w.heap.size 2 _ _ _ S5.out.box
      have p0 := frozen_of_row w5 w.heap.size 0 _ _ S5.out.box
      have r0 := cell_of_row w5 (w.heap.size + 1) 0 _ _ _ S5.out.res
      have r1 := cell_of_row w5 (w.heap.size + 1) 1 _ _ _ S5.out.res
      have r2 := cell_of_row w5 (w.heap.size + 1) 2 _ _ _ S5.out.res
      have q0 := frozen_of_row w5 (w.heap.size + 1) 0 _ _ S5.out.res
      have q1 := frozen_of_row w5 (w.heap.size + 1) 1 _ _ S5.out.res
      have q2 := frozen_of_row w5 (w.heap.size + 1) 2 _ _ S5.out.res
      simp only [List.getElem?_toArray, List.getElem?_cons_zero, List.getElem?_cons_succ] at b0 b1 b2 r0 r1 r2
      go_wp2
      refine bodyPost_ret (v := .agg #[.slice (some ⟨g1, 0, none⟩) 31 cap1, .bool s, .slice sp sl sc]) (by simp [results, Try.results29, go_sem, *]) rfl ⟨_, rfl, ⟨by rw [R.out]; simp [HL.out], g1, cap1, rfl, ?_⟩, fun k hk => by have := G1.out; cases hk; show w.heap.size ≤ g1; omega, ?_⟩
      · rw [R.out]
        exact (((UA5.out.other (Only.set _ _) (by have := G1.out; omega)).other (Only.set _ _) (by have := G1.out; omega)).other (Only.set _ _) (by have := G1.out; omega)).other (Only.set _ _) (by have := G1.out; omega)
      · repeat' (first | exact S5.out.bel | (with_reducible refine Below.setCell ?_ ?_ _) | (simp; done) | (simp; omega))
end Go.Proofs.Ytnehdgapcgbdeaa
