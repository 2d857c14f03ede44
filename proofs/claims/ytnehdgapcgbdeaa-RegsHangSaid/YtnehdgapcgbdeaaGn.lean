/-
  Layer 5, the walks: the page's files: Of, Get; Show.
-/
import Derived.Test.YtnehdgapcgbdeaaGg
import Derived.Test.YtnehdgapcgbdeaaGd
set_option linter.unusedSimpArgs false
set_option linter.unusedVariables false
namespace GrG
theorem regsOf_getD (zs : List Int) (k : Nat) (h : k < 31) : (regsOf zs).getD k 0 = zs.getD k 0 := by
  unfold regsOf
  simp only [List.getD_eq_getElem?_getD]
  by_cases c : k < zs.length
  · rw [List.getElem?_append_left (by simp; omega), List.getElem?_take_of_lt h]
  · rw [List.getElem?_append_right (by simp; omega), List.getElem?_eq_none (by omega : zs.length ≤ k)]
    rw [List.getElem?_replicate]
    split <;> rfl
end GrG
namespace Go.Proofs.Ytnehdgapcgbdeaa
open Go.RowKit
/-- words lie in a block from its head on -/
def UAt (w : World) (b : Nat) (zs : List Int) : Prop := ∀ j, j < zs.length → w.cell? ⟨b, j, none⟩ = some (.int .u64 (zs.getD j 0))
theorem UAt.keep {w w' : World} {b : Nat} {zs : List Int} (h : UAt w b zs) (k : Below w.heap.size w w') : UAt w' b zs := fun j hj => (k.cell (p := ⟨b, j, none⟩) (World.block_lt_of_cell? w _ (h j hj))).trans (h j hj)
theorem UAt.other {w w' : World} {b B : Nat} {zs : List Int} (h : UAt w b zs) (k : Only B w w') (hn : b ≠ B) : UAt w' b zs := fun j hj => by
  have hb := World.block_lt_of_cell? w _ (h j hj)
  have e := k.block b hb hn
  have := h j hj
  unfold World.cell? at this ⊢
  simpa [e] using this
/-- 31 words in a slice -/
def UV (w : World) (v : Value) (xs : List Int) : Prop := xs.length = 31 ∧ ∃ g cap, v = .slice (some ⟨g, 0, none⟩) 31 cap ∧ UAt w g xs
theorem UV.keep {w w' : World} {v : Value} {xs : List Int} (h : UV w v xs) (k : Below w.heap.size w w') : UV w' v xs := by
  obtain ⟨hl, g, cap, e, h⟩ := h
  exact ⟨hl, g, cap, e, h.keep k⟩
def OwnU (w : World) (base : Nat) (v : Value) (xs : List Int) : Prop := w.ownsRow base 30 1 v xs.length (xs.map (Value.int .u64))
theorem OwnU.opened {w : World} {base : Nat} {v : Value} {xs : List Int} (h : OwnU w base v xs) : (v = .slice none 0 0 ∧ xs = []) ∨ ∃ g cap, v = .slice (some ⟨g, 0, none⟩) xs.length cap ∧ base ≤ g ∧ UAt w g xs := by
  have hc := fun g (hg : v.ownBlock = some g) => World.ownsRow.cells h hg
  obtain ⟨_, ⟨rfl, h0⟩ | ⟨g, cap, cur, rfl, hb, _⟩⟩ := h
  · exact .inl ⟨rfl, List.eq_nil_of_length_eq_zero h0⟩
  · refine .inr ⟨g, cap, rfl, hb, fun j hj => ?_⟩
    have := hc g rfl j (.int .u64 (xs.getD j 0)) (by rw [List.getElem?_map, List.getElem?_eq_getElem hj, List.getD_eq_getElem?_getD, List.getElem?_eq_getElem hj]; rfl)
    have e : (⟨g, 0, none⟩ : Addr).add j = ⟨g, j, none⟩ := by unfold Addr.add; split <;> simp_all
    rwa [e] at this
theorem OwnU.blocks {w w' : World} {base : Nat} {v : Value} {xs : List Int} (h : OwnU w base v xs) (k : ∀ g, base ≤ g → g < w.heap.size → w'.heap[g]? = w.heap[g]?) : OwnU w' base v xs := by
  obtain ⟨h1, h2 | ⟨g, cap, cur, e, hb, hg, rest⟩⟩ := h
  · exact ⟨h1, .inl h2⟩
  · have hlt : g < w.heap.size := by
      by_cases c : g < w.heap.size
      · exact c
      · rw [Array.getElem?_eq_none (by omega)] at hg
        cases hg
    exact ⟨h1, .inr ⟨g, cap, cur, e, hb, (k g hb hlt).trans hg, rest⟩⟩
theorem info_u64 : (Try.prog.info? 30).map (fun i => (i.zero, i.size, i.bytes)) = some (some (.int .u64 0), 1, 8) := by kernel_rfl
theorem app_cells_u (w : World) (z : Int) (T : TypeId) : ∀ j u, ([.int .u64 z] : List Value)[j]? = some u → (w.alloc (.cells #[.int .u64 z] T)).cell? ((⟨w.heap.size, 0, none⟩ : Addr).add j) = some u := by
  intro j u h
  cases j with
  | zero => simp at h; subst h; simp [Addr.add, World.cell?_alloc_new]
  | succ j => simp at h
/-- the page's file that its Of makes, while it is made -/
structure PO (w wr : World) (v : Value) (same : Bool) (sv : Value) (xs : List Int) : Prop where
  res : wr.heap[w.heap.size]? = some (.cells #[.slice none 0 0, .bool false, .slice none 0 0] 38 (0, 0))
  box : wr.heap[w.heap.size + 1]? = some (.cells #[v, .bool same, sv] 38 (0, 0))
  own : OwnU wr (w.heap.size + 2) v xs
  bel : Below w.heap.size w wr
  size : w.heap.size + 2 ≤ wr.heap.size
theorem PO.step {w wr w1 : World} {v v' : Value} {same : Bool} {sv : Value} {xs : List Int} {z : Int} {o : Obj} (h : PO w wr v same sv xs)
    (h' : w1.ownsRow (w.heap.size + 2) 30 1 v' (xs.length + 1) (xs.map (Value.int .u64) ++ [.int .u64 z])) (hg : (wr.alloc o).grownBy w1 v.ownBlock) :
    w1.heap[w.heap.size + 1]? = some (.cells #[v, .bool same, sv] 38 (0, 0)) ∧ PO w (w1.setCell ⟨w.heap.size + 1, 0, none⟩ v') v' same sv (xs ++ [z]) := by
  have lt := World.ownsRow.lt h.own
  have keep : ∀ k, k < w.heap.size + 2 → w1.heap[k]? = wr.heap[k]? := fun k hk => by
    rw [hg.block k (by have := h.size; simp; omega) (fun e => by have := (lt k e.symm).1; omega)]
    exact Below.heap_alloc _ _ _ (by have := h.size; omega)
  have hb1 := (keep (w.heap.size + 1) (by omega)).trans h.box
  refine ⟨hb1, ?_, ?_, ?_, ?_, ?_⟩
  · rw [Below.heap_setCell _ _ _ _ (by simp)]
    exact (keep _ (by omega)).trans h.res
  · rw [heap_setCell_same w1 _ 0 _ _ _ hb1]
    rfl
  · refine OwnU.blocks (w := w1) (by simpa [OwnU] using h') fun g hgb hlt => Below.heap_setCell _ _ _ _ (by simp; omega)
  · refine Below.setCell ?_ (by simp) _
    exact (h.bel.alloc h.bel.size o).grown hg (by have := h.size; simp; omega) (fun k e => by have := (lt k e).1; omega)
  · have := hg.size
    have := h.size
    simp at *
    omega
theorem own_some {w : World} {base : Nat} {v : Value} {n : Nat} {xs : List Value} (h : w.ownsRow base 30 1 v (n + 1) xs) : ∃ g cap L, v = .slice (some ⟨g, 0, none⟩) L cap := by
  obtain ⟨_, ⟨_, h0⟩ | ⟨g, cap, cur, e, _⟩⟩ := h
  · omega
  · exact ⟨g, cap, _, e⟩
/-- new memory -/
def Fresh (w : World) (v : Value) : Prop := ∀ g, v.ownBlock = some g → w.heap.size ≤ g
def POfPost (R : List Int) (same : Bool) (sv : Value) (w : World) (e : Ending) (w' : World) : Prop := ∃ v, e = .returned (.agg #[v, .bool same, sv]) ∧ UV w' v R ∧ Fresh w v ∧ Below w.heap.size w w'

set_option maxHeartbeats 3200000 in
theorem pof_any (p : Option Addr) (len cap : Nat) (zs : List Int) (same : Bool) (sp : Option Addr) (sl sc : Nat) (w : World) (hz : USl w p len zs) :
    Calls Try.prog 40 #[.slice p len cap, .bool same, .slice sp sl sc] w (POfPost (GrG.regsOf zs) same (.slice sp sl sc) w) := by
  obtain ⟨i0, hi, hz0, hz1, hz2⟩ := info_parts info_u64
  have HZ := Lib.hid hz
  have RL := GrG.regsOf_len zs
  have RG := Lib.hid (GrG.regsOf_getD zs)
  obtain ⟨R, hR⟩ : ∃ R, R = GrG.regsOf zs := ⟨_, rfl⟩
  rw [← hR] at RL RG ⊢
  have RLe := Lib.hid RL
  clear hR hz RL
  go_enter Try.func40, Try.ntmps40
  go_wp2_with fail
  go_loopw [8] (fun i wr => ∃ (k : Nat) (v : Value), k ≤ 31 ∧ i = .int .i64 k ∧ PO w wr v same (.slice sp sl sc) (R.take k)) (fun i _ => 31 - (intOf i).toNat)
  case atStart => exact ⟨0, .slice none 0 0, by omega, rfl, ⟨heap_alloc2_old w _ _, heap_alloc2_new w _ _, World.ownsRow_nil _ _ _ _, ((Below.refl _ _).alloc (Nat.le_refl _) _).alloc (by simp) _, by simp⟩⟩
  case round =>
    obtain ⟨k, v, hk, rfl, hp⟩ := hrel
    have HP := Lib.hid hp
    have c0 := cell_of_row wr (w.heap.size + 1) 0 _ _ _ hp.box
    have c1 := cell_of_row wr (w.heap.size + 1) 1 _ _ _ hp.box
    have c2 := cell_of_row wr (w.heap.size + 1) 2 _ _ _ hp.box
    simp only [List.getElem?_toArray, List.getElem?_cons_zero, List.getElem?_cons_succ] at c0 c1 c2
    clear hp
    by_cases ck : k < 31
    · have E := Lib.hid (show R.take (k + 1) = R.take k ++ [zs.getD k 0] by
        rw [List.take_succ_eq_append_getElem (by rw [RLe.out]; exact ck), ← RG.out k ck, List.getD_eq_getElem?_getD, List.getElem?_eq_getElem (by rw [RLe.out]; exact ck)]
        rfl)
      have xl : (R.take k).length ≤ 31 := by simp; omega
      obtain ⟨xs, hxs⟩ : ∃ xs, xs = R.take k := ⟨_, rfl⟩
      rw [← hxs] at HP E xl
      have k4 := Lib.hid (show xs.length + 1 ≤ maxLen by unfold maxLen; omega)
      have k5 := Lib.hid (show (xs.length + 1) * 8 ≤ 140737488355328 by omega)
      have k6 := Lib.hid (show ∀ o : Obj, w.heap.size + 2 ≤ (wr.alloc o).heap.size from fun o => by have := HP.out.size; simp; omega)
      clear hxs xl
      by_cases cl : k < len
      · obtain ⟨ad, rfl, hcz⟩ := HZ.out.2 k cl
        have cz := (HP.out.bel.cell (World.block_lt_of_cell? w _ hcz)).trans hcz
        obtain ⟨z, hzz⟩ : ∃ z, z = zs.getD k 0 := ⟨_, rfl⟩
        rw [← hzz] at cz E
        clear hzz hcz
        have k2 := Lib.hid (app_cells_u wr z)
        have k3 := Lib.hid (show ∀ u ∈ [Value.int .u64 z], u.oneCell' = true by simp [Value.oneCell'])
        go_wp2_with (at_builtin; refine wpList_append_own _ rfl (.tmp 26) (.tmp 28) 29 rfl (w.heap.size + 2) 30 i0 (.int .u64 0) 1 8 Try.underlying29 hi hz0 hz1 hz2 rfl (by decide) _ _ _ rfl (World.ownsRow.alloc HP.out.own _) ⟨wr.heap.size, 0, none⟩ 1 1 [.int .u64 z] rfl rfl (k2.out _) k3.out k4.out k5.out (k6.out _) ?_)
        intro v1 w1 h1 hg1 _
        obtain ⟨g, cap2, L, rfl⟩ := own_some h1
        have ST := HP.out.step h1 hg1
        have HS := Lib.hid ST.2
        have d0 := cell_of_row w1 (w.heap.size + 1) 0 _ _ _ ST.1
        have f0 := frozen_of_row w1 (w.heap.size + 1) 0 _ _ ST.1
        simp only [List.getElem?_toArray, List.getElem?_cons_zero] at d0
        clear ST h1 hg1 c0 c1 c2 cz
        go_wp2
        go_roundw
        case rel => exact ⟨k + 1, _, by omega, by go_num, by rw [E.out]; exact HS.out⟩
        case measure => simp [intOf]; omega
      · have hz0' : zs.getD k 0 = 0 := by rw [List.getD_eq_getElem?_getD, List.getElem?_eq_none (by rw [HZ.out.1]; omega)]; rfl
        rw [hz0'] at E
        clear hz0'
        have k2 := Lib.hid (app_cells_u wr 0)
        have k3 := Lib.hid (show ∀ u ∈ [Value.int .u64 0], u.oneCell' = true by simp [Value.oneCell'])
        go_wp2_with (at_builtin; refine wpList_append_own _ rfl (.tmp 26) (.tmp 28) 29 rfl (w.heap.size + 2) 30 i0 (.int .u64 0) 1 8 Try.underlying29 hi hz0 hz1 hz2 rfl (by decide) _ _ _ rfl (World.ownsRow.alloc HP.out.own _) ⟨wr.heap.size, 0, none⟩ 1 1 [.int .u64 0] rfl rfl (k2.out _) k3.out k4.out k5.out (k6.out _) ?_)
        intro v1 w1 h1 hg1 _
        obtain ⟨g, cap2, L, rfl⟩ := own_some h1
        have ST := HP.out.step h1 hg1
        have HS := Lib.hid ST.2
        have d0 := cell_of_row w1 (w.heap.size + 1) 0 _ _ _ ST.1
        have f0 := frozen_of_row w1 (w.heap.size + 1) 0 _ _ ST.1
        simp only [List.getElem?_toArray, List.getElem?_cons_zero] at d0
        clear ST h1 hg1 c0 c1 c2
        go_wp2
        go_roundw
        case rel => exact ⟨k + 1, _, by omega, by go_num, by rw [E.out]; exact HS.out⟩
        case measure => simp [intOf]; omega
    · obtain rfl : 31 = k := by omega
      have r0 := cell_of_row wr w.heap.size 0 _ _ _ HP.out.res
      have r1 := cell_of_row wr w.heap.size 1 _ _ _ HP.out.res
      have r2 := cell_of_row wr w.heap.size 2 _ _ _ HP.out.res
      have q0 := frozen_of_row wr w.heap.size 0 _ _ HP.out.res
      have q1 := frozen_of_row wr w.heap.size 1 _ _ HP.out.res
      have q2 := frozen_of_row wr w.heap.size 2 _ _ HP.out.res
      simp only [List.getElem?_toArray, List.getElem?_cons_zero, List.getElem?_cons_succ] at r0 r1 r2
      have ho := HP.out.own
      rw [List.take_of_length_le (by rw [RLe.out]; exact Nat.le_refl _)] at ho
      have ltg := fun g (hg : v.ownBlock = some g) => (World.ownsRow.lt ho g hg).1
      rcases ho.opened with ⟨_, e⟩ | ⟨g, cap2, e, _, ha⟩
      · have := RLe.out; rw [e] at this; cases this
      · rw [RLe.out] at e
        subst e
        have hne := Lib.hid (show g ≠ w.heap.size by have := ltg g rfl; omega)
        have HFr := Lib.hid (show Fresh w (.slice (some ⟨g, 0, none⟩) 31 cap2) from fun k hk => by have := ltg k hk; omega)
        have HA := Lib.hid ha
        have ltw := Lib.hid (show w.heap.size < wr.heap.size by have := HP.out.size; omega)
        clear ho ltg ha
        go_wp2
        refine bodyPost_ret (v := .agg #[.slice (some ⟨g, 0, none⟩) 31 cap2, .bool same, .slice sp sl sc]) (by simp [results, Try.results40, go_sem, *]) rfl ⟨_, rfl, ⟨RLe.out, g, cap2, rfl, ?_⟩, HFr.out, ?_⟩
        · exact ((HA.out.other (Only.set _ _) hne.out).other (Only.set _ _) hne.out).other (Only.set _ _) hne.out
        · repeat' (first | exact HP.out.bel | (with_reducible refine Below.setCell ?_ ?_ _) | (simp; done) | (simp; omega))

set_option maxHeartbeats 800000 in
theorem pget_any (v : Value) (s : Bool) (sv : Value) (X : List Int) (n : Int) (w : World) (h : UV w v X) :
    Calls Try.prog 26 #[.agg #[v, .bool s, sv], .int .i64 n] w fun e w' => e = .returned (.int .u64 (GrG.getL X n)) ∧ Below w.heap.size w w' := by
  have E := Lib.hid (show GrG.getL X n = if GrG.inR n = true then X.getD n.toNat 0 else 0 from rfl)
  have KB := Lib.hid ((Below.refl _ w).alloc (Nat.le_refl _) (.cells #[v, .bool s, sv] 38 ))
  by_cases c0 : n < 0
  · have c1 : decide (n < 0) = true := by simpa using c0
    have R := Lib.hid (show GrG.getL X n = 0 by rw [E.out, if_neg (by simp [GrG.inR]; omega)])
    clear h E
    go_enter Try.func26, Try.ntmps26
    go_wp2
    go_ret
    exact ⟨ret_u R.out.symm, KB.out⟩
  · have c1 : decide (n < 0) = false := by simpa using c0
    by_cases c2 : 30 < n
    · have c3 : decide (30 < n) = true := by simpa using c2
      have c4 : decide (n > 30) = true := by simpa using c2
      have R := Lib.hid (show GrG.getL X n = 0 by rw [E.out, if_neg (by simp [GrG.inR]; omega)])
      clear h E
      go_enter Try.func26, Try.ntmps26
      go_wp2
      go_ret
      exact ⟨ret_u R.out.symm, KB.out⟩
    · have c3 : decide (30 < n) = false := by simpa using c2
      have R := Lib.hid (show GrG.getL X n = X.getD n.toNat 0 by rw [E.out, if_pos (by simp [GrG.inR]; omega)])
      obtain ⟨hl, g, cap, rfl, ha⟩ := h
      have hc := (ha.keep KB.out) n.toNat (by rw [hl]; omega)
      have n0 : 0 ≤ n := by omega
      have n1 : n < 31 := by omega
      obtain ⟨V, hV⟩ : ∃ V, V = X.getD n.toNat 0 := ⟨_, rfl⟩
      rw [← hV] at hc R
      clear hV ha E c0 c2 hl
      go_enter Try.func26, Try.ntmps26
      go_wp2
      go_ret
      exact ⟨ret_u R.out.symm, KB.out⟩
end Go.Proofs.Ytnehdgapcgbdeaa
