/-
  Layer 5, the walks: lists of numbers: is, Same, told, no31.
-/
import Derived.Test.YtnehdgapcgbdeaaGc
import Derived.LoopTactic
import Derived.Laws.AppendOwn
set_option linter.unusedSimpArgs false
set_option linter.unusedVariables false
namespace GrG
def stepT (out : List Int) (n : Int) : List Int := if n ≠ 31 ∧ (out = [] ∨ out.getD 0 0 ≠ n) then out ++ [n] else out
def toldL (zs : List Int) : List Int := zs.foldl stepT []
theorem toldL_snoc (zs : List Int) (k : Nat) (h : k < zs.length) : toldL (zs.take (k + 1)) = stepT (toldL (zs.take k)) (zs.getD k 0) := by
  rw [toldL, List.take_succ_eq_append_getElem h, List.foldl_append]
  simp [toldL, List.getD_eq_getElem?_getD, List.getElem?_eq_getElem h]
theorem toldL_len (zs : List Int) (k : Nat) : (toldL (zs.take k)).length ≤ k := by
  induction k with
  | zero => simp [toldL]
  | succ k ih =>
    by_cases h : k < zs.length
    · rw [toldL_snoc zs k h, stepT]
      split
      · simp; omega
      · omega
    · rw [List.take_of_length_le (by omega)]
      rw [List.take_of_length_le (by omega)] at ih
      omega
def stepN (out : List Int) (n : Int) : List Int := if n = 31 ∨ n ∈ out then out else out ++ [n]
def no31L (zs : List Int) : List Int := zs.foldl stepN []
theorem no31L_snoc (zs : List Int) (k : Nat) (h : k < zs.length) : no31L (zs.take (k + 1)) = stepN (no31L (zs.take k)) (zs.getD k 0) := by
  rw [no31L, List.take_succ_eq_append_getElem h, List.foldl_append]
  simp [no31L, List.getD_eq_getElem?_getD, List.getElem?_eq_getElem h]
theorem no31L_len (zs : List Int) (k : Nat) : (no31L (zs.take k)).length ≤ k := by
  induction k with
  | zero => simp [no31L]
  | succ k ih =>
    by_cases h : k < zs.length
    · rw [no31L_snoc zs k h, stepN]
      split
      · omega
      · simp; omega
    · rw [List.take_of_length_le (by omega)]
      rw [List.take_of_length_le (by omega)] at ih
      omega
/-- of at most two numbers both say the same -/
theorem told_one (a : Int) : toldL [a] = no31L [a] := by
  simp [toldL, no31L, stepT, stepN]
theorem told_two (a b : Int) : toldL [a, b] = no31L [a, b] := by
  simp only [toldL, no31L, List.foldl_cons, List.foldl_nil, stepT, stepN]
  by_cases h1 : a = 31 <;> by_cases h2 : b = 31 <;> by_cases h3 : b = a <;> simp_all <;> exact fun h => h3 h.symm
end GrG
namespace Go.Proofs.Ytnehdgapcgbdeaa
open Go.RowKit

/-- numbers lie in a block from its head on -/
def IAt (w : World) (b : Nat) (zs : List Int) : Prop := ∀ j, j < zs.length → w.cell? ⟨b, j, none⟩ = some (.int .i64 (zs.getD j 0))
theorem IAt.keep {w w' : World} {b : Nat} {zs : List Int} (h : IAt w b zs) (k : Below w.heap.size w w') : IAt w' b zs := fun j hj => (k.cell (p := ⟨b, j, none⟩) (World.block_lt_of_cell? w _ (h j hj))).trans (h j hj)
/-- a slice that reads as a list -/
def IV (w : World) (v : Value) (xs : List Int) : Prop := (v = .slice none 0 0 ∧ xs = []) ∨ ∃ g cap, v = .slice (some ⟨g, 0, none⟩) xs.length cap ∧ IAt w g xs
theorem IV.keep {w w' : World} {v : Value} {xs : List Int} (h : IV w v xs) (k : Below w.heap.size w w') : IV w' v xs := by
  rcases h with h | ⟨g, cap, e, h⟩
  · exact .inl h
  · exact .inr ⟨g, cap, e, h.keep k⟩
/-- a slice of the call's own -/
def Own (w : World) (base : Nat) (v : Value) (xs : List Int) : Prop := w.ownsRow base 3 1 v xs.length (xs.map (Value.int .i64))
theorem Own.opened {w : World} {base : Nat} {v : Value} {xs : List Int} (h : Own w base v xs) : (v = .slice none 0 0 ∧ xs = []) ∨ ∃ g cap, v = .slice (some ⟨g, 0, none⟩) xs.length cap ∧ base ≤ g ∧ IAt w g xs := by
  have hc := fun g (hg : v.ownBlock = some g) => World.ownsRow.cells h hg
  obtain ⟨_, ⟨rfl, h0⟩ | ⟨g, cap, cur, rfl, hb, _⟩⟩ := h
  · exact .inl ⟨rfl, List.eq_nil_of_length_eq_zero h0⟩
  · refine .inr ⟨g, cap, rfl, hb, fun j hj => ?_⟩
    have := hc g rfl j (.int .i64 (xs.getD j 0)) (by rw [List.getElem?_map, List.getElem?_eq_getElem hj, List.getD_eq_getElem?_getD, List.getElem?_eq_getElem hj]; rfl)
    have e : (⟨g, 0, none⟩ : Addr).add j = ⟨g, j, none⟩ := by unfold Addr.add; split <;> simp_all
    rwa [e] at this
theorem Own.iv {w : World} {base : Nat} {v : Value} {xs : List Int} (h : Own w base v xs) : IV w v xs := by
  rcases h.opened with h | ⟨g, cap, e, _, h⟩
  · exact .inl h
  · exact .inr ⟨g, cap, e, h⟩
theorem info_int : (Try.prog.info? 3).map (fun i => (i.zero, i.size, i.bytes)) = some (some (.int .i64 0), 1, 8) := by kernel_rfl

theorem contains_take (zs : List Int) (op : Int) (k : Nat) (h : k < zs.length) (hn : ∀ j, j < k → zs.getD j 0 ≠ op) : (zs.getD k 0 ≠ op → ∀ j, j < k + 1 → zs.getD j 0 ≠ op) := fun h1 j hj => by
  by_cases e : j = k
  · rw [e]; exact h1
  · exact hn j (by omega)
set_option maxHeartbeats 1600000 in
theorem is_any (op : Int) (b cap : Nat) (zs : List Int) (w : World) (hl : zs.length ≤ 100) (hz : IAt w b zs) :
    Calls Try.prog 39 #[.int .i64 op, .slice (some ⟨b, 0, none⟩) zs.length cap] w fun e w' => e = .returned (.bool (decide (op ∈ zs))) ∧ w = w' := by
  have HZ := Lib.hid hz
  clear hz
  go_enter Try.func39, Try.ntmps39
  go_wp2
  go_loop [5] (fun i => ∃ k : Nat, k ≤ zs.length ∧ i = .int .i64 k ∧ ∀ j, j < k → zs.getD j 0 ≠ op) (fun i => zs.length - (intOf i).toNat)
  case atStart => exact ⟨0, by omega, rfl, fun j hj => absurd hj (by omega)⟩
  case round =>
    obtain ⟨k, hk, rfl, hn⟩ := hrel
    have HN := Lib.hid hn
    clear hn
    by_cases c : k < zs.length
    · have hc := HZ.out k c
      have hg : zs.getD k 0 = zs[k] := by rw [List.getD_eq_getElem?_getD, List.getElem?_eq_getElem c]; rfl
      have HM := Lib.hid (show zs.getD k 0 ∈ zs by rw [hg]; exact List.getElem_mem c)
      clear hg
      obtain ⟨z, hzz⟩ : ∃ z, z = zs.getD k 0 := ⟨_, rfl⟩
      rw [← hzz] at hc HM
      have HE := Lib.hid hzz
      clear hzz
      by_cases e : z = op
      · subst e
        have R := Lib.hid (show decide (z ∈ zs) = true by simpa using HM.out)
        go_wp2
        go_ret
        exact ⟨ret_bb R.out.symm, rfl⟩
      · have eb : (z == op) = false := by simpa using e
        have NE := Lib.hid e
        clear e
        go_wp2
        go_round
        case rel => exact ⟨k + 1, by omega, by go_num, contains_take zs op k c HN.out (by rw [← HE.out]; exact NE.out)⟩
        case measure => simp [intOf]; omega
    · have R := Lib.hid (show decide (op ∈ zs) = false by
        simp only [decide_eq_false_iff_not]
        intro hm
        obtain ⟨j, hj, e⟩ := List.getElem_of_mem hm
        exact HN.out j (by omega) (by rw [List.getD_eq_getElem?_getD, List.getElem?_eq_getElem hj]; exact e))
      go_wp2
      go_ret
      exact ⟨ret_bb R.out.symm, rfl⟩

set_option maxHeartbeats 1600000 in
theorem same_true (xs : List Int) (v1 v2 : Value) (w : World) (hl : xs.length ≤ 100) (h1 : IV w v1 xs) (h2 : IV w v2 xs) :
    Calls Try.prog 10 #[v1, v2] w fun e w' => e = .returned (.bool true) ∧ Below w.heap.size w w' := by
  rcases h1 with ⟨rfl, rfl⟩ | ⟨g1, cap1, rfl, a1⟩
  · rcases h2 with ⟨rfl, _⟩ | ⟨g2, cap2, rfl, a2⟩
    all_goals
      try clear a2
      try simp only [List.length_nil]
      go_enter Try.func10, Try.ntmps10
      go_wp2
      refine wp_loop_rounds 1 ?_
      rw [rounds_succ]
      go_wp2
      go_ret
      exact ⟨rfl, Below.refl _ _⟩
  · rcases h2 with ⟨rfl, rfl⟩ | ⟨g2, cap2, rfl, a2⟩
    · clear a1
      simp only [List.length_nil]
      go_enter Try.func10, Try.ntmps10
      go_wp2
      refine wp_loop_rounds 1 ?_
      rw [rounds_succ]
      go_wp2
      go_ret
      exact ⟨rfl, Below.refl _ _⟩
    · have A1 := Lib.hid a1
      have A2 := Lib.hid a2
      clear a1 a2
      go_enter Try.func10, Try.ntmps10
      go_wp2
      go_loopw [5] (fun i wr => ∃ k : Nat, k ≤ xs.length ∧ i = .int .i64 k ∧ Below w.heap.size w wr) (fun i _ => xs.length - (intOf i).toNat)
      case atStart => exact ⟨0, by omega, rfl, Below.refl _ _⟩
      case round =>
        obtain ⟨k, hk, rfl, hb⟩ := hrel
        have HB := Lib.hid hb
        clear hb
        by_cases c : k < xs.length
        · have k1 : ∀ x : Wb wr, x.at.cell? ⟨g1, k, none⟩ = some (.int .i64 (xs.getD k 0)) := fun x => (A1.out.keep (HB.out.trans (x.bel.mono HB.out.size))) k c
          have k2 : ∀ x : Wb wr, x.at.cell? ⟨g2, k, none⟩ = some (.int .i64 (xs.getD k 0)) := fun x => (A2.out.keep (HB.out.trans (x.bel.mono HB.out.size))) k c
          have k0 : (0 : Int) ≤ (k : Int) := by omega
          have k3 : (k : Int) < (xs.length : Int) := by omega
          obtain ⟨z, hz⟩ : ∃ z, z = xs.getD k 0 := ⟨_, rfl⟩
          rw [← hz] at k1 k2
          clear hz
          go_wp2_with fail
          refine wp_region_wb (by kernel_rfl) (by kernel_rfl) ?_
          repeat (go_big_quiet_step (fail))
          refine wpQuiet_nil ?_
          rintro _ ⟨x1, rfl⟩
          go_wp2
          go_roundw
          case rel => exact ⟨k + 1, by omega, by go_num, HB.out.trans (x1.bel.mono HB.out.size)⟩
          case measure => simp [intOf]; omega
        · go_wp2
          go_ret
          exact ⟨rfl, HB.out⟩
def ToldPost (xs : List Int) (w : World) (e : Ending) (w' : World) : Prop := ∃ v, e = .returned v ∧ IV w' v xs ∧ Below w.heap.size w w'
theorem told_rel {w wr w1 : World} {o : Obj} {v v' : Value} {xs : List Int} {n : Int} (hb : Below w.heap.size w wr) (hown : Own wr w.heap.size v xs) (h' : w1.ownsRow w.heap.size 3 1 v' (xs.length + 1) (xs.map (Value.int .i64) ++ [.int .i64 n])) (hg : (wr.alloc o).grownBy w1 v.ownBlock) :
    Own w1 w.heap.size v' (xs ++ [n]) ∧ Below w.heap.size w w1 := by
  refine ⟨?_, (hb.alloc hb.size o).grown hg (by have := hb.size; simp; omega) (fun k hk => (World.ownsRow.lt hown k hk).1)⟩
  simpa [Own] using h'

theorem app_cells (w : World) (z : Int) (T : TypeId) : ∀ j u, ([.int .i64 z] : List Value)[j]? = some u → (w.alloc (.cells #[.int .i64 z] T)).cell? ((⟨w.heap.size, 0, none⟩ : Addr).add j) = some u := by
  intro j u h
  cases j with
  | zero => simp at h; subst h; simp [Addr.add, World.cell?_alloc_new]
  | succ j => simp at h
set_option maxHeartbeats 3200000 in
theorem told_any (b cap : Nat) (zs : List Int) (w : World) (hl : zs.length ≤ 100) (hz : IAt w b zs) :
    Calls Try.prog 37 #[.slice (some ⟨b, 0, none⟩) zs.length cap] w (ToldPost (GrG.toldL zs) w) := by
  obtain ⟨i0, hi, hz0, hz1, hz2⟩ := info_parts info_int
  have HZ := Lib.hid hz
  have HI := Lib.hid (show zs.length ≤ 100 from hl)
  clear hz
  go_enter Try.func37, Try.ntmps37
  go_wp2_with fail
  go_loopw [3, 8] (fun v i wr => ∃ k : Nat, k ≤ zs.length ∧ i = .int .i64 k ∧ Own wr w.heap.size v (GrG.toldL (zs.take k)) ∧ Below w.heap.size w wr) (fun _ i _ => zs.length - (intOf i).toNat)
  case atStart => exact ⟨0, by omega, rfl, World.ownsRow_nil _ _ _ _, Below.refl _ _⟩
  case round =>
    obtain ⟨k, hk, rfl, hown, hb⟩ := hrel
    have HB := Lib.hid hb
    have HO := Lib.hid hown
    clear hb hown
    by_cases c : k < zs.length
    · have hc := HZ.out.keep HB.out k c
      have HS := Lib.hid (GrG.toldL_snoc zs k c)
      have hxl := GrG.toldL_len zs k
      obtain ⟨z, hzz⟩ : ∃ z, z = zs.getD k 0 := ⟨_, rfl⟩
      rw [← hzz] at hc HS
      clear hzz
      obtain ⟨xs, hxs⟩ : ∃ xs, xs = GrG.toldL (zs.take k) := ⟨_, rfl⟩
      rw [← hxs] at HO HS hxl
      clear hxs
      have k2 := Lib.hid (app_cells wr z)
      have k3 := Lib.hid (show ∀ u ∈ [Value.int .i64 z], u.oneCell' = true by simp [Value.oneCell'])
      have k4 := Lib.hid (show xs.length + 1 ≤ maxLen by unfold maxLen; omega)
      have k5 := Lib.hid (show (xs.length + 1) * 8 ≤ 140737488355328 by omega)
      have k6 := Lib.hid (show ∀ o : Obj, w.heap.size ≤ (wr.alloc o).heap.size from fun o => by have := HB.out.size; simp; omega)
      by_cases e : z = 31
      · have eb : (z != 31) = false := by simpa using e
        have HE := Lib.hid (show GrG.toldL (zs.take (k + 1)) = xs by rw [HS.out, GrG.stepT, if_neg (by simp [e])])
        clear e
        go_wp2
        go_roundw
        case rel => exact ⟨k + 1, by omega, by go_num, by rw [HE.out]; exact HO.out, HB.out⟩
        case measure => simp [intOf]; omega
      · have eb : (z != 31) = true := by simpa using e
        have HN := Lib.hid e
        clear e
        by_cases app : xs = [] ∨ xs.getD 0 0 ≠ z
        · have HE := Lib.hid (show GrG.toldL (zs.take (k + 1)) = xs ++ [z] by rw [HS.out, GrG.stepT, if_pos ⟨HN.out, app⟩])
          have HA := Lib.hid app
          clear app
          rcases HO.out.opened with ⟨rfl, rfl⟩ | ⟨g, cap2, rfl, hg, ha⟩
          · go_wp2_with (at_builtin; refine wpList_append_own _ rfl (.tmp 26) (.tmp 28) 27 rfl w.heap.size 3 i0 (.int .i64 0) 1 8 Try.underlying27 hi hz0 hz1 hz2 rfl (by decide) _ _ _ rfl (HO.out.alloc _) ⟨wr.heap.size, 0, none⟩ 1 1 [.int .i64 z] rfl rfl (k2.out _) k3.out k4.out k5.out (k6.out _) ?_)
            intro v1 w1 h1 hg1 _
            have HR := Lib.hid (told_rel HB.out HO.out h1 hg1)
            clear h1 hg1
            go_wp2
            go_roundw
            case rel => exact ⟨k + 1, by omega, by go_num, by rw [HE.out]; exact HR.out.1, HR.out.2⟩
            case measure => simp [intOf]; omega
          · have HA2 := Lib.hid ha
            clear ha
            obtain ⟨L, hL⟩ : ∃ L, L = xs.length := ⟨_, rfl⟩
            rw [← hL] at HO ⊢
            have HLe := Lib.hid hL
            clear hL
            by_cases x0 : xs = []
            · obtain rfl : L = 0 := by rw [HLe.out, x0]; rfl
              have HX := Lib.hid x0
              clear x0
              go_wp2_with (at_builtin; refine wpList_append_own _ rfl (.tmp 26) (.tmp 28) 27 rfl w.heap.size 3 i0 (.int .i64 0) 1 8 Try.underlying27 hi hz0 hz1 hz2 rfl (by decide) _ _ _ rfl (HO.out.alloc _) ⟨wr.heap.size, 0, none⟩ 1 1 [.int .i64 z] rfl rfl (k2.out _) k3.out k4.out k5.out (k6.out _) ?_)
              intro v1 w1 h1 hg1 _
              have HR := Lib.hid (told_rel HB.out HO.out h1 hg1)
              clear h1 hg1
              go_wp2
              go_roundw
              case rel => exact ⟨k + 1, by omega, by go_num, by rw [HE.out]; exact HR.out.1, HR.out.2⟩
              case measure => simp [intOf]; omega
            · have hlen : 0 < xs.length := List.length_pos_iff.2 x0
              have p1 : 0 < L := by rw [HLe.out]; exact hlen
              have p0 : ((L : Int) == 0) = false := by simp; omega
              have hcx := HA2.out 0 hlen
              have hx : (xs.getD 0 0 != z) = true := by
                rcases HA.out with h | h
                · exact absurd h x0
                · simpa using h
              obtain ⟨y, hy⟩ : ∃ y, y = xs.getD 0 0 := ⟨_, rfl⟩
              rw [← hy] at hcx hx
              clear hy hlen x0
              go_wp2_with (at_builtin; refine wpList_append_own _ rfl (.tmp 26) (.tmp 28) 27 rfl w.heap.size 3 i0 (.int .i64 0) 1 8 Try.underlying27 hi hz0 hz1 hz2 rfl (by decide) _ _ _ rfl (HO.out.alloc _) ⟨wr.heap.size, 0, none⟩ 1 1 [.int .i64 z] rfl rfl (k2.out _) k3.out k4.out k5.out (k6.out _) ?_)
              intro v1 w1 h1 hg1 _
              have HR := Lib.hid (told_rel HB.out HO.out h1 hg1)
              clear h1 hg1
              go_wp2
              go_roundw
              case rel => exact ⟨k + 1, by omega, by go_num, by rw [HE.out]; exact HR.out.1, HR.out.2⟩
              case measure => simp [intOf]; omega
        · have HE := Lib.hid (show GrG.toldL (zs.take (k + 1)) = xs by rw [HS.out, GrG.stepT, if_neg (fun h => app h.2)])
          rcases HO.out.opened with ⟨rfl, rfl⟩ | ⟨g, cap2, rfl, hg, ha⟩
          · exact absurd (Or.inl rfl) app
          · have HA2 := Lib.hid ha
            clear ha
            obtain ⟨L, hL⟩ : ∃ L, L = xs.length := ⟨_, rfl⟩
            rw [← hL] at HO ⊢
            have HLe := Lib.hid hL
            clear hL
            have x0 : xs ≠ [] := fun h => app (.inl h)
            have hlen : 0 < xs.length := List.length_pos_iff.2 x0
            have p1 : 0 < L := by rw [HLe.out]; exact hlen
            have p0 : ((L : Int) == 0) = false := by simp; omega
            have hcx := HA2.out 0 hlen
            have hx : (xs.getD 0 0 != z) = false := by
              have : xs.getD 0 0 = z := Classical.byContradiction fun hne => app (.inr hne)
              simpa using this
            obtain ⟨y, hy⟩ : ∃ y, y = xs.getD 0 0 := ⟨_, rfl⟩
            rw [← hy] at hcx hx
            clear hy hlen x0 app
            go_wp2
            go_roundw
            case rel => exact ⟨k + 1, by omega, by go_num, by rw [HE.out]; exact HO.out, HB.out⟩
            case measure => simp [intOf]; omega
    · have HE := Lib.hid (show GrG.toldL (zs.take k) = GrG.toldL zs by rw [List.take_of_length_le (by omega)])
      go_wp2
      go_ret
      exact ⟨_, rfl, by rw [← HE.out]; exact HO.out.iv, HB.out⟩
end Go.Proofs.Ytnehdgapcgbdeaa
