/-
  Layer 5, the walks: Show; is a file the page's?
-/
import Derived.Test.YtnehdgapcgbdeaaGn
set_option linter.unusedSimpArgs false
set_option linter.unusedVariables false
namespace GrG
open Go
def shw (X : List Int) (k : Nat) : List Value := (X.take k ++ List.replicate (31 - k) 0).map (Value.int .u64)
theorem shw_zero (X : List Int) : shw X 0 = List.replicate 31 (.int .u64 0) := by simp [shw]
theorem shw_all (X : List Int) (h : X.length = 31) : shw X 31 = X.map (Value.int .u64) := by
  simp only [shw, Nat.sub_self, List.replicate_zero, List.append_nil]
  rw [List.take_of_length_le (by omega)]
theorem shw_get (X : List Int) (h : X.length = 31) (k : Nat) (hk : k < 31) : (shw X k)[k]? = some (.int .u64 0) := by
  simp only [shw, List.getElem?_map]
  rw [List.getElem?_append_right (by simp; omega), List.getElem?_replicate, if_pos (by simp; omega)]
  rfl
theorem shw_set (X : List Int) (h : X.length = 31) (k : Nat) (hk : k < 31) : (shw X k).set k (.int .u64 (X.getD k 0)) = shw X (k + 1) := by
  simp only [shw]
  rw [← List.map_set, List.set_append_right _ _ (by simp; omega), List.take_succ_eq_append_getElem (by omega)]
  have e : 31 - k = (31 - (k + 1)) + 1 := by omega
  rw [e, List.replicate_succ]
  simp only [List.length_take, Nat.min_eq_left (show k ≤ X.length by omega), Nat.sub_self, List.set_cons_zero]
  rw [List.getD_eq_getElem?_getD, List.getElem?_eq_getElem (by omega)]
  simp only [List.append_assoc, List.singleton_append, Option.getD_some]
end GrG
namespace Go.Proofs.Ytnehdgapcgbdeaa
open Go.RowKit
def ShowPost (X : List Int) (w : World) (e : Ending) (w' : World) : Prop := ∃ v, e = .returned v ∧ UV w' v X ∧ Below w.heap.size w w'

set_option maxRecDepth 100000 in
set_option maxHeartbeats 1600000 in
theorem show_any (B : Nat) (X Y : List Int) (s : Bool) (w : World) (h : FAt w B X s Y) :
    Calls Try.prog 41 #[.pointer (some ⟨B, 0, none⟩)] w (ShowPost X w) := by
  have H := Lib.hid h
  have GE := Lib.hid (fun k w h => get_any B X Y s k w h)
  have hmk : ∀ w : World, (Instr.makeSlice 29 (.int .i64 31) (.int .i64 31)).run Try.prog w = .ok (.slice (some ⟨w.heap.size, 0, none⟩) 31 31) (w.alloc (.cells (List.replicate 31 (.int .u64 0)).toArray 30)) := fun _ => by kernel_rfl
  clear h
  go_enter Try.func41, Try.ntmps41
  go_wp2_with fail
  go_loopw [8] (fun i wr => ∃ k : Nat, k ≤ 31 ∧ i = .int .i64 k ∧ wr.heap[w.heap.size]? = some (.cells (GrG.shw X k).toArray 30 (0, 0)) ∧ Below w.heap.size w wr) (fun i _ => 31 - (intOf i).toNat)
  case atStart => exact ⟨0, by omega, rfl, by rw [GrG.shw_zero]; exact heap_alloc_new w _, (Below.refl _ _).alloc (Nat.le_refl _) _⟩
  case round =>
    obtain ⟨k, hk, rfl, hm, hb⟩ := hrel
    have HM := Lib.hid hm
    have HB := Lib.hid hb
    clear hm hb
    by_cases c : k < 31
    · have F := Lib.hid (H.out.below HB.out)
      have gl := Lib.hid (show GrG.getL X (k : Int) = X.getD k 0 by rw [GrG.getL, if_pos (by simp [GrG.inR]; omega)]; simp)
      have G2 := Lib.hid (show Calls Try.prog 25 #[.pointer (some ⟨B, 0, none⟩), .int .i64 (k : Int)] wr fun e w' => e = .returned (.int .u64 (X.getD k 0)) ∧ wr = w' by rw [← gl.out]; exact GE.out _ _ F.out)
      have cm : wr.cell? ⟨w.heap.size, k, none⟩ = some (.int .u64 0) := by
        rw [cell_of_row wr _ k _ _ _ HM.out, List.getElem?_toArray]
        exact GrG.shw_get X H.out.lX k c
      have fm := frozen_of_row wr w.heap.size k _ _ HM.out
      obtain ⟨z, hz⟩ : ∃ z, z = X.getD k 0 := ⟨_, rfl⟩
      rw [← hz] at G2
      have HZ := Lib.hid hz
      clear hz
      have k0 : (0 : Int) ≤ (k : Int) := by omega
      have k1 : (k : Int) < 31 := by omega
      go_wp2_with (go_at_call 25; refine G2.out.mono ?_; rintro e w1 ⟨rfl, rfl⟩)
      go_roundw
      case rel => exact ⟨k + 1, by omega, by go_num, by
        rw [heap_setCell_same wr _ k _ _ _ HM.out, List.setIfInBounds_toArray, HZ.out, GrG.shw_set X H.out.lX k c], HB.out.setCell (by simp) _⟩
      case measure => simp [intOf]; omega
    · obtain rfl : 31 = k := by omega
      go_wp2
      go_ret
      refine ⟨_, rfl, ⟨H.out.lX, _, _, rfl, fun j hj => ?_⟩, HB.out⟩
      have hm := HM.out
      rw [GrG.shw_all X H.out.lX] at hm
      rw [cell_of_row wr _ j _ _ _ hm, List.getElem?_toArray, List.getElem?_map, List.getElem?_eq_getElem hj, List.getD_eq_getElem?_getD, List.getElem?_eq_getElem hj]
      rfl

set_option maxRecDepth 100000 in
set_option maxHeartbeats 3200000 in
theorem is_true (X Y : List Int) (s : Bool) (v sv : Value) (w : World) (lX : X.length = 31) (lY : Y.length = 3) (h : UV w v X) :
    Calls Try.prog 28 #[.agg (GrG.fcells X s Y).toArray, .agg #[v, .bool s, sv]] w fun e w' => e = .returned (.bool true) ∧ Below w.heap.size w w' := by
  obtain ⟨C, hC⟩ : ∃ C, C = GrG.fcells X s Y := ⟨_, rfl⟩
  rw [← hC]
  have HC := Lib.hid hC
  have LX := Lib.hid lX
  have LY := Lib.hid lY
  have HV := Lib.hid h
  clear h hC lX lY
  go_enter Try.func28, Try.ntmps28
  go_upto_region 1 with fail
  obtain ⟨W2, hW2⟩ : ∃ W, W = (w.alloc (.cells C.toArray 36)).alloc (.cells #[v, .bool s, sv] 38) := ⟨_, rfl⟩
  have B2 := Lib.hid (show Below w.heap.size w W2 by rw [hW2]; exact ((Below.refl _ _).alloc (Nat.le_refl _) _).alloc (by simp) _)
  have F2 := Lib.hid (show FAt W2 w.heap.size X s Y from ⟨by rw [hW2, HC.out]; exact heap_alloc2_old w _ _, LX.out, LY.out⟩)
  have P2 := Lib.hid (show W2.heap[w.heap.size + 1]? = some (.cells #[v, .bool s, sv] 38 (0, 0)) by rw [hW2]; exact heap_alloc2_new w _ _)
  rw [← hW2]
  clear hW2
  go_wp2_with fail
  refine (show_any w.heap.size X Y s W2 F2.out).mono ?_
  rintro e w3 ⟨v2, rfl, ⟨_, g2, cap2, rfl, ha2⟩, b3⟩
  obtain ⟨_, g1, cap1, rfl, ha1⟩ := HV.out.keep (B2.out.trans (b3.mono B2.out.size))
  have A1 := Lib.hid ha1
  have A2 := Lib.hid ha2
  have F3 := Lib.hid (F2.out.below b3)
  have hlt : w.heap.size + 1 < W2.heap.size := by
    by_cases c : w.heap.size + 1 < W2.heap.size
    · exact c
    · have := P2.out
      rw [Array.getElem?_eq_none (by omega)] at this
      cases this
  have P3 := Lib.hid (show w3.heap[w.heap.size + 1]? = _ from (b3.block _ hlt).trans P2.out)
  have B3 := Lib.hid (B2.out.trans (b3.mono B2.out.size))
  have L3 := Lib.hid (show w.heap.size + 1 < w3.heap.size by have := b3.size; omega)
  have c31 := F3.out.same
  have p1 := cell_of_row w3 (w.heap.size + 1) 1 _ _ _ P3.out
  simp only [List.getElem?_toArray, List.getElem?_cons_zero, List.getElem?_cons_succ] at p1
  clear ha1 ha2 b3 hlt
  go_wp2_with fail
  go_loopw [6] (fun i wr => ∃ k : Nat, k ≤ 31 ∧ i = .int .i64 k ∧ Below w3.heap.size w3 wr) (fun i _ => 31 - (intOf i).toNat)
  case atStart => exact ⟨0, by omega, rfl, Below.refl _ _⟩
  case round =>
    clear c31 p1
    obtain ⟨k, hk, rfl, hb⟩ := hrel
    have HB := Lib.hid hb
    clear hb
    by_cases c : k < 31
    · have lx := LX.out
      have KB := Lib.hid (fun x : Wb wr => HB.out.trans (x.bel.mono HB.out.size))
      have x1 : ∀ x : Wb wr, x.at.cell? ⟨g1, k, none⟩ = some (.int .u64 (X.getD k 0)) := fun x => (A1.out.keep (KB.out x)) k (by omega)
      have x2 : ∀ x : Wb wr, x.at.cell? ⟨g2, k, none⟩ = some (.int .u64 (X.getD k 0)) := fun x => (A2.out.keep (KB.out x)) k (by omega)
      have x3 : ∀ x : Wb wr, x.at.cell? ⟨w.heap.size + 1, 0, none⟩ = some (.slice (some ⟨g1, 0, none⟩) 31 cap1) := fun x => by
        rw [(KB.out x).cell (p := ⟨w.heap.size + 1, 0, none⟩) L3.out, cell_of_row w3 _ 0 _ _ _ P3.out]; rfl
      have gl : GrG.getL X (k : Int) = X.getD k 0 := by rw [GrG.getL, if_pos (by simp [GrG.inR]; omega)]; simp
      have GG := Lib.hid (show ∀ x : Wb wr, Calls Try.prog 25 #[.pointer (some ⟨w.heap.size, 0, none⟩), .int .i64 (k : Int)] x.at fun e w' => e = .returned (.int .u64 (X.getD k 0)) ∧ Below x.at.heap.size x.at w' from fun x => by rw [← gl]; exact get_below _ X Y s k _ (F3.out.below (KB.out x)))
      obtain ⟨z, hz⟩ : ∃ z, z = X.getD k 0 := ⟨_, rfl⟩
      rw [← hz] at x1 x2 GG
      clear hz gl lx
      have k0 : (0 : Int) ≤ (k : Int) := by omega
      have k1 : (k : Int) < 31 := by omega
      go_wp2_with fail
      refine wp_region_wb (by kernel_rfl) (by kernel_rfl) ?_
      repeat (go_big_quiet_step ((go_at_call 25; exact Calls.wb (GG.out _))))
      refine wpQuiet_nil ?_
      rintro _ ⟨y, rfl⟩
      go_wp2
      go_roundw
      case rel => exact ⟨k + 1, by omega, by go_num, KB.out y⟩
      case measure => simp [intOf]; omega
    · go_wp2
      go_ret
      exact ⟨rfl, B3.out.trans (HB.out.mono B3.out.size)⟩
end Go.Proofs.Ytnehdgapcgbdeaa
