/-
  Layer 5, the walks: Get, Set, Where, Taken; what a call leaves alone.
-/
import Derived.Test.YtnehdgapcgbdeaaGb
import Derived.Test.YtnehdgapcgbdeaaBt
set_option linter.unusedSimpArgs false
set_option linter.unusedVariables false
namespace GrG
open Go
def inR (n : Int) : Bool := decide (0 ≤ n) && decide (n < 31)
def getL (X : List Int) (n : Int) : Int := if inR n = true then X.getD n.toNat 0 else 0
def setL (X : List Int) (n v : Int) : List Int := if inR n = true then X.set n.toNat v else X
theorem setL_len {X : List Int} {n v : Int} : (setL X n v).length = X.length := by unfold setL; split <;> simp
end GrG
namespace Go.Proofs.Ytnehdgapcgbdeaa
open Go.RowKit

/-- all blocks but one are as they were -/
structure Only (B : Nat) (w w' : World) : Prop where
  os : w'.os = w.os
  tape : w'.tape = w.tape
  output : w'.output = w.output
  size : w.heap.size ≤ w'.heap.size
  block : ∀ k, k < w.heap.size → k ≠ B → w'.heap[k]? = w.heap[k]?
theorem Only.refl (B : Nat) (w : World) : Only B w w := ⟨rfl, rfl, rfl, Nat.le_refl _, fun _ _ _ => rfl⟩
theorem Only.trans {B : Nat} {a b c : World} (h : Only B a b) (k : Only B b c) : Only B a c :=
  ⟨k.os.trans h.os, k.tape.trans h.tape, k.output.trans h.output, Nat.le_trans h.size k.size, fun i hi hn => (k.block i (by have := h.size; omega) hn).trans (h.block i hi hn)⟩
theorem Only.of_below {B : Nat} {w w' : World} (h : Below w.heap.size w w') : Only B w w' := ⟨h.os, h.tape, h.output, h.size, fun k hk _ => h.block k hk⟩
theorem Only.set {B i : Nat} (w : World) (v : Value) : Only B w (w.setCell ⟨B, i, none⟩ v) := by
  have h := (Below.refl 0 w).setCell (p := ⟨B, i, none⟩) (Nat.zero_le _) v
  exact ⟨h.os, h.tape, h.output, h.size, fun k _ hn => Below.heap_setCell _ _ _ _ hn⟩
theorem Only.below {B b : Nat} {w w' : World} (h : Only B w w') (h1 : b ≤ B) (h2 : b ≤ w.heap.size) : Below b w w' := ⟨h.os, h.tape, h.output, h.size, fun k hk => h.block k (by omega) (by omega)⟩

/-- a file of registers lies in a block -/
structure FAt (w : World) (B : Nat) (X : List Int) (s : Bool) (Y : List Int) : Prop where
  heap : w.heap[B]? = some (.cells (GrG.fcells X s Y).toArray 36 (0, 0))
  lX : X.length = 31
  lY : Y.length = 3
theorem FAt.lt {w : World} {B : Nat} {X Y : List Int} {s : Bool} (h : FAt w B X s Y) : B < w.heap.size := by
  by_cases c : B < w.heap.size
  · exact c
  · have := h.heap
    rw [Array.getElem?_eq_none (by omega)] at this
    cases this
theorem FAt.reg {w : World} {B : Nat} {X Y : List Int} {s : Bool} (h : FAt w B X s Y) (i : Nat) (hi : i < 31) : w.cell? ⟨B, i, none⟩ = some (.int .u64 (X.getD i 0)) := by
  rw [cell_of_row w B i _ _ _ h.heap, List.getElem?_toArray, GrG.fcells, List.getElem?_append_left (by simp [h.lX]; omega), List.getElem?_map, List.getElem?_eq_getElem (by rw [h.lX]; omega), List.getD_eq_getElem?_getD, List.getElem?_eq_getElem (by rw [h.lX]; omega)]
  rfl
theorem FAt.same {w : World} {B : Nat} {X Y : List Int} {s : Bool} (h : FAt w B X s Y) : w.cell? ⟨B, 31, none⟩ = some (.bool s) := by
  rw [cell_of_row w B 31 _ _ _ h.heap, List.getElem?_toArray, GrG.fcells, List.getElem?_append_right (by simp [h.lX])]
  simp [h.lX]
theorem FAt.sys {w : World} {B : Nat} {X Y : List Int} {s : Bool} (h : FAt w B X s Y) (i : Nat) (hi : i < 3) : w.cell? ⟨B, 32 + i, none⟩ = some (.int .u64 (Y.getD i 0)) := by
  rw [cell_of_row w B (32 + i) _ _ _ h.heap, List.getElem?_toArray, GrG.fcells, List.getElem?_append_right (by simp [h.lX]; omega)]
  simp only [List.length_map, h.lX]
  rw [show 32 + i - 31 = i + 1 by omega, List.getElem?_cons_succ, List.getElem?_map, List.getElem?_eq_getElem (by rw [h.lY]; omega), List.getD_eq_getElem?_getD, List.getElem?_eq_getElem (by rw [h.lY]; omega)]
  rfl
theorem FAt.free {w : World} {B : Nat} {X Y : List Int} {s : Bool} (h : FAt w B X s Y) (i : Nat) : w.frozen? ⟨B, i, none⟩ = false := frozen_of_row w B i _ _ h.heap
theorem FAt.keep {w w' : World} {B : Nat} {X Y : List Int} {s : Bool} (h : FAt w B X s Y) (e : w'.heap[B]? = w.heap[B]?) : FAt w' B X s Y := ⟨e.trans h.heap, h.lX, h.lY⟩
theorem FAt.below {w w' : World} {B : Nat} {X Y : List Int} {s : Bool} (h : FAt w B X s Y) (b : Below w.heap.size w w') : FAt w' B X s Y := h.keep (b.block B h.lt)
theorem FAt.other {w w' : World} {B C : Nat} {X Y : List Int} {s : Bool} (h : FAt w B X s Y) (b : Only C w w') (hn : B ≠ C) : FAt w' B X s Y := h.keep (b.block B h.lt hn)
theorem FAt.set_reg {w : World} {B : Nat} {X Y : List Int} {s : Bool} (h : FAt w B X s Y) (i : Nat) (hi : i < 31) (v : Int) : FAt (w.setCell ⟨B, i, none⟩ (.int .u64 v)) B (X.set i v) s Y := by
  refine ⟨?_, by simp [h.lX], h.lY⟩
  rw [heap_setCell_same w B i _ _ _ h.heap]
  congr 2
  simp only [List.setIfInBounds_toArray]
  congr 1
  simp only [GrG.fcells]
  rw [List.set_append_left _ _ (by simp [h.lX]; omega), List.map_set]
theorem FAt.set_same {w : World} {B : Nat} {X Y : List Int} {s : Bool} (h : FAt w B X s Y) (t : Bool) : FAt (w.setCell ⟨B, 31, none⟩ (.bool t)) B X t Y := by
  refine ⟨?_, h.lX, h.lY⟩
  rw [heap_setCell_same w B 31 _ _ _ h.heap]
  congr 2
  simp only [List.setIfInBounds_toArray]
  congr 1
  simp only [GrG.fcells]
  rw [List.set_append_right _ _ (by simp [h.lX])]
  simp [h.lX]

theorem ret_bb {a b : Bool} (h : a = b) : Ending.returned (.bool a) = .returned (.bool b) := by rw [h]
theorem ret_u {a b : Int} (h : a = b) : Ending.returned (.int .u64 a) = .returned (.int .u64 b) := by rw [h]
set_option maxHeartbeats 800000 in
theorem get_any (B : Nat) (X Y : List Int) (s : Bool) (n : Int) (w : World) (h : FAt w B X s Y) :
    Calls Try.prog 25 #[.pointer (some ⟨B, 0, none⟩), .int .i64 n] w fun e w' => e = .returned (.int .u64 (GrG.getL X n)) ∧ w = w' := by
  have E := Lib.hid (show GrG.getL X n = if GrG.inR n = true then X.getD n.toNat 0 else 0 from rfl)
  by_cases c0 : n < 0
  · have c1 : decide (n < 0) = true := by simpa using c0
    have R := Lib.hid (show GrG.getL X n = 0 by rw [E.out, if_neg (by simp [GrG.inR]; omega)])
    clear h E
    go_enter Try.func25, Try.ntmps25
    go_wp2
    go_ret
    exact ⟨ret_u R.out.symm, rfl⟩
  · have c1 : decide (n < 0) = false := by simpa using c0
    by_cases c2 : 31 ≤ n
    · have c3 : decide (31 ≤ n) = true := by simpa using c2
      have c4 : decide (n ≥ 31) = true := by simpa using c2
      have R := Lib.hid (show GrG.getL X n = 0 by rw [E.out, if_neg (by simp [GrG.inR]; omega)])
      clear h E
      go_enter Try.func25, Try.ntmps25
      go_wp2
      go_ret
      exact ⟨ret_u R.out.symm, rfl⟩
    · have c3 : decide (31 ≤ n) = false := by simpa using c2
      have R := Lib.hid (show GrG.getL X n = X.getD n.toNat 0 by rw [E.out, if_pos (by simp [GrG.inR]; omega)])
      have hc := h.reg n.toNat (by omega)
      have n0 : 0 ≤ n := by omega
      have n1 : n < 31 := by omega
      obtain ⟨V, hV⟩ : ∃ V, V = X.getD n.toNat 0 := ⟨_, rfl⟩
      rw [← hV] at hc R
      clear hV h E c0 c2
      go_enter Try.func25, Try.ntmps25
      go_wp2
      go_ret
      exact ⟨ret_u R.out.symm, rfl⟩
def SetPost (B : Nat) (X Y : List Int) (s : Bool) (n v : Int) (w : World) (e : Ending) (w' : World) : Prop := e = .returned (.tuple #[]) ∧ Only B w w' ∧ FAt w' B (GrG.setL X n v) s Y
set_option maxHeartbeats 800000 in
theorem set_any (B : Nat) (X Y : List Int) (s : Bool) (n v : Int) (w : World) (h : FAt w B X s Y) :
    Calls Try.prog 27 #[.pointer (some ⟨B, 0, none⟩), .int .i64 n, .int .u64 v] w (SetPost B X Y s n v w) := by
  have H := Lib.hid h
  have E := Lib.hid (show GrG.setL X n v = if GrG.inR n = true then X.set n.toNat v else X from rfl)
  by_cases c0 : n < 0
  · have c1 : decide (0 ≤ n) = false := by simp; omega
    have R := Lib.hid (show GrG.setL X n v = X by rw [E.out, if_neg (by simp [GrG.inR]; omega)])
    clear h E
    go_enter Try.func27, Try.ntmps27
    go_wp2
    go_end0
    exact ⟨rfl, Only.refl _ _, by rw [R.out]; exact H.out⟩
  · by_cases c2 : 31 ≤ n
    · have c1 : decide (0 ≤ n) = true := by simp; omega
      have c3 : decide (n < 31) = false := by simp; omega
      have R := Lib.hid (show GrG.setL X n v = X by rw [E.out, if_neg (by simp [GrG.inR]; omega)])
      clear h E
      go_enter Try.func27, Try.ntmps27
      go_wp2
      go_end0
      exact ⟨rfl, Only.refl _ _, by rw [R.out]; exact H.out⟩
    · have R := Lib.hid (show GrG.setL X n v = X.set n.toNat v by rw [E.out, if_pos (by simp [GrG.inR]; omega)])
      have c1 : decide (0 ≤ n) = true := by simp; omega
      have c3 : decide (n < 31) = true := by simp; omega
      have hc := h.reg n.toNat (by omega)
      have hf := h.free n.toNat
      have n0 : 0 ≤ n := by omega
      have n1 : n < 31 := by omega
      have F := Lib.hid (h.set_reg n.toNat (by omega) v)
      obtain ⟨V, hV⟩ : ∃ V, V = X.getD n.toNat 0 := ⟨_, rfl⟩
      rw [← hV] at hc
      clear hV h E c0 c2
      go_enter Try.func27, Try.ntmps27
      go_wp2
      go_end0
      exact ⟨rfl, Only.set _ _, by rw [R.out]; exact F.out⟩
end Go.Proofs.Ytnehdgapcgbdeaa
