/-
  Layer 1, the walks: the page's tables: Empty.
-/
import Derived.Test.YtjgfnemdklljmaaAg
import Derived.Laws.MakeOwn
set_option linter.unusedSimpArgs false
set_option linter.unusedVariables false
namespace GrR
open Go
def outerC (O n : Nat) : List Value := (List.range n).map fun i => .slice (some ⟨O + 1 + i, 0, none⟩) n n
def boolC (n : Nat) (f : Nat → Bool) : List Value := (List.range n).map fun j => .bool (f j)
theorem boolC_get {n : Nat} {f : Nat → Bool} {j : Nat} (h : j < n) : (boolC n f)[j]? = some (.bool (f j)) := by
  simp [boolC, h]
theorem outerC_get {O n i : Nat} (h : i < n) : (outerC O n)[i]? = some (.slice (some ⟨O + 1 + i, 0, none⟩) n n) := by
  simp [outerC, h]
theorem boolC_set (n : Nat) (f : Nat → Bool) (j : Nat) (b : Bool) : (boolC n f).set j (.bool b) = boolC n (fun k => if k = j then b else f k) := by
  unfold boolC
  apply List.ext_getElem?
  intro k
  rw [List.getElem?_set]
  by_cases c : j = k
  · subst c
    by_cases d : j < n
    · simp [d]
    · simp [d]
  · rw [if_neg c]
    by_cases d : k < n
    · have : ¬ k = j := by omega
      simp [d, this]
    · simp [d]
/-- one mark put anew -/
def putM (T : Mx) (a b : Nat) (v : Bool) : Mx := fun i j => if i = a then (if j = b then v else T i j) else T i j
end GrR
namespace Go.Proofs.Ytjgfnemdklljmaa
open Go.RowKit GrR

theorem made_one (z : Value) (n : Nat) : madeCells #[z] (n * 1) = (List.replicate n z).toArray := by
  unfold madeCells
  apply Array.ext
  · simp
  · intro i h1 h2
    simp [Nat.mod_one]
theorem boolInfo : (Try.prog.info? 4).map (fun i => (i.zero, i.size, i.bytes)) = some (some (.bool false), 1, 1) := by kernel_rfl
theorem boolsInfo : (Try.prog.info? 44).map (fun i => (i.zero, i.size, i.bytes)) = some (some (.slice none 0 0), 1, 24) := by kernel_rfl
theorem make_bools (n : Nat) (hn : n ≤ 1000) (w : World) : (Instr.makeSlice 44 (.int .i64 (n : Int)) (.int .i64 (n : Int))).run Try.prog w = .ok (.slice (some ⟨w.heap.size, 0, none⟩) n n) (w.alloc (.cells (boolC n (fun _ => false)).toArray 4)) := by
  obtain ⟨i0, hi, hz0, hz1, hz2⟩ := info_parts boolInfo
  have := run_make (P := Try.prog) w 44 4 i0 _ Try.underlying44 hi hz0 .i64 .i64 (n : Int) (n : Int) (by omega) (Int.le_refl _) (by rw [hz2]; omega) (by omega)
  rw [this]
  simp only [Int.toNat_natCast, hz1]
  rw [show (Value.bool false).cells = #[Value.bool false] from rfl, made_one]
  simp [boolC, List.map_const']
theorem make_table (n : Nat) (hn : n ≤ 1000) (w : World) : (Instr.makeSlice 29 (.int .i64 (n : Int)) (.int .i64 (n : Int))).run Try.prog w = .ok (.slice (some ⟨w.heap.size, 0, none⟩) n n) (w.alloc (.cells (List.replicate n (Value.slice none 0 0)).toArray 44)) := by
  obtain ⟨i0, hi, hz0, hz1, hz2⟩ := info_parts boolsInfo
  have := run_make (P := Try.prog) w 29 44 i0 _ Try.underlying29 hi hz0 .i64 .i64 (n : Int) (n : Int) (by omega) (Int.le_refl _) (by rw [hz2]; omega) (by omega)
  rw [this]
  simp only [Int.toNat_natCast, hz1]
  rw [show (Value.slice none 0 0).cells = #[Value.slice none 0 0] from rfl, made_one]

/-- a table lies in the blocks from O on -/
structure TabAt (w : World) (O n : Nat) (T : Mx) : Prop where
  outer : Row w O (outerC O n) 44
  rows : ∀ i, i < n → Row w (O + 1 + i) (boolC n (T i)) 4
theorem TabAt.below {V U : World} {O n : Nat} {T : Mx} (h : TabAt V O n T) (k : Below V.heap.size V U) : TabAt U O n T := ⟨h.outer.below k, fun i hi => (h.rows i hi).below k⟩
theorem TabAt.eqT {w : World} {O n : Nat} {T U : Mx} (h : TabAt w O n T) (e : ∀ i j, i < n → j < n → T i j = U i j) : TabAt w O n U := by
  refine ⟨h.outer, fun i hi => ?_⟩
  have : boolC n (T i) = boolC n (U i) := List.map_congr_left fun j hj => by rw [e i j hi (List.mem_range.1 hj)]
  rw [← this]
  exact h.rows i hi
theorem TabAt.lt {w : World} {O n : Nat} {T : Mx} (h : TabAt w O n T) : O + n < w.heap.size := by
  by_cases c : n = 0
  · have := h.outer.lt; omega
  · have := (h.rows (n - 1) (by omega)).lt; omega
theorem TabAt.row {w : World} {O n : Nat} {T : Mx} (h : TabAt w O n T) (i : Nat) (hi : i < n) (U : World) (k : Below w.heap.size w U) : U.cell? ⟨O, i, none⟩ = some (.slice (some ⟨O + 1 + i, 0, none⟩) n n) := by
  rw [(h.outer.below k).cell, outerC_get hi]
theorem TabAt.bit {w : World} {O n : Nat} {T : Mx} (h : TabAt w O n T) (i j : Nat) (hi : i < n) (hj : j < n) (U : World) (k : Below w.heap.size w U) : U.cell? ⟨O + 1 + i, j, none⟩ = some (.bool (T i j)) := by
  rw [((h.rows i hi).below k).cell, boolC_get hj]
theorem TabAt.free {w : World} {O n : Nat} {T : Mx} (h : TabAt w O n T) (i : Nat) (hi : i < n) (U : World) (k : Below w.heap.size w U) (j : Nat) : U.frozen? ⟨O + 1 + i, j, none⟩ = false := ((h.rows i hi).below k).free j
theorem TabAt.put {w : World} {O n : Nat} {T : Mx} (h : TabAt w O n T) {a : Nat} (b : Nat) (v : Bool) (ha : a < n) : TabAt (w.setCell ⟨O + 1 + a, b, none⟩ (.bool v)) O n (putM T a b v) := by
  refine ⟨h.outer.oth (by omega) _ _, fun i hi => ?_⟩
  by_cases c : i = a
  · subst c
    have e : boolC n (putM T i b v i) = (boolC n (T i)).set b (.bool v) := by
      rw [boolC_set]
      unfold putM
      simp
    rw [e]
    exact (h.rows i hi).set b _
  · have e : boolC n (putM T a b v i) = boolC n (T i) := by
      unfold putM
      simp [c]
    rw [e]
    exact (h.rows i hi).oth (by omega) _ _

set_option maxRecDepth 100000 in
set_option maxHeartbeats 1600000 in
theorem empty_any (n : Nat) (w : World) (hn : n ≤ 1000) :
    Calls Try.prog 46 #[.int .i64 (n : Int)] w fun e w' => e = .returned (.slice (some ⟨w.heap.size, 0, none⟩) n n) ∧ TabAt w' w.heap.size n emptyM ∧ Below w.heap.size w w' := by
  have M1 := make_table n hn w
  have M2 := Lib.hid (make_bools n hn)
  have R0 := Lib.hid (Row.new w (List.replicate n (Value.slice none 0 0)) 44)
  have B0 := Lib.hid (KB.alloc (Below.refl _ w) (.cells (List.replicate n (Value.slice none 0 0)).toArray 44))
  have HN := Lib.hid hn
  have S0 := Lib.hid (show (w.alloc (.cells (List.replicate n (Value.slice none 0 0)).toArray 44)).heap.size = w.heap.size + 1 from by simp)
  clear hn
  go_enter Try.func46, Try.ntmps46
  go_upto_region 2 with fail
  clear M1
  go_wp2_with fail
  go_loopw [4] (fun i wr => ∃ k : Nat, k ≤ n ∧ i = .int .i64 (k : Int) ∧ Row wr w.heap.size ((List.range n).map fun i => if i < k then Value.slice (some ⟨w.heap.size + 1 + i, 0, none⟩) n n else .slice none 0 0) 44 ∧ (∀ i, i < k → Row wr (w.heap.size + 1 + i) (boolC n (fun _ => false)) 4) ∧ wr.heap.size = w.heap.size + 1 + k ∧ Below w.heap.size w wr) (fun i _ => n - (intOf i).toNat)
  case atStart =>
    refine ⟨0, by omega, rfl, ?_, fun i hi => absurd hi (by omega), S0.out, B0.out⟩
    have e : ((List.range n).map fun i => if i < 0 then Value.slice (some ⟨w.heap.size + 1 + i, 0, none⟩) n n else .slice none 0 0) = List.replicate n (Value.slice none 0 0) := by simp [List.map_const']
    rw [e]
    exact R0.out
  case round =>
    clear R0 B0 S0
    obtain ⟨k, hk, rfl, hr, hs, hz, hb⟩ := hrel
    have HR := Lib.hid hr
    have HS := Lib.hid hs
    have HZ := Lib.hid hz
    have HB := Lib.hid hb
    clear hr hs hz hb
    by_cases ck : k < n
    · have k1 : (k : Int) < (n : Int) := by omega
      have k0 : (0 : Int) ≤ (k : Int) := by omega
      have k3 : (k : Int) ≤ 1000 := by have := HN.out; omega
      have M1 := M2.out wr
      rw [HZ.out] at M1
      have o0 : (wr.alloc (.cells (boolC n (fun _ => false)).toArray 4)).cell? ⟨w.heap.size, k, none⟩ = some (.slice none 0 0) := by
        rw [(HR.out.old _).cell]
        simp [ck]
      have f0 : (wr.alloc (.cells (boolC n (fun _ => false)).toArray 4)).frozen? ⟨w.heap.size, k, none⟩ = false := (HR.out.old _).free k
      go_wp2_with fail
      have R3 := Lib.hid (((HR.out.old (.cells (boolC n (fun _ => false)).toArray 4)).set k (.slice (some ⟨w.heap.size + 1 + k, 0, none⟩) n n)))
      have S3 := Lib.hid (show ∀ i, i < k + 1 → Row ((wr.alloc (.cells (boolC n (fun _ => false)).toArray 4)).setCell ⟨w.heap.size, k, none⟩ (.slice (some ⟨w.heap.size + 1 + k, 0, none⟩) n n)) (w.heap.size + 1 + i) (boolC n (fun _ => false)) 4 from fun i hi => by
        refine Row.oth ?_ (by omega) _ _
        by_cases e : i = k
        · subst e
          exact Row.new' wr _ _ _ HZ.out
        · exact (HS.out i (by omega)).old _)
      have B3 := Lib.hid (KB.put (KB.alloc HB.out (.cells (boolC n (fun _ => false)).toArray 4)) (Nat.le_refl _) k (.slice (some ⟨w.heap.size + 1 + k, 0, none⟩) n n))
      clear M1 o0 f0
      go_roundw
      case rel =>
        refine ⟨k + 1, by omega, by go_num, ?_, S3.out, by simp [HZ.out]; omega, B3.out⟩
        have e : ((List.range n).map fun i => if i < k + 1 then Value.slice (some ⟨w.heap.size + 1 + i, 0, none⟩) n n else .slice none 0 0) = ((List.range n).map fun i => if i < k then Value.slice (some ⟨w.heap.size + 1 + i, 0, none⟩) n n else .slice none 0 0).set k (.slice (some ⟨w.heap.size + 1 + k, 0, none⟩) n n) := by
          apply List.ext_getElem?
          intro j
          rw [List.getElem?_set]
          by_cases c : k = j
          · subst c; simp [ck]
          · rw [if_neg c]
            by_cases d : j < n
            · by_cases g : j < k
              · simp [d, g, show j < k + 1 by omega]
              · simp [d, g, show ¬ j < k + 1 by omega]
            · simp [d]
        rw [e]
        exact R3.out
      case measure => simp [intOf]; omega
    · obtain rfl : k = n := by omega
      have i2 : ¬ (k : Int) < (k : Int) := by omega
      go_wp2
      go_ret
      refine ⟨rfl, ⟨?_, HS.out⟩, HB.out⟩
      have e : outerC w.heap.size k = ((List.range k).map fun i => if i < k then Value.slice (some ⟨w.heap.size + 1 + i, 0, none⟩) k k else .slice none 0 0) := List.map_congr_left fun j hj => by rw [if_pos (List.mem_range.1 hj)]
      rw [e]
      exact HR.out
end Go.Proofs.Ytjgfnemdklljmaa
