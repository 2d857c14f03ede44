/-
  Layer 5, the walks: a file of registers in memory; Of.
-/
import Derived.Test.YtnehdgapcgbdeaaBr
import Derived.Laws.Rows
import Derived.Laws.CopyOwn
set_option linter.unusedSimpArgs false
set_option linter.unusedVariables false
namespace GrG
open Go
/-- a file's cells -/
def fcells (X : List Int) (s : Bool) (Y : List Int) : List Value := X.map (Value.int .u64) ++ .bool s :: Y.map (Value.int .u64)
theorem fcells_len {X Y : List Int} {s : Bool} (hX : X.length = 31) (hY : Y.length = 3) : (fcells X s Y).length = 35 := by simp [fcells, hX, hY]
/-- a list as registers: so many as there are -/
def regsOf (zs : List Int) : List Int := zs.take 31 ++ List.replicate (31 - zs.length) 0
theorem regsOf_len (zs : List Int) : (regsOf zs).length = 31 := by simp [regsOf]; omega
theorem fl (zs : List Int) : (fcells (regsOf zs) false [0, 0, 0]).length = 35 := fcells_len (regsOf_len zs) rfl
theorem splice_regs (zs : List Int) : Go.splice (fcells (List.replicate 31 0) false [0, 0, 0]) 0 ((zs.take 31).map (Value.int .u64)) = fcells (regsOf zs) false [0, 0, 0] := by
  simp only [Go.splice, fcells, regsOf, List.take_zero, List.nil_append, Nat.zero_add, List.length_map, List.map_append, List.append_assoc, List.map_replicate]
  congr 1
  rw [List.drop_append_of_le_length (by simp; omega), List.drop_replicate]
  congr 2
  simp
  omega
theorem fcells_one (X : List Int) (s : Bool) (Y : List Int) : (fcells X s Y).toArray.all (·.oneCell') = true := by
  rw [Array.all_eq_true_iff_forall_mem]
  intro v hv
  simp [fcells] at hv
  rcases hv with ⟨a, _, rfl⟩ | rfl | ⟨a, _, rfl⟩ <;> rfl
end GrG
namespace Go.Proofs.Ytnehdgapcgbdeaa
open Go.RowKit

/-- a slice of words: where it lies -/
def USl (w : World) (p : Option Addr) (len : Nat) (zs : List Int) : Prop := zs.length = len ∧ ∀ j, j < len → ∃ ad, p = some ad ∧ w.cell? (ad.add j) = some (.int .u64 (zs.getD j 0))
theorem USl.src {w w2 : World} {p : Option Addr} {len : Nat} {zs : List Int} (h : USl w p len zs) (hb : Below w.heap.size w w2) :
    0 < ((zs.take 31).map (Value.int .u64)).length → ∃ ad, p = some ad ∧ ∀ j v, ((zs.take 31).map (Value.int .u64))[j]? = some v → w2.cell? (ad.add j) = some v := by
  intro h0
  obtain ⟨hl, hz⟩ := h
  simp at h0
  obtain ⟨ad, rfl, _⟩ := hz 0 (by omega)
  refine ⟨ad, rfl, fun j v hv => ?_⟩
  simp only [List.getElem?_map, List.getElem?_take] at hv
  split at hv
  · rename_i hj
    by_cases hjl : j < len
    · obtain ⟨ad', e, hc⟩ := hz j hjl
      obtain rfl := Option.some.inj e
      rw [hb.cell (by have := World.block_lt_of_cell? w _ hc; simpa using this), hc]
      rw [List.getElem?_eq_getElem (by omega)] at hv
      simp only [Option.map_some] at hv
      rw [← hv, List.getD_eq_getElem?_getD, List.getElem?_eq_getElem (by omega)]
      rfl
    · rw [List.getElem?_eq_none (by omega)] at hv
      simp at hv
  · simp at hv
theorem sizeF : (Try.prog.info? 36).map (·.size) = some 35 := by kernel_rfl

set_option maxRecDepth 100000 in
set_option maxHeartbeats 3200000 in
theorem of_any (p : Option Addr) (len cap : Nat) (zs : List Int) (w : World) (hz : USl w p len zs) :
    Calls Try.prog 33 #[.slice p len cap] w fun e w' => e = .returned (.agg (GrG.fcells (GrG.regsOf zs) false [0, 0, 0]).toArray) ∧ Below w.heap.size w w' := by
  have HZ := Lib.hid hz
  clear hz
  go_enter Try.func33, Try.ntmps33
  go_upto_region 2 with fail
  obtain ⟨w2, hw2⟩ : ∃ w2, w2 = (w.alloc (.cells #[.int .u64 0, .int .u64 0, .int .u64 0, .int .u64 0, .int .u64 0, .int .u64 0, .int .u64 0, .int .u64 0, .int .u64 0, .int .u64 0, .int .u64 0, .int .u64 0, .int .u64 0, .int .u64 0, .int .u64 0, .int .u64 0, .int .u64 0, .int .u64 0, .int .u64 0, .int .u64 0, .int .u64 0, .int .u64 0, .int .u64 0, .int .u64 0, .int .u64 0, .int .u64 0, .int .u64 0, .int .u64 0, .int .u64 0, .int .u64 0, .int .u64 0, .bool false, .int .u64 0, .int .u64 0, .int .u64 0] 36)).alloc (.cells #[.int .u64 0, .int .u64 0, .int .u64 0, .int .u64 0, .int .u64 0, .int .u64 0, .int .u64 0, .int .u64 0, .int .u64 0, .int .u64 0, .int .u64 0, .int .u64 0, .int .u64 0, .int .u64 0, .int .u64 0, .int .u64 0, .int .u64 0, .int .u64 0, .int .u64 0, .int .u64 0, .int .u64 0, .int .u64 0, .int .u64 0, .int .u64 0, .int .u64 0, .int .u64 0, .int .u64 0, .int .u64 0, .int .u64 0, .int .u64 0, .int .u64 0, .bool false, .int .u64 0, .int .u64 0, .int .u64 0] 36) := ⟨_, rfl⟩
  rw [← hw2]
  have HR := Lib.hid (show w2.heap[w.heap.size]? = some (.cells (GrG.fcells (List.replicate 31 0) false [0, 0, 0]).toArray 36 (0, 0)) by rw [hw2]; exact heap_alloc2_old w _ _)
  have HF := Lib.hid (show w2.heap[w.heap.size + 1]? = some (.cells (GrG.fcells (List.replicate 31 0) false [0, 0, 0]).toArray 36 (0, 0)) by rw [hw2]; exact heap_alloc2_new w _ _)
  have HB := Lib.hid (show Below w.heap.size w w2 by rw [hw2]; exact ((Below.refl _ _).alloc (Nat.le_refl _) _).alloc (by simp) _)
  clear hw2
  obtain ⟨C0, hC0⟩ : ∃ C, C = (GrG.fcells (List.replicate 31 0) false [0, 0, 0]) := ⟨_, rfl⟩
  rw [← hC0] at HR HF
  obtain ⟨cs, hcs⟩ : ∃ cs, cs = (zs.take 31).map (Value.int .u64) := ⟨_, rfl⟩
  obtain ⟨C1, hC1⟩ : ∃ C, C = GrG.fcells (GrG.regsOf zs) false [0, 0, 0] := ⟨_, rfl⟩
  have l1 := Lib.hid (show cs.length = Nat.min len 31 by show cs.length = min len 31; rw [hcs]; simp [HZ.out.1]; omega)
  have l2 := Lib.hid (show 0 < cs.length → some (⟨w.heap.size + 1, 0, none⟩ : Addr) = some ⟨w.heap.size + 1, 0, none⟩ ∧ ∃ ad, p = some ad ∧ ∀ j v, cs[j]? = some v → w2.cell? (ad.add j) = some v from fun h0 => by
    rw [hcs] at h0 ⊢
    exact ⟨rfl, HZ.out.src HB.out h0⟩)
  have l3 := Lib.hid (show 0 + cs.length ≤ C0.length by rw [hcs, hC0]; simp [GrG.fcells]; omega)
  have l4 := Lib.hid (show ∀ v ∈ cs, v.oneCell' = true from fun v hv => by
    rw [hcs] at hv
    obtain ⟨a, _, rfl⟩ := List.mem_map.1 hv
    rfl)
  have l5 := Lib.hid (show Go.splice C0 0 cs = C1 by rw [hcs, hC0, hC1]; exact GrG.splice_regs zs)
  have z1 := Lib.hid (show (Try.prog.info? 36).map (·.size) = some C1.toArray.size by rw [sizeF, hC1]; simp [GrG.fl zs])
  have z2 := Lib.hid (show C0.toArray.size = C1.toArray.size by rw [hC0, hC1]; simp [GrG.fl zs]; simp [GrG.fcells])
  have z3 := Lib.hid (show C1.toArray.all (·.oneCell') = true by rw [hC1]; exact GrG.fcells_one _ _ _)
  have HC1 := Lib.hid hC1
  clear hC0 hcs hC1
  go_wp2_with (with_reducible refine wpList_copy_splice rfl (.tmp 5) (.tmp 6) 29 29 rfl 30 Try.underlying29 (by kernel_rfl) (some ⟨w.heap.size + 1, 0, none⟩) p 31 31 len cap rfl rfl (w.heap.size + 1) 0 C0 36 HF.out cs l1.out l2.out l3.out l4.out (w.heap.size + 1) w2 (Below.refl _ _) (Nat.le_refl _) ?_)
  rw [l5.out]
  intro w3 hg3 hb3
  have G3 := Lib.hid (show w3.heap[w.heap.size + 1]? = some (.cells C1.toArray 36 (0, 0)) from hg3)
  have R3 := Lib.hid (show w3.heap[w.heap.size]? = some (.cells C0.toArray 36 (0, 0)) from (hb3.block _ (by omega)).trans HR.out)
  have B3 := Lib.hid (show Below w.heap.size w w3 from HB.out.trans (hb3.mono (by omega)))
  clear hg3 hb3
  go_wp2_with (first | (with_reducible refine wpList_load_row rfl 36 (.tmp 3) rfl (w.heap.size + 1) rfl 36 C1.toArray (0, 0) _ G3.out Try.underlying36 rfl z1.out ?_) | (with_reducible refine wpList_store_row rfl 36 (.tmp 2) (.tmp 8) rfl w.heap.size C1.toArray rfl rfl 36 C0.toArray R3.out z1.out z2.out z3.out ?_))
  refine bodyPost_ret (v := .agg C1.toArray) (results_cell_row (p := 2) (ty := 36) rfl _ _ w.heap.size 36 C1.toArray (0, 0) _ rfl (setRow_heap _ _ _ _ _ _ R3.out) Try.underlying36 rfl z1.out) rfl ⟨by rw [HC1.out], below_setRow B3.out (Nat.le_refl _) _⟩
end Go.Proofs.Ytnehdgapcgbdeaa
