/-
  Layer 5, the walks: a law's files.
-/
import Derived.Test.YtnehdgapcgbdeaaGo
import Derived.Test.YtnehdgapcgbdeaaGe
import Derived.Deep.RegionHeld3
import Derived.BigRegion
import Derived.RegionTactic
set_option linter.unusedSimpArgs false
set_option linter.unusedVariables false
namespace Go.Proofs.Ytnehdgapcgbdeaa
open Go.RowKit
theorem FAt.set_sys {w : World} {B : Nat} {X Y : List Int} {s : Bool} (h : FAt w B X s Y) (i : Nat) (hi : i < 3) (v : Int) : FAt (w.setCell ⟨B, 32 + i, none⟩ (.int .u64 v)) B X s (Y.set i v) := by
  refine ⟨?_, h.lX, by simp [h.lY]⟩
  rw [heap_setCell_same w B (32 + i) _ _ _ h.heap]
  congr 2
  simp only [List.setIfInBounds_toArray]
  congr 1
  simp only [GrG.fcells]
  rw [List.set_append_right _ _ (by simp [h.lX]; omega)]
  simp only [List.length_map, h.lX]
  rw [show 32 + i - 31 = i + 1 by omega, List.set_cons_succ, List.map_set]
theorem USl.keep {w w' : World} {p : Option Addr} {len : Nat} {zs : List Int} (h : USl w p len zs) (b : Below w.heap.size w w') : USl w' p len zs :=
  ⟨h.1, fun j hj => by
    obtain ⟨ad, e, hc⟩ := h.2 j hj
    exact ⟨ad, e, (b.cell (World.block_lt_of_cell? w _ hc)).trans hc⟩⟩
def FilePost (R : List Int) (same : Bool) (Y : List Int) (w : World) (e : Ending) (w' : World) : Prop :=
  ∃ v b, e = .returned (.tuple #[.agg (GrG.fcells R same Y).toArray, .agg #[v, .bool same, .slice (some ⟨b, 2, none⟩) 3 3]]) ∧ UV w' v R ∧ Below w.heap.size w w'
/-- what a law's file keeps of the world: its argument's box, the boxes of the results -/
structure FSu (w wr : World) (p : Option Addr) (len cap : Nat) (same : Bool) (y0 y1 y2 : Int) : Prop where
  arg : wr.heap[w.heap.size]? = some (.cells #[.slice p len cap, .bool same, .int .u64 y0, .int .u64 y1, .int .u64 y2] 33 (0, 0))
  r1 : wr.heap[w.heap.size + 1]? = some (.cells #[.int .u64 0, .int .u64 0, .int .u64 0, .int .u64 0, .int .u64 0, .int .u64 0, .int .u64 0, .int .u64 0, .int .u64 0, .int .u64 0, .int .u64 0, .int .u64 0, .int .u64 0, .int .u64 0, .int .u64 0, .int .u64 0, .int .u64 0, .int .u64 0, .int .u64 0, .int .u64 0, .int .u64 0, .int .u64 0, .int .u64 0, .int .u64 0, .int .u64 0, .int .u64 0, .int .u64 0, .int .u64 0, .int .u64 0, .int .u64 0, .int .u64 0, .bool false, .int .u64 0, .int .u64 0, .int .u64 0] 36 (0, 0))
  r2 : wr.heap[w.heap.size + 2]? = some (.cells #[.slice none 0 0, .bool false, .slice none 0 0] 38 (0, 0))
  bel : Below w.heap.size w wr
  size : w.heap.size + 3 ≤ wr.heap.size
section
variable {w wr w' : World} {p : Option Addr} {len cap : Nat} {same : Bool} {y0 y1 y2 : Int}
theorem FSu.keep (h : FSu w wr p len cap same y0 y1 y2) (k : ∀ g, g < w.heap.size + 3 → w'.heap[g]? = wr.heap[g]?) (b : Below w.heap.size w w') (s : wr.heap.size ≤ w'.heap.size) : FSu w w' p len cap same y0 y1 y2 :=
  ⟨(k _ (by omega)).trans h.arg, (k _ (by omega)).trans h.r1, (k _ (by omega)).trans h.r2, b, by have := h.size; omega⟩
theorem FSu.below (h : FSu w wr p len cap same y0 y1 y2) (b : Below wr.heap.size wr w') : FSu w w' p len cap same y0 y1 y2 :=
  h.keep (fun g hg => b.block g (by have := h.size; omega)) (h.bel.trans (b.mono h.bel.size)) b.size
theorem FSu.below' (h : FSu w wr p len cap same y0 y1 y2) {B : Nat} (b : Below B wr w') (hB : w.heap.size + 3 ≤ B) : FSu w w' p len cap same y0 y1 y2 :=
  h.keep (fun g hg => b.block g (by omega)) (h.bel.trans (b.mono (by omega))) b.size
theorem FSu.c0 (h : FSu w wr p len cap same y0 y1 y2) : wr.cell? ⟨w.heap.size, 0, none⟩ = some (.slice p len cap) := by rw [cell_of_row _ _ 0 _ _ _ h.arg]; rfl
theorem FSu.c1 (h : FSu w wr p len cap same y0 y1 y2) : wr.cell? ⟨w.heap.size, 1, none⟩ = some (.bool same) := by rw [cell_of_row _ _ 1 _ _ _ h.arg]; rfl
theorem FSu.c2 (h : FSu w wr p len cap same y0 y1 y2) : wr.cell? ⟨w.heap.size, 2, none⟩ = some (.int .u64 y0) := by rw [cell_of_row _ _ 2 _ _ _ h.arg]; rfl
theorem FSu.c3 (h : FSu w wr p len cap same y0 y1 y2) : wr.cell? ⟨w.heap.size, 3, none⟩ = some (.int .u64 y1) := by rw [cell_of_row _ _ 3 _ _ _ h.arg]; rfl
theorem FSu.c4 (h : FSu w wr p len cap same y0 y1 y2) : wr.cell? ⟨w.heap.size, 4, none⟩ = some (.int .u64 y2) := by rw [cell_of_row _ _ 4 _ _ _ h.arg]; rfl
end
theorem load_row_run {P : Program} {w : World} {o : Oper} {a : Act} (ty : TypeId) (x : Operand) (ho : o.op = .load ty x) (g : Nat) (hx : a.eval x = .pointer (some ⟨g, 0, none⟩)) (t : TypeId) (cs : Array Value) (fr : Nat × Nat) (d : TypeDesc)
    (hg : w.heap[g]? = some (.cells cs t fr)) (hu : P.underlying ty = some d) (hd : (match d with | .struct _ | .array _ _ => true | _ => false) = true) (hi : (P.info? ty).map (·.size) = some cs.size) :
    (execOp a.eval o).run P w = .ok (.value (.agg cs)) w := by
  unfold execOp
  simp only [ho, hx, Instr.loadAt, Instr.sureAddr, Sem.run_bind, Sem.run_pure, Result.andThen_ok, run_loadVar_row w g t ty cs fr d hg hu hd hi]
theorem only_setRow (w : World) (g : Nat) (cs : Array Value) : Only g w (w.setRow g cs) := by
  have h := below_setRow (Below.refl 0 w) (Nat.zero_le g) cs
  exact ⟨h.os, h.tape, h.output, h.size, fun k _ hn => setRow_other w g k cs hn⟩
theorem regs_zero : GrG.regsOf [] = List.replicate 31 0 := by simp [GrG.regsOf]

set_option maxRecDepth 100000 in
set_option maxHeartbeats 6400000 in
theorem file_any (p : Option Addr) (len cap : Nat) (zs : List Int) (same : Bool) (y0 y1 y2 : Int) (w : World) (hz : USl w p len zs) :
    Calls Try.prog 24 #[.agg #[.slice p len cap, .bool same, .int .u64 y0, .int .u64 y1, .int .u64 y2]] w (FilePost (GrG.regsOf zs) same [y0, y1, y2] w) := by
  have HZ := Lib.hid hz
  clear hz
  obtain ⟨R, hR⟩ : ∃ R, R = GrG.regsOf zs := ⟨_, rfl⟩
  have RL := Lib.hid (show R.length = 31 by rw [hR]; exact GrG.regsOf_len zs)
  have OF := Lib.hid (fun w h => hR ▸ of_any p len cap zs w h)
  have PO := Lib.hid (fun (u : World) h => hR ▸ pof_any p len cap zs same (some ⟨w.heap.size, 2, none⟩) 3 3 u h)
  rw [← hR]
  obtain ⟨C, hC⟩ : ∃ C, C = GrG.fcells R false [0, 0, 0] := ⟨_, rfl⟩
  rw [← hC] at OF
  have HC := Lib.hid hC
  have z1 := Lib.hid (show (Try.prog.info? 36).map (·.size) = some C.toArray.size by rw [sizeF, hC]; simp [GrG.fcells_len RL.out])
  have z2 := Lib.hid (show (#[.int .u64 0, .int .u64 0, .int .u64 0, .int .u64 0, .int .u64 0, .int .u64 0, .int .u64 0, .int .u64 0, .int .u64 0, .int .u64 0, .int .u64 0, .int .u64 0, .int .u64 0, .int .u64 0, .int .u64 0, .int .u64 0, .int .u64 0, .int .u64 0, .int .u64 0, .int .u64 0, .int .u64 0, .int .u64 0, .int .u64 0, .int .u64 0, .int .u64 0, .int .u64 0, .int .u64 0, .int .u64 0, .int .u64 0, .int .u64 0, .int .u64 0, .bool false, .int .u64 0, .int .u64 0, .int .u64 0] : Array Value).size = C.toArray.size by rw [hC]; simp [GrG.fcells_len RL.out])
  have z3 := Lib.hid (show C.toArray.all (·.oneCell') = true by rw [hC]; exact GrG.fcells_one _ _ _)
  clear hR hC
  go_enter Try.func24, Try.ntmps24
  go_upto_region 1 with fail
  obtain ⟨W3, hW3⟩ : ∃ W, W = ((w.alloc (.cells #[.slice p len cap, .bool same, .int .u64 y0, .int .u64 y1, .int .u64 y2] 33)).alloc (.cells #[.int .u64 0, .int .u64 0, .int .u64 0, .int .u64 0, .int .u64 0, .int .u64 0, .int .u64 0, .int .u64 0, .int .u64 0, .int .u64 0, .int .u64 0, .int .u64 0, .int .u64 0, .int .u64 0, .int .u64 0, .int .u64 0, .int .u64 0, .int .u64 0, .int .u64 0, .int .u64 0, .int .u64 0, .int .u64 0, .int .u64 0, .int .u64 0, .int .u64 0, .int .u64 0, .int .u64 0, .int .u64 0, .int .u64 0, .int .u64 0, .int .u64 0, .bool false, .int .u64 0, .int .u64 0, .int .u64 0] 36)).alloc (.cells #[.slice none 0 0, .bool false, .slice none 0 0] 38) := ⟨_, rfl⟩
  have S3 := Lib.hid (show FSu w W3 p len cap same y0 y1 y2 by
    rw [hW3]
    refine ⟨?_, ?_, ?_, (((Below.refl _ _).alloc (Nat.le_refl _) _).alloc (by simp) _).alloc (by simp; omega) _, by simp⟩
    · rw [Below.heap_alloc _ _ _ (by simp; omega), Below.heap_alloc _ _ _ (by simp)]; exact heap_alloc_new w _
    · rw [Below.heap_alloc _ _ _ (by simp)]
      have := heap_alloc_new (w.alloc (.cells #[.slice p len cap, .bool same, .int .u64 y0, .int .u64 y1, .int .u64 y2] 33)) (.cells #[.int .u64 0, .int .u64 0, .int .u64 0, .int .u64 0, .int .u64 0, .int .u64 0, .int .u64 0, .int .u64 0, .int .u64 0, .int .u64 0, .int .u64 0, .int .u64 0, .int .u64 0, .int .u64 0, .int .u64 0, .int .u64 0, .int .u64 0, .int .u64 0, .int .u64 0, .int .u64 0, .int .u64 0, .int .u64 0, .int .u64 0, .int .u64 0, .int .u64 0, .int .u64 0, .int .u64 0, .int .u64 0, .int .u64 0, .int .u64 0, .int .u64 0, .bool false, .int .u64 0, .int .u64 0, .int .u64 0] 36)
      simpa using this
    · have := heap_alloc_new ((w.alloc (.cells #[.slice p len cap, .bool same, .int .u64 y0, .int .u64 y1, .int .u64 y2] 33)).alloc (.cells #[.int .u64 0, .int .u64 0, .int .u64 0, .int .u64 0, .int .u64 0, .int .u64 0, .int .u64 0, .int .u64 0, .int .u64 0, .int .u64 0, .int .u64 0, .int .u64 0, .int .u64 0, .int .u64 0, .int .u64 0, .int .u64 0, .int .u64 0, .int .u64 0, .int .u64 0, .int .u64 0, .int .u64 0, .int .u64 0, .int .u64 0, .int .u64 0, .int .u64 0, .int .u64 0, .int .u64 0, .int .u64 0, .int .u64 0, .int .u64 0, .int .u64 0, .bool false, .int .u64 0, .int .u64 0, .int .u64 0] 36)) (.cells #[.slice none 0 0, .bool false, .slice none 0 0] 38)
      simpa using this)
  rw [← hW3]
  clear hW3
  have c0 := S3.out.c0
  go_wp2_with fail
  refine (OF.out _ (HZ.out.keep S3.out.bel)).mono ?_
  rintro e w4 ⟨rfl, b4⟩
  have S4 := Lib.hid (S3.out.below b4)
  clear b4 c0
  go_wp2_with (with_reducible refine wpList_store_row rfl 36 (.tmp 4) (.tmp 7) rfl w4.heap.size C.toArray rfl rfl 36 _ (heap_alloc_new _ _) z1.out z2.out z3.out ?_)
  obtain ⟨W5, hW5⟩ : ∃ W, W = (w4.alloc (.cells #[.int .u64 0, .int .u64 0, .int .u64 0, .int .u64 0, .int .u64 0, .int .u64 0, .int .u64 0, .int .u64 0, .int .u64 0, .int .u64 0, .int .u64 0, .int .u64 0, .int .u64 0, .int .u64 0, .int .u64 0, .int .u64 0, .int .u64 0, .int .u64 0, .int .u64 0, .int .u64 0, .int .u64 0, .int .u64 0, .int .u64 0, .int .u64 0, .int .u64 0, .int .u64 0, .int .u64 0, .int .u64 0, .int .u64 0, .int .u64 0, .int .u64 0, .bool false, .int .u64 0, .int .u64 0, .int .u64 0] 36)).setRow w4.heap.size C.toArray := ⟨_, rfl⟩
  rw [← hW5]
  have S5 := Lib.hid (show FSu w W5 p len cap same y0 y1 y2 by
    rw [hW5]
    exact (S4.out.below ((Below.refl _ _).alloc (Nat.le_refl _) _)).below' (below_setRow (Below.refl w4.heap.size _) (Nat.le_refl _) _) S4.out.size)
  have F5 := Lib.hid (show FAt W5 w4.heap.size R false [0, 0, 0] from ⟨by rw [hW5, ← HC.out]; exact heap_setRow_new _ _ _ _, RL.out, rfl⟩)
  obtain ⟨B, hB⟩ : ∃ B, B = w4.heap.size := ⟨_, rfl⟩
  have LB := Lib.hid (show w.heap.size + 3 ≤ B by rw [hB]; exact S4.out.size)
  rw [← hB] at F5 ⊢
  clear hB hW5
  have c1 := S5.out.c1
  have c2 := S5.out.c2
  have c3 := S5.out.c3
  have c4 := S5.out.c4
  have d0 := F5.out.same
  have d1 := F5.out.sys 0 (by decide)
  have d2 := F5.out.sys 1 (by decide)
  have d3 := F5.out.sys 2 (by decide)
  have f0 := F5.out.free 31
  have f1 := F5.out.free 32
  have f2 := F5.out.free 33
  have f3 := F5.out.free 34
  simp only [Nat.reduceAdd] at d1 d2 d3
  go_wp2_with fail
  go_region
  all_goals
    obtain ⟨W6, hW6⟩ : ∃ W, W = ((((W5.setCell ⟨B, 31, none⟩ (.bool same)).setCell ⟨B, 32, none⟩ (.int .u64 y0)).setCell ⟨B, 33, none⟩ (.int .u64 y1)).setCell ⟨B, 34, none⟩ (.int .u64 y2)).drew := ⟨_, rfl⟩
    rw [← hW6]
    have F6 := Lib.hid (show FAt W6 B R same [y0, y1, y2] by
      rw [hW6]
      exact ((((F5.out.set_same same).set_sys 0 (by decide) y0).set_sys 1 (by decide) y1).set_sys 2 (by decide) y2).keep rfl)
    have S6 := Lib.hid (show FSu w W6 p len cap same y0 y1 y2 by
      rw [hW6]
      exact S5.out.below' (((((Below.refl B W5).setCell (p := ⟨B, 31, none⟩) (Nat.le_refl _) _).setCell (p := ⟨B, 32, none⟩) (Nat.le_refl _) _).setCell (p := ⟨B, 33, none⟩) (Nat.le_refl _) _).setCell (p := ⟨B, 34, none⟩) (Nat.le_refl _) _).drew LB.out)
    clear hW6 c1 c2 c3 c4 d0 d1 d2 d3 f0 f1 f2 f3
    obtain ⟨C1, hC1⟩ : ∃ C1, C1 = GrG.fcells R same [y0, y1, y2] := ⟨_, rfl⟩
    have HC1 := Lib.hid hC1
    have h6 := Lib.hid (show W6.heap[B]? = some (.cells C1.toArray 36 (0, 0)) by rw [hC1]; exact F6.out.heap)
    have y1' := Lib.hid (show (Try.prog.info? 36).map (·.size) = some C1.toArray.size by rw [sizeF, hC1]; simp [GrG.fcells_len RL.out])
    have y2' := Lib.hid (show (#[.int .u64 0, .int .u64 0, .int .u64 0, .int .u64 0, .int .u64 0, .int .u64 0, .int .u64 0, .int .u64 0, .int .u64 0, .int .u64 0, .int .u64 0, .int .u64 0, .int .u64 0, .int .u64 0, .int .u64 0, .int .u64 0, .int .u64 0, .int .u64 0, .int .u64 0, .int .u64 0, .int .u64 0, .int .u64 0, .int .u64 0, .int .u64 0, .int .u64 0, .int .u64 0, .int .u64 0, .int .u64 0, .int .u64 0, .int .u64 0, .int .u64 0, .bool false, .int .u64 0, .int .u64 0, .int .u64 0] : Array Value).size = C1.toArray.size by rw [hC1]; simp [GrG.fcells_len RL.out])
    have y3' := Lib.hid (show C1.toArray.all (·.oneCell') = true by rw [hC1]; exact GrG.fcells_one _ _ _)
    clear hC1
    go_wp2_with fail
    refine wp_region_held_drew (S := fun w1 => w1.heap[B]? = some (.cells C1.toArray 36 (0, 0)) ∧ w1.cell? ⟨w.heap.size, 0, none⟩ = some (.slice p len cap) ∧ w1.cell? ⟨w.heap.size, 1, none⟩ = some (.bool same)) (by kernel_rfl) ⟨h6.out, S6.out.c0, S6.out.c1⟩ (fun hHeld => ?_)
    refine wpAnyH_take (i := 0) (v := .agg C1.toArray) rfl (by kernel_rfl) (by kernel_rfl) (by kernel_rfl) (fun _ _ _ h => h) (Or.inl ⟨by rfl, fun w1 hSw => load_row_run _ _ rfl B rfl 36 C1.toArray (0, 0) _ hSw.1 Try.underlying36 rfl y1'.out⟩) (by assumption) ?_
    (try simp only [Act.put, List.getElem_toArray, List.getElem_cons_zero, List.getElem_cons_succ, List.setIfInBounds_toArray, List.set_cons_zero, List.set_cons_succ])
    refine wpAnyH_take (i := 1) (v := ?_) rfl (by kernel_rfl) (by kernel_rfl) (by kernel_rfl) (fun _ _ _ h => h) (Or.inl ⟨by rfl, ?_⟩) (by assumption) ?_
    rotate_left 1
    · (intro w1 hSw; (try dsimp only at hSw); obtain ⟨hs1, hs2, hs3⟩ := hSw; go_simp; try with_reducible rfl)
    (try simp only [Act.put, List.getElem_toArray, List.getElem_cons_zero, List.getElem_cons_succ, List.setIfInBounds_toArray, List.set_cons_zero, List.set_cons_succ])
    refine wpAnyH_take (i := 2) (v := ?_) rfl (by kernel_rfl) (by kernel_rfl) (by kernel_rfl) (fun _ _ _ h => h) (Or.inl ⟨by rfl, ?_⟩) (by assumption) ?_
    rotate_left 1
    · (intro w1 hSw; (try dsimp only at hSw); obtain ⟨hs1, hs2, hs3⟩ := hSw; go_simp; try with_reducible rfl)
    (try simp only [Act.put, List.getElem_toArray, List.getElem_cons_zero, List.getElem_cons_succ, List.setIfInBounds_toArray, List.set_cons_zero, List.set_cons_succ])
    refine wpAnyH_take (i := 3) (v := ?_) rfl (by kernel_rfl) (by kernel_rfl) (by kernel_rfl) (fun _ _ _ h => h) (Or.inl ⟨by rfl, ?_⟩) (by assumption) ?_
    rotate_left 1
    · (intro w1 hSw; (try dsimp only at hSw); obtain ⟨hs1, hs2, hs3⟩ := hSw; go_simp; try with_reducible rfl)
    (try simp only [Act.put, List.getElem_toArray, List.getElem_cons_zero, List.getElem_cons_succ, List.setIfInBounds_toArray, List.set_cons_zero, List.set_cons_succ])
    refine wpAnyH_take (i := 4) (v := ?_) rfl (by kernel_rfl) (by kernel_rfl) (by kernel_rfl) (fun _ _ _ h => h) (Or.inl ⟨by rfl, ?_⟩) (by assumption) ?_
    rotate_left 1
    · (intro w1 hSw; (try dsimp only at hSw); obtain ⟨hs1, hs2, hs3⟩ := hSw; go_simp; try with_reducible rfl)
    (try simp only [Act.put, List.getElem_toArray, List.getElem_cons_zero, List.getElem_cons_succ, List.setIfInBounds_toArray, List.set_cons_zero, List.set_cons_succ])
    refine wpAnyH_take (i := 5) (v := ?_) rfl (by kernel_rfl) (by kernel_rfl) (by kernel_rfl) (fun _ _ _ h => h) (Or.inl ⟨by rfl, ?_⟩) (by assumption) ?_
    rotate_left 1
    · (intro w1 hSw; (try dsimp only at hSw); obtain ⟨hs1, hs2, hs3⟩ := hSw; go_simp; try with_reducible rfl)
    (try simp only [Act.put, List.getElem_toArray, List.getElem_cons_zero, List.getElem_cons_succ, List.setIfInBounds_toArray, List.set_cons_zero, List.set_cons_succ])
    refine wpAnyH_take (i := 6) (v := ?_) rfl (by kernel_rfl) (by kernel_rfl) (by kernel_rfl) (fun _ _ _ h => h) (Or.inl ⟨by rfl, ?_⟩) (by assumption) ?_
    rotate_left 1
    · (intro w1 hSw; (try dsimp only at hSw); obtain ⟨hs1, hs2, hs3⟩ := hSw; go_simp; try with_reducible rfl)
    (try simp only [Act.put, List.getElem_toArray, List.getElem_cons_zero, List.getElem_cons_succ, List.setIfInBounds_toArray, List.set_cons_zero, List.set_cons_succ])
    refine wpAnyH_ready (rs := [7]) (by kernel_rfl) (by simp) ?_
    refine AllReadyH.cons rfl (fun K hK => ?_) AllReadyH.nil
    go_simp
    refine (PO.out W6.drew (HZ.out.keep S6.out.bel.drew)).mono ?_
    rintro e w7 ⟨v, rfl, ⟨_, g, cap2, rfl, ha⟩, hfr, b7⟩
    have GB := Lib.hid (show w.heap.size + 3 ≤ g from Nat.le_trans S6.out.size (hfr g rfl))
    clear hfr
    have b7' : Below W6.heap.size W6 w7 := (Below.drew (Below.refl W6.heap.size W6)).trans b7
    have S7 := Lib.hid (S6.out.below b7')
    have F7 := Lib.hid (F6.out.below b7')
    have h7 := Lib.hid (show w7.heap[B]? = some (.cells C1.toArray 36 (0, 0)) by rw [HC1.out]; exact F7.out.heap)
    have HA := Lib.hid ha
    clear b7 b7' ha
    refine hK.out _ _ ⟨h7.out, S7.out.c0, S7.out.c1⟩ (fun hHeld => ?_)
    clear hK K
    (try simp only [Act.put, List.getElem_toArray, List.getElem_cons_zero, List.getElem_cons_succ, List.setIfInBounds_toArray, List.set_cons_zero, List.set_cons_succ])
    refine wpAnyH_ready (rs := [8]) (by kernel_rfl) (by simp) ?_
    refine AllReadyH.cons rfl (fun K hK => ?_) AllReadyH.nil
    rw [if_pos (by rfl)]
    refine wp_store_row 36 (.tmp 2) (.tmp 14) rfl (w.heap.size + 1) C1.toArray rfl rfl 36 #[.int .u64 0, .int .u64 0, .int .u64 0, .int .u64 0, .int .u64 0, .int .u64 0, .int .u64 0, .int .u64 0, .int .u64 0, .int .u64 0, .int .u64 0, .int .u64 0, .int .u64 0, .int .u64 0, .int .u64 0, .int .u64 0, .int .u64 0, .int .u64 0, .int .u64 0, .int .u64 0, .int .u64 0, .int .u64 0, .int .u64 0, .int .u64 0, .int .u64 0, .int .u64 0, .int .u64 0, .int .u64 0, .int .u64 0, .int .u64 0, .int .u64 0, .bool false, .int .u64 0, .int .u64 0, .int .u64 0] S7.out.r1 y1'.out y2'.out y3'.out ?_
    obtain ⟨w8, hw8⟩ : ∃ w8, w8 = w7.setRow (w.heap.size + 1) C1.toArray := ⟨_, rfl⟩
    rw [← hw8]
    have O8 := Lib.hid (show Only (w.heap.size + 1) w7 w8 by rw [hw8]; exact only_setRow _ _ _)
    have R1 := Lib.hid (show w8.heap[w.heap.size + 1]? = some (.cells C1.toArray 36 (0, 0)) by rw [hw8]; exact setRow_heap _ _ _ _ _ _ S7.out.r1)
    have R2 := Lib.hid (show w8.heap[w.heap.size + 2]? = _ from (O8.out.block _ (by have := S7.out.size; omega) (by omega)).trans S7.out.r2)
    have A0 := Lib.hid (show w8.heap[w.heap.size]? = _ from (O8.out.block _ (by have := S7.out.size; omega) (by omega)).trans S7.out.arg)
    have h8 := Lib.hid (show w8.heap[B]? = _ from (O8.out.block _ (by have := F7.out.lt; exact this) (by have := LB.out; omega)).trans h7.out)
    have B8 := Lib.hid (show Below w.heap.size w w8 from S7.out.bel.trans (O8.out.below (by omega) S7.out.bel.size))
    have HA8 := Lib.hid (HA.out.other O8.out (by have := GB.out; omega))
    clear hw8
    have s0 : w8.cell? ⟨w.heap.size, 0, none⟩ = some (.slice p len cap) := by rw [cell_of_row _ _ 0 _ _ _ A0.out]; rfl
    have s1 : w8.cell? ⟨w.heap.size, 1, none⟩ = some (.bool same) := by rw [cell_of_row _ _ 1 _ _ _ A0.out]; rfl
    refine hK.out _ _ ⟨h8.out, s0, s1⟩ (fun hHeld => ?_)
    clear hK K
    (try simp only [Act.put, List.getElem_toArray, List.getElem_cons_zero, List.getElem_cons_succ, List.setIfInBounds_toArray, List.set_cons_zero, List.set_cons_succ])
    refine wpAnyH_ready (rs := [9]) (by kernel_rfl) (by simp) ?_
    refine AllReadyH.cons rfl (fun K hK => ?_) AllReadyH.nil
    have e0 : w8.cell? ⟨w.heap.size + 1 + 1, 0, none⟩ = some (.slice none 0 0) := by rw [cell_of_row _ _ 0 _ _ _ R2.out]; rfl
    have e1 : w8.cell? ⟨w.heap.size + 1 + 1, 1, none⟩ = some (.bool false) := by rw [cell_of_row _ _ 1 _ _ _ R2.out]; rfl
    have e2 : w8.cell? ⟨w.heap.size + 1 + 1, 2, none⟩ = some (.slice none 0 0) := by rw [cell_of_row _ _ 2 _ _ _ R2.out]; rfl
    have q0 := frozen_of_row w8 (w.heap.size + 1 + 1) 0 _ _ R2.out
    have q1 := frozen_of_row w8 (w.heap.size + 1 + 1) 1 _ _ R2.out
    have q2 := frozen_of_row w8 (w.heap.size + 1 + 1) 2 _ _ R2.out
    go_simp
    obtain ⟨w9, hw9⟩ : ∃ w9, w9 = ((w8.setCell ⟨w.heap.size + 1 + 1, 0, none⟩ (.slice (some ⟨g, 0, none⟩) 31 cap2)).setCell ⟨w.heap.size + 1 + 1, 1, none⟩ (.bool same)).setCell ⟨w.heap.size + 1 + 1, 2, none⟩ (.slice (some ⟨w.heap.size, 2, none⟩) 3 3) := ⟨_, rfl⟩
    rw [← hw9]
    have O9 := Lib.hid (show Only (w.heap.size + 1 + 1) w8 w9 by rw [hw9]; exact ((Only.set _ _).trans (Only.set _ _)).trans (Only.set _ _))
    have Q2 := Lib.hid (show w9.heap[w.heap.size + 1 + 1]? = some (.cells #[.slice (some ⟨g, 0, none⟩) 31 cap2, .bool same, .slice (some ⟨w.heap.size, 2, none⟩) 3 3] 38 (0, 0)) by
      rw [hw9]
      exact heap_setCell_same _ _ 2 _ _ _ (heap_setCell_same _ _ 1 _ _ _ (heap_setCell_same w8 _ 0 _ _ _ R2.out)))
    have L8 := Lib.hid (show w.heap.size + 3 ≤ w8.heap.size by have := O8.out.size; have := S7.out.size; omega)
    have Q1 := Lib.hid (show w9.heap[w.heap.size + 1]? = _ from (O9.out.block _ (by have := L8.out; omega) (by omega)).trans R1.out)
    have Q0 := Lib.hid (show w9.heap[w.heap.size]? = _ from (O9.out.block _ (by have := L8.out; omega) (by omega)).trans A0.out)
    have h9 := Lib.hid (show w9.heap[B]? = _ from (O9.out.block _ (by
      by_cases c : B < w8.heap.size
      · exact c
      · have := h8.out
        rw [Array.getElem?_eq_none (by omega)] at this
        cases this) (by have := LB.out; omega)).trans h8.out)
    have B9 := Lib.hid (show Below w.heap.size w w9 from B8.out.trans (O9.out.below (by omega) (by have := L8.out; omega)))
    have HA9 := Lib.hid (HA8.out.other O9.out (by have := GB.out; omega))
    clear hw9 s0 s1 e0 e1 e2 q0 q1 q2
    have s0 : w9.cell? ⟨w.heap.size, 0, none⟩ = some (.slice p len cap) := by rw [cell_of_row _ _ 0 _ _ _ Q0.out]; rfl
    have s1 : w9.cell? ⟨w.heap.size, 1, none⟩ = some (.bool same) := by rw [cell_of_row _ _ 1 _ _ _ Q0.out]; rfl
    refine hK.out _ _ ⟨h9.out, s0, s1⟩ (fun hHeld => ?_)
    clear hK K
    (try simp only [Act.put, List.getElem_toArray, List.getElem_cons_zero, List.getElem_cons_succ, List.setIfInBounds_toArray, List.set_cons_zero, List.set_cons_succ])
    refine wpAnyH_done (by kernel_rfl) ?_ _
    have lr := run_loadVar_row (P := Try.prog) w9 (w.heap.size + 1) _ 36 C1.toArray (0, 0) _ Q1.out Try.underlying36 rfl y1'.out
    have lr2 := run_loadVar_row (P := Try.prog) w9 (w.heap.size + 1 + 1) _ 38 _ (0, 0) _ Q2.out Try.underlying38 rfl (by kernel_rfl)
    go_wp2
    refine bodyPost_ret (v := .tuple #[.agg C1.toArray, .agg #[.slice (some ⟨g, 0, none⟩) 31 cap2, .bool same, .slice (some ⟨w.heap.size, 2, none⟩) 3 3]]) (by simp [results, Try.results24, asAddr, lr, lr2]) rfl ⟨_, _, by rw [HC1.out], ⟨RL.out, g, cap2, rfl, HA9.out⟩, B9.out⟩
end Go.Proofs.Ytnehdgapcgbdeaa
