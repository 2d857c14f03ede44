/-
  Layer 5, the laws' walks: RegsSets.
-/
import Derived.Test.YtnehdgapcgbdeaaGq
set_option linter.unusedSimpArgs false
set_option linter.unusedVariables false
namespace Go.Proofs.Ytnehdgapcgbdeaa
open Go.RowKit
/-- the state of a law on files: the code's file in block B, the page's in block C -/
structure LS (w wr : World) (B C : Nat) (X : List Int) (s : Bool) (Y : List Int) (g cap : Nat) (sv : Value) (PX : List Int) : Prop where
  f : FAt wr B X s Y
  p : wr.heap[C]? = some (.cells #[.slice (some ⟨g, 0, none⟩) 31 cap, .bool s, sv] 38 (0, 0))
  u : UAt wr g PX
  len : PX.length = 31
  gB : g ≠ B
  BC : B ≠ C
  lo : w.heap.size ≤ B
  bel : Below w.heap.size w wr
section
variable {w wr w' : World} {B C : Nat} {X Y PX : List Int} {s : Bool} {g cap : Nat} {sv : Value}
theorem LS.ltC (h : LS w wr B C X s Y g cap sv PX) : C < wr.heap.size := by
  by_cases c : C < wr.heap.size
  · exact c
  · have := h.p
    rw [Array.getElem?_eq_none (by omega)] at this
    cases this
theorem LS.below (h : LS w wr B C X s Y g cap sv PX) (b : Below wr.heap.size wr w') : LS w w' B C X s Y g cap sv PX :=
  ⟨h.f.below b, (b.block _ h.ltC).trans h.p, h.u.keep b, h.len, h.gB, h.BC, h.lo, h.bel.trans (b.mono h.bel.size)⟩
theorem LS.only {X2 : List Int} {s2 : Bool} (h : LS w wr B C X s Y g cap sv PX) (o : Only B wr w') (f : FAt w' B X2 s Y) (e : s2 = s) : LS w w' B C X2 s Y g cap sv PX :=
  ⟨f, (o.block _ h.ltC (fun e => h.BC e.symm)).trans h.p, h.u.other o h.gB, h.len, h.gB, h.BC, h.lo, h.bel.trans (o.below h.lo h.bel.size)⟩
theorem LS.p0 (h : LS w wr B C X s Y g cap sv PX) : wr.cell? ⟨C, 0, none⟩ = some (.slice (some ⟨g, 0, none⟩) 31 cap) := by rw [cell_of_row _ _ 0 _ _ _ h.p]; rfl
theorem LS.p1 (h : LS w wr B C X s Y g cap sv PX) : wr.cell? ⟨C, 1, none⟩ = some (.bool s) := by rw [cell_of_row _ _ 1 _ _ _ h.p]; rfl
theorem LS.p2 (h : LS w wr B C X s Y g cap sv PX) : wr.cell? ⟨C, 2, none⟩ = some sv := by rw [cell_of_row _ _ 2 _ _ _ h.p]; rfl
theorem LS.uv (h : LS w wr B C X s Y g cap sv PX) : UV wr (.slice (some ⟨g, 0, none⟩) 31 cap) PX := ⟨h.len, g, cap, rfl, h.u⟩
end

set_option maxRecDepth 100000 in
set_option maxHeartbeats 6400000 in
theorem RegsSets_walk (p : Option Addr) (len cap : Nat) (zs : List Int) (same : Bool) (y0 y1 y2 n val : Int) (w : World) (hz : USl w p len zs) :
    Calls Try.prog 4 #[.agg #[.slice p len cap, .bool same, .int .u64 y0, .int .u64 y1, .int .u64 y2], .int .i64 n, .int .u64 val] w fun e w' => e = .returned (.bool true) ∧ Below w.heap.size w w' := by
  have HZ := Lib.hid hz
  clear hz
  obtain ⟨R, hR⟩ : ∃ R, R = GrG.regsOf zs := ⟨_, rfl⟩
  have RL := Lib.hid (show R.length = 31 by rw [hR]; exact GrG.regsOf_len zs)
  have FI := Lib.hid (fun w h => hR ▸ file_any p len cap zs same y0 y1 y2 w h)
  obtain ⟨K, hK⟩ : ∃ K, K = GrG.fcells R same [y0, y1, y2] := ⟨_, rfl⟩
  have KE := Lib.hid hK
  have z1 := Lib.hid (show (Try.prog.info? 36).map (·.size) = some K.toArray.size by rw [sizeF, hK]; simp [GrG.fcells_len RL.out])
  have z2 := Lib.hid (show (#[.int .u64 0, .int .u64 0, .int .u64 0, .int .u64 0, .int .u64 0, .int .u64 0, .int .u64 0, .int .u64 0, .int .u64 0, .int .u64 0, .int .u64 0, .int .u64 0, .int .u64 0, .int .u64 0, .int .u64 0, .int .u64 0, .int .u64 0, .int .u64 0, .int .u64 0, .int .u64 0, .int .u64 0, .int .u64 0, .int .u64 0, .int .u64 0, .int .u64 0, .int .u64 0, .int .u64 0, .int .u64 0, .int .u64 0, .int .u64 0, .int .u64 0, .bool false, .int .u64 0, .int .u64 0, .int .u64 0] : Array Value).size = K.toArray.size by rw [hK]; simp [GrG.fcells_len RL.out])
  have z3 := Lib.hid (show K.toArray.all (·.oneCell') = true by rw [hK]; exact GrG.fcells_one _ _ _)
  clear hR hK
  go_enter Try.func4, Try.ntmps4
  go_upto_region 1 with fail
  obtain ⟨x0, hx0⟩ : ∃ x : Wb (w.alloc (.cells #[.slice p len cap, .bool same, .int .u64 y0, .int .u64 y1, .int .u64 y2] 33)), w.alloc (.cells #[.slice p len cap, .bool same, .int .u64 y0, .int .u64 y1, .int .u64 y2] 33) = x.at := ⟨⟨_, Below.refl _ _⟩, rfl⟩
  have a0 : ∀ x : Wb (w.alloc (.cells #[.slice p len cap, .bool same, .int .u64 y0, .int .u64 y1, .int .u64 y2] 33)), x.at.cell? ⟨w.heap.size, 0, none⟩ = some (.slice p len cap) := fun x => by rw [x.cell _ (by simp)]; simp [World.cell?_alloc_new]
  have a1 : ∀ x : Wb (w.alloc (.cells #[.slice p len cap, .bool same, .int .u64 y0, .int .u64 y1, .int .u64 y2] 33)), x.at.cell? ⟨w.heap.size, 1, none⟩ = some (.bool same) := fun x => by rw [x.cell _ (by simp)]; simp [World.cell?_alloc_new]
  have a2 : ∀ x : Wb (w.alloc (.cells #[.slice p len cap, .bool same, .int .u64 y0, .int .u64 y1, .int .u64 y2] 33)), x.at.cell? ⟨w.heap.size, 2, none⟩ = some (.int .u64 y0) := fun x => by rw [x.cell _ (by simp)]; simp [World.cell?_alloc_new]
  have a3 : ∀ x : Wb (w.alloc (.cells #[.slice p len cap, .bool same, .int .u64 y0, .int .u64 y1, .int .u64 y2] 33)), x.at.cell? ⟨w.heap.size, 3, none⟩ = some (.int .u64 y1) := fun x => by rw [x.cell _ (by simp)]; simp [World.cell?_alloc_new]
  have a4 : ∀ x : Wb (w.alloc (.cells #[.slice p len cap, .bool same, .int .u64 y0, .int .u64 y1, .int .u64 y2] 33)), x.at.cell? ⟨w.heap.size, 4, none⟩ = some (.int .u64 y2) := fun x => by rw [x.cell _ (by simp)]; simp [World.cell?_alloc_new]
  have KB := Lib.hid (fun x : Wb (w.alloc (.cells #[.slice p len cap, .bool same, .int .u64 y0, .int .u64 y1, .int .u64 y2] 33)) => ((Below.refl _ w).alloc (Nat.le_refl _) _).trans (x.bel.mono (by simp)))
  rw [hx0]
  clear hx0
  go_wp2_with fail
  refine (gawake_any _).mono ?_
  rintro e w1 ⟨rfl, b⟩
  obtain ⟨x1, rfl⟩ := Wb.next b
  clear b
  go_wp2_with fail
  refine (FI.out x1.at (HZ.out.keep (KB.out x1))).mono ?_
  rintro e w2 ⟨v, sb, rfl, ⟨_, g, cap2, rfl, hu⟩, b⟩
  have B2 := Lib.hid ((KB.out x1).trans (b.mono (KB.out x1).size))
  have U2 := Lib.hid hu
  clear b hu a0 a1 a2 a3 a4
  rw [← KE.out]
  obtain ⟨W3, hW3⟩ : ∃ W, W = ((w2.alloc (.cells #[.int .u64 0, .int .u64 0, .int .u64 0, .int .u64 0, .int .u64 0, .int .u64 0, .int .u64 0, .int .u64 0, .int .u64 0, .int .u64 0, .int .u64 0, .int .u64 0, .int .u64 0, .int .u64 0, .int .u64 0, .int .u64 0, .int .u64 0, .int .u64 0, .int .u64 0, .int .u64 0, .int .u64 0, .int .u64 0, .int .u64 0, .int .u64 0, .int .u64 0, .int .u64 0, .int .u64 0, .int .u64 0, .int .u64 0, .int .u64 0, .int .u64 0, .bool false, .int .u64 0, .int .u64 0, .int .u64 0] 36)).alloc (.cells #[.slice none 0 0, .bool false, .slice none 0 0] 38)).setRow w2.heap.size K.toArray := ⟨_, rfl⟩
  have F3 := Lib.hid (show W3.heap[w2.heap.size]? = some (.cells K.toArray 36 (0, 0)) by rw [hW3]; exact setRow_heap _ _ _ _ _ _ (heap_alloc2_old w2 _ _))
  have P3 := Lib.hid (show W3.heap[w2.heap.size + 1]? = some (.cells #[.slice none 0 0, .bool false, .slice none 0 0] 38 (0, 0)) by rw [hW3, setRow_other _ _ _ _ (by omega)]; exact heap_alloc2_new w2 _ _)
  have B3 := Lib.hid (show Below w2.heap.size w2 W3 by rw [hW3]; exact below_setRow (((Below.refl _ _).alloc (Nat.le_refl _) _).alloc (by simp) _) (Nat.le_refl _) _)
  have S3 := Lib.hid (show W3.heap.size = w2.heap.size + 2 by rw [hW3]; simp)
  have HW3 := Lib.hid hW3
  have e0 := cell_of_row W3 _ 0 _ _ _ P3.out
  have e1 := cell_of_row W3 _ 1 _ _ _ P3.out
  have e2 := cell_of_row W3 _ 2 _ _ _ P3.out
  have q0 := frozen_of_row W3 _ 0 _ _ P3.out
  have q1 := frozen_of_row W3 _ 1 _ _ P3.out
  have q2 := frozen_of_row W3 _ 2 _ _ P3.out
  simp only [List.getElem?_toArray, List.getElem?_cons_zero, List.getElem?_cons_succ] at e0 e1 e2
  clear hW3
  go_wp2_with (with_reducible refine wpList_store_row rfl 36 (.tmp 7) (.tmp 14) rfl w2.heap.size K.toArray rfl rfl 36 #[.int .u64 0, .int .u64 0, .int .u64 0, .int .u64 0, .int .u64 0, .int .u64 0, .int .u64 0, .int .u64 0, .int .u64 0, .int .u64 0, .int .u64 0, .int .u64 0, .int .u64 0, .int .u64 0, .int .u64 0, .int .u64 0, .int .u64 0, .int .u64 0, .int .u64 0, .int .u64 0, .int .u64 0, .int .u64 0, .int .u64 0, .int .u64 0, .int .u64 0, .int .u64 0, .int .u64 0, .int .u64 0, .int .u64 0, .int .u64 0, .int .u64 0, .bool false, .int .u64 0, .int .u64 0, .int .u64 0] (heap_alloc2_old w2 _ _) z1.out z2.out z3.out ?_; rw [← HW3.out])
  obtain ⟨W4, hW4⟩ : ∃ W, W = ((W3.setCell ⟨w2.heap.size + 1, 0, none⟩ (.slice (some ⟨g, 0, none⟩) 31 cap2)).setCell ⟨w2.heap.size + 1, 1, none⟩ (.bool same)).setCell ⟨w2.heap.size + 1, 2, none⟩ (.slice (some ⟨sb, 2, none⟩) 3 3) := ⟨_, rfl⟩
  rw [← hW4]
  have O4 := Lib.hid (show Only (w2.heap.size + 1) W3 W4 by rw [hW4]; exact ((Only.set _ _).trans (Only.set _ _)).trans (Only.set _ _))
  have gl := Lib.hid (show g < w2.heap.size from World.block_lt_of_cell? _ _ (U2.out 0 (by rw [RL.out]; omega)))
  have S4 := Lib.hid (show LS w W4 w2.heap.size (w2.heap.size + 1) R same [y0, y1, y2] g cap2 (.slice (some ⟨sb, 2, none⟩) 3 3) R from
    ⟨⟨(O4.out.block _ (by have := S3.out; omega) (by omega)).trans (by rw [← KE.out]; exact F3.out), RL.out, rfl⟩,
     by rw [hW4]; exact heap_setCell_same _ _ 2 _ _ _ (heap_setCell_same _ _ 1 _ _ _ (heap_setCell_same W3 _ 0 _ _ _ P3.out)),
     (U2.out.keep B3.out).other O4.out (by have := gl.out; omega), RL.out, by have := gl.out; omega, by omega, B2.out.size,
     B2.out.trans ((B3.out.trans (O4.out.below (by omega) (by have := S3.out; omega))).mono B2.out.size)⟩)
  clear hW4 e0 e1 e2 q0 q1 q2
  obtain ⟨B, hB⟩ : ∃ B, B = w2.heap.size := ⟨_, rfl⟩
  rw [← hB] at S4 ⊢
  obtain ⟨C, hC⟩ : ∃ C, C = B + 1 := ⟨_, rfl⟩
  rw [← hC] at S4 ⊢
  clear hB hC O4 gl F3 P3 B3 S3 HW3 U2 B2
  have p0 : ∀ x : Wb W4, x.at.cell? ⟨C, 0, none⟩ = some (.slice (some ⟨g, 0, none⟩) 31 cap2) := fun x => (S4.out.below x.bel).p0
  have p1 : ∀ x : Wb W4, x.at.cell? ⟨C, 1, none⟩ = some (.bool same) := fun x => (S4.out.below x.bel).p1
  have p2 : ∀ x : Wb W4, x.at.cell? ⟨C, 2, none⟩ = some (.slice (some ⟨sb, 2, none⟩) 3 3) := fun x => (S4.out.below x.bel).p2
  have GG := Lib.hid (fun x : Wb W4 => get_below B R [y0, y1, y2] same n x.at (S4.out.below x.bel).f)
  have PG := Lib.hid (fun x : Wb W4 => pget_any _ same (.slice (some ⟨sb, 2, none⟩) 3 3) R n x.at (S4.out.below x.bel).uv)
  obtain ⟨z, hz⟩ : ∃ z, z = GrG.getL R n := ⟨_, rfl⟩
  rw [← hz] at GG PG
  have HZn := Lib.hid hz
  clear hz
  refine wp_region_wb (by kernel_rfl) (by kernel_rfl) ?_
  repeat (go_big_quiet_step (first | (go_at_call 25; exact Calls.wb (GG.out _)) | (go_at_call 26; exact Calls.wb (PG.out _))))
  refine wpQuiet_nil ?_
  rintro _ ⟨y, rfl⟩
  have S5 := Lib.hid (S4.out.below y.bel)
  clear p0 p1 p2
  go_wp2_with fail
  refine (set_any B R [y0, y1, y2] same n val y.at S5.out.f).mono ?_
  rintro e w6 ⟨rfl, o6, f6⟩
  have S6 := Lib.hid (S5.out.only o6 f6 rfl)
  clear o6 f6
  have HE := Lib.hid (show GrG.setL R n val = if GrG.inR n = true then R.set n.toNat val else R from rfl)
  have HG := Lib.hid (show GrG.getL R n = if GrG.inR n = true then R.getD n.toNat 0 else 0 from rfl)
  by_cases c0 : n < 0
  · have d0 : decide (n < 0) = true := by simpa using c0
    have HR := Lib.hid (show GrG.setL R n val = R by rw [HE.out, if_neg (by simp [GrG.inR]; omega)])
    have HZ0 := Lib.hid (show GrG.getL R n = 0 by rw [HG.out, if_neg (by simp [GrG.inR]; omega)])
    clear c0
    have SR := Lib.hid (show LS w w6 B C R same [y0, y1, y2] g cap2 (.slice (some ⟨sb, 2, none⟩) 3 3) R by have := S6.out; rw [HR.out] at this; exact this)
    have h6 := Lib.hid (show w6.heap[B]? = some (.cells K.toArray 36 (0, 0)) by rw [KE.out]; exact SR.out.f.heap)
    have IS6 := Lib.hid (is_true R [y0, y1, y2] same _ (.slice (some ⟨sb, 2, none⟩) 3 3) w6 RL.out rfl SR.out.uv)
    rw [← KE.out] at IS6
    have p0 := SR.out.p0
    have p1 := SR.out.p1
    have p2 := SR.out.p2
    go_wp2_with (with_reducible refine wpList_load_row rfl 36 (.tmp 7) rfl B rfl 36 K.toArray (0, 0) _ h6.out Try.underlying36 rfl z1.out ?_)
    refine IS6.out.mono ?_
    rintro e w7 ⟨rfl, b7⟩
    have S7 := Lib.hid (SR.out.below b7)
    have G7 := Lib.hid (get_any B R [y0, y1, y2] same n w7 S7.out.f)
    rw [HZ0.out] at G7
    clear b7 p0 p1 p2
    go_wp2_with fail
    refine G7.out.mono ?_
    rintro e w8 ⟨rfl, rfl⟩
    go_wp2
    go_ret
    exact ⟨rfl, S7.out.bel⟩
  · have d0 : decide (n < 0) = false := by simpa using c0
    by_cases c1 : 30 < n
    · have d1 : decide (30 < n) = true := by simpa using c1
      have d2 : decide (n > 30) = true := by simpa using c1
      have HR := Lib.hid (show GrG.setL R n val = R by rw [HE.out, if_neg (by simp [GrG.inR]; omega)])
      have HZ0 := Lib.hid (show GrG.getL R n = 0 by rw [HG.out, if_neg (by simp [GrG.inR]; omega)])
      clear c0 c1
      have SR := Lib.hid (show LS w w6 B C R same [y0, y1, y2] g cap2 (.slice (some ⟨sb, 2, none⟩) 3 3) R by have := S6.out; rw [HR.out] at this; exact this)
      have h6 := Lib.hid (show w6.heap[B]? = some (.cells K.toArray 36 (0, 0)) by rw [KE.out]; exact SR.out.f.heap)
      have IS6 := Lib.hid (is_true R [y0, y1, y2] same _ (.slice (some ⟨sb, 2, none⟩) 3 3) w6 RL.out rfl SR.out.uv)
      rw [← KE.out] at IS6
      have p0 := SR.out.p0
      have p1 := SR.out.p1
      have p2 := SR.out.p2
      go_wp2_with (with_reducible refine wpList_load_row rfl 36 (.tmp 7) rfl B rfl 36 K.toArray (0, 0) _ h6.out Try.underlying36 rfl z1.out ?_)
      refine IS6.out.mono ?_
      rintro e w7 ⟨rfl, b7⟩
      have S7 := Lib.hid (SR.out.below b7)
      have G7 := Lib.hid (get_any B R [y0, y1, y2] same n w7 S7.out.f)
      rw [HZ0.out] at G7
      clear b7 p0 p1 p2
      go_wp2_with fail
      refine G7.out.mono ?_
      rintro e w8 ⟨rfl, rfl⟩
      go_wp2
      go_ret
      exact ⟨rfl, S7.out.bel⟩
    · have d1 : decide (30 < n) = false := by simpa using c1
      have d2 : decide (n > 30) = false := by simpa using c1
      clear c0 c1
      obtain ⟨V2, hV2⟩ : ∃ V, V = GrG.setL R n val := ⟨_, rfl⟩
      have HV2 := Lib.hid hV2
      have LV := Lib.hid (show V2.length = 31 by rw [hV2, GrG.setL_len]; exact RL.out)
      obtain ⟨K2, hK2⟩ : ∃ K, K = GrG.fcells V2 same [y0, y1, y2] := ⟨_, rfl⟩
      have KE2 := Lib.hid hK2
      have t1 := Lib.hid (show (Try.prog.info? 36).map (·.size) = some K2.toArray.size by rw [sizeF, hK2]; simp [GrG.fcells_len LV.out])
      clear hV2 hK2
      have h6 := Lib.hid (show w6.heap[B]? = some (.cells K2.toArray 36 (0, 0)) by rw [KE2.out, HV2.out]; exact S6.out.f.heap)
      have PS := Lib.hid (pset_any (.slice (some ⟨g, 0, none⟩) 31 cap2) same (some ⟨sb, 2, none⟩) 3 3 R n val w6.drew (S6.out.uv.keep ((Below.refl _ _).drew)))
      rw [← HV2.out] at PS
      go_wp2_with fail
      refine wp_region_held_drew (S := fun w1 => w1.heap[B]? = some (.cells K2.toArray 36 (0, 0)) ∧ w1.cell? ⟨C, 0, none⟩ = some (.slice (some ⟨g, 0, none⟩) 31 cap2) ∧ w1.cell? ⟨C, 1, none⟩ = some (.bool same) ∧ w1.cell? ⟨C, 2, none⟩ = some (.slice (some ⟨sb, 2, none⟩) 3 3)) (by kernel_rfl) ⟨h6.out, S6.out.p0, S6.out.p1, S6.out.p2⟩ (fun hHeld => ?_)
      refine wpAnyH_take (i := 0) (v := .agg K2.toArray) rfl (by kernel_rfl) (by kernel_rfl) (by kernel_rfl) (fun _ _ _ h => h) (Or.inl ⟨by rfl, fun w1 hSw => load_row_run _ _ rfl B rfl 36 K2.toArray (0, 0) _ hSw.1 Try.underlying36 rfl t1.out⟩) (by assumption) ?_
      (try simp only [Act.put, List.getElem_toArray, List.getElem_cons_zero, List.getElem_cons_succ, List.setIfInBounds_toArray, List.set_cons_zero, List.set_cons_succ])
      refine wpAnyH_take (i := 1) (v := ?_) rfl (by kernel_rfl) (by kernel_rfl) (by kernel_rfl) (fun _ _ _ h => h) (Or.inl ⟨by rfl, ?_⟩) (by assumption) ?_
      rotate_left 1
      · (intro w1 hSw; (try dsimp only at hSw); obtain ⟨hs1, hs2, hs3, hs4⟩ := hSw; go_simp; try with_reducible rfl)
      (try simp only [Act.put, List.getElem_toArray, List.getElem_cons_zero, List.getElem_cons_succ, List.setIfInBounds_toArray, List.set_cons_zero, List.set_cons_succ])
      refine wpAnyH_take (i := 2) (v := ?_) rfl (by kernel_rfl) (by kernel_rfl) (by kernel_rfl) (fun _ _ _ h => h) (Or.inl ⟨by rfl, ?_⟩) (by assumption) ?_
      rotate_left 1
      · (intro w1 hSw; (try dsimp only at hSw); obtain ⟨hs1, hs2, hs3, hs4⟩ := hSw; go_simp; try with_reducible rfl)
      (try simp only [Act.put, List.getElem_toArray, List.getElem_cons_zero, List.getElem_cons_succ, List.setIfInBounds_toArray, List.set_cons_zero, List.set_cons_succ])
      refine wpAnyH_take (i := 3) (v := ?_) rfl (by kernel_rfl) (by kernel_rfl) (by kernel_rfl) (fun _ _ _ h => h) (Or.inl ⟨by rfl, ?_⟩) (by assumption) ?_
      rotate_left 1
      · (intro w1 hSw; (try dsimp only at hSw); obtain ⟨hs1, hs2, hs3, hs4⟩ := hSw; go_simp; try with_reducible rfl)
      (try simp only [Act.put, List.getElem_toArray, List.getElem_cons_zero, List.getElem_cons_succ, List.setIfInBounds_toArray, List.set_cons_zero, List.set_cons_succ])
      refine wpAnyH_ready (rs := [4]) (by kernel_rfl) (by simp) ?_
      refine AllReadyH.cons rfl (fun K hK => ?_) AllReadyH.nil
      go_simp
      refine PS.out.mono ?_
      rintro e w7 ⟨v7, rfl, hv7, _, b7⟩
      have b7' : Below w6.heap.size w6 w7 := (Below.drew (Below.refl w6.heap.size w6)).trans b7
      have S7 := Lib.hid (S6.out.below b7')
      have h7 := Lib.hid (show w7.heap[B]? = some (.cells K2.toArray 36 (0, 0)) by rw [KE2.out, HV2.out]; exact S7.out.f.heap)
      have IS7 := Lib.hid (is_true V2 [y0, y1, y2] same v7 (.slice (some ⟨sb, 2, none⟩) 3 3) w7 LV.out rfl hv7)
      rw [← KE2.out] at IS7
      clear b7 b7' hv7
      refine hK.out _ _ ⟨h7.out, S7.out.p0, S7.out.p1, S7.out.p2⟩ (fun hHeld => ?_)
      clear hK K
      (try simp only [Act.put, List.getElem_toArray, List.getElem_cons_zero, List.getElem_cons_succ, List.setIfInBounds_toArray, List.set_cons_zero, List.set_cons_succ])
      refine wpAnyH_ready (rs := [5]) (by kernel_rfl) (by simp) ?_
      refine AllReadyH.cons rfl (fun K hK => ?_) AllReadyH.nil
      go_simp
      refine IS7.out.mono ?_
      rintro e w8 ⟨rfl, b8⟩
      have S8 := Lib.hid (S7.out.below b8)
      have h8 := Lib.hid (show w8.heap[B]? = some (.cells K2.toArray 36 (0, 0)) by rw [KE2.out, HV2.out]; exact S8.out.f.heap)
      clear b8
      refine hK.out _ _ ⟨h8.out, S8.out.p0, S8.out.p1, S8.out.p2⟩ (fun hHeld => ?_)
      clear hK K
      (try simp only [Act.put, List.getElem_toArray, List.getElem_cons_zero, List.getElem_cons_succ, List.setIfInBounds_toArray, List.set_cons_zero, List.set_cons_succ])
      refine wpAnyH_take (i := 6) (v := ?_) rfl (by kernel_rfl) (by kernel_rfl) (by kernel_rfl) (fun _ _ _ h => h) (Or.inl ⟨by rfl, ?_⟩) (by assumption) ?_
      rotate_left 1
      · (intro w1 hSw; (try dsimp only at hSw); obtain ⟨hs1, hs2, hs3, hs4⟩ := hSw; go_simp; try with_reducible rfl)
      (try simp only [Act.put, List.getElem_toArray, List.getElem_cons_zero, List.getElem_cons_succ, List.setIfInBounds_toArray, List.set_cons_zero, List.set_cons_succ])
      refine wpAnyH_done (by kernel_rfl) ?_ _
      go_wp2
      go_ret
      exact ⟨rfl, S8.out.bel⟩
end Go.Proofs.Ytnehdgapcgbdeaa
