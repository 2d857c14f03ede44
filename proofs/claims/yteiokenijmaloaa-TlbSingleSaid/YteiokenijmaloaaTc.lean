/-
  Layer 9, the walks: Covers, Serves.
-/
import Derived.Test.YteiokenijmaloaaTb
set_option linter.unusedSimpArgs false
set_option linter.unusedVariables false
namespace Go.Proofs.Yteiokenijmaloaa
open Go.RowKit

set_option maxRecDepth 100000 in
set_option maxHeartbeats 1600000 in
theorem covers_any (sp pg f l va : Int) (hf0 : 0 ≤ f) (hf1 : f < 18446744073709551616) (hv0 : 0 ≤ va) (hv1 : va < 18446744073709551616) (w : World) :
    Calls Try.prog 32 #[.agg #[.int .i64 sp, .int .u64 pg, .int .u64 f, .int .u64 l], .int .u64 va] w fun e w' => e = .returned (.bool (GrT.covers ⟨sp, pg, f, l⟩ va)) ∧ Below w.heap.size w w' := by
  have SZ := Lib.hid (fun w => size_any sp pg f l hf0 hf1 w)
  have hz : GrT.size f = 12 ∨ GrT.size f = 21 := by unfold GrT.size; split <;> simp
  obtain ⟨S, hS⟩ : ∃ S, S = GrT.size f := ⟨_, rfl⟩
  rw [← hS] at SZ hz
  have DN := Lib.hid (fun w => (Calls.same_below (down_any va S w hv0 hv1 (by omega) (by omega)) (Below.refl _ _)))
  have E := Lib.hid (show GrT.covers ⟨sp, pg, f, l⟩ va = (GrF.down va S == pg) by rw [hS]; rfl)
  clear hz hS hf0 hf1 hv0 hv1
  have k0 : ∀ z : Wb (w.alloc (.cells #[.int .i64 sp, .int .u64 pg, .int .u64 f, .int .u64 l] 25)), z.at.cell? ⟨w.heap.size, 0, none⟩ = some (.int .i64 sp) := fun z => by rw [z.cell _ (by simp)]; simp [World.cell?_alloc_new]
  have k1 : ∀ z : Wb (w.alloc (.cells #[.int .i64 sp, .int .u64 pg, .int .u64 f, .int .u64 l] 25)), z.at.cell? ⟨w.heap.size, 1, none⟩ = some (.int .u64 pg) := fun z => by rw [z.cell _ (by simp)]; simp [World.cell?_alloc_new]
  have k2 : ∀ z : Wb (w.alloc (.cells #[.int .i64 sp, .int .u64 pg, .int .u64 f, .int .u64 l] 25)), z.at.cell? ⟨w.heap.size, 2, none⟩ = some (.int .u64 f) := fun z => by rw [z.cell _ (by simp)]; simp [World.cell?_alloc_new]
  have k3 : ∀ z : Wb (w.alloc (.cells #[.int .i64 sp, .int .u64 pg, .int .u64 f, .int .u64 l] 25)), z.at.cell? ⟨w.heap.size, 3, none⟩ = some (.int .u64 l) := fun z => by rw [z.cell _ (by simp)]; simp [World.cell?_alloc_new]
  have KB := Lib.hid (fun (z : Wb (w.alloc (.cells #[.int .i64 sp, .int .u64 pg, .int .u64 f, .int .u64 l] 25))) => (((Below.refl _ _).alloc (Nat.le_refl _) _).trans (z.bel.mono (by simp)) : Below w.heap.size w z.at))
  go_enter Try.func32, Try.ntmps32
  go_wp2_with fail
  refine wp_region_wb (by kernel_rfl) (by kernel_rfl) ?_
  repeat (go_big_quiet_step (first | (go_at_call 46; exact Calls.wb (SZ.out _)) | (go_at_call 38; exact Calls.wb (DN.out _))))
  refine wpQuiet_nil ?_
  rintro _ ⟨x, rfl⟩
  go_wp2
  go_ret
  exact ⟨ret_bool' (by rw [E.out]), KB.out x⟩

set_option maxRecDepth 100000 in
set_option maxHeartbeats 1600000 in
theorem rcovers_any (sp pg f l va : Int) (hf0 : 0 ≤ f) (hf1 : f < 18446744073709551616) (hv0 : 0 ≤ va) (hv1 : va < 18446744073709551616) (w : World) :
    Calls Try.prog 47 #[.agg #[.int .i64 sp, .int .u64 pg, .int .u64 f, .int .u64 l], .int .u64 va] w fun e w' => e = .returned (.bool (GrT.covers ⟨sp, pg, f, l⟩ va)) ∧ Below w.heap.size w w' := by
  have BK := Lib.hid (fun w => rblock_any f hf0 hf1 w)
  have D1 := Lib.hid (fun w => rdown_any va 21 w hv0 hv1 (by omega) (by omega))
  have D2 := Lib.hid (fun w => rdown_any va 12 w hv0 hv1 (by omega) (by omega))
  have E := Lib.hid (show GrT.covers ⟨sp, pg, f, l⟩ va = (GrF.down va (if GrT.block f = true then 21 else 12) == pg) from rfl)
  obtain ⟨B, hB⟩ : ∃ B, B = GrT.block f := ⟨_, rfl⟩
  rw [← hB] at BK E
  clear hB hf0 hf1 hv0 hv1
  have k0 : ∀ z : Wb (w.alloc (.cells #[.int .i64 sp, .int .u64 pg, .int .u64 f, .int .u64 l] 25)), z.at.cell? ⟨w.heap.size, 0, none⟩ = some (.int .i64 sp) := fun z => by rw [z.cell _ (by simp)]; simp [World.cell?_alloc_new]
  have k1 : ∀ z : Wb (w.alloc (.cells #[.int .i64 sp, .int .u64 pg, .int .u64 f, .int .u64 l] 25)), z.at.cell? ⟨w.heap.size, 1, none⟩ = some (.int .u64 pg) := fun z => by rw [z.cell _ (by simp)]; simp [World.cell?_alloc_new]
  have k2 : ∀ z : Wb (w.alloc (.cells #[.int .i64 sp, .int .u64 pg, .int .u64 f, .int .u64 l] 25)), z.at.cell? ⟨w.heap.size, 2, none⟩ = some (.int .u64 f) := fun z => by rw [z.cell _ (by simp)]; simp [World.cell?_alloc_new]
  have k3 : ∀ z : Wb (w.alloc (.cells #[.int .i64 sp, .int .u64 pg, .int .u64 f, .int .u64 l] 25)), z.at.cell? ⟨w.heap.size, 3, none⟩ = some (.int .u64 l) := fun z => by rw [z.cell _ (by simp)]; simp [World.cell?_alloc_new]
  have KB := Lib.hid (fun (z : Wb (w.alloc (.cells #[.int .i64 sp, .int .u64 pg, .int .u64 f, .int .u64 l] 25))) => (((Below.refl _ _).alloc (Nat.le_refl _) _).trans (z.bel.mono (by simp)) : Below w.heap.size w z.at))
  cases B with
  | false =>
    go_enter Try.func47, Try.ntmps47
    go_wp2_with fail
    refine (BK.out _).mono ?_
    rintro e w1 ⟨rfl, g1⟩
    obtain ⟨x0, rfl⟩ := Wb.start g1
    clear g1
    go_wp2_with fail
    have j1 : ∀ z : Wb x0.at, z.at.cell? ⟨w.heap.size, 1, none⟩ = some (.int .u64 pg) := x0.lift k1
    refine wp_region_wb (by kernel_rfl) (by kernel_rfl) ?_
    repeat (go_big_quiet_step ((go_at_call 55; exact Calls.wb (D2.out _))))
    refine wpQuiet_nil ?_
    rintro _ ⟨x1, rfl⟩
    go_wp2
    go_ret
    exact ⟨ret_bool' (by rw [E.out]; simp), (KB.out x0).trans (x1.bel.mono (by have := x0.size; simp at this; omega))⟩
  | true =>
    go_enter Try.func47, Try.ntmps47
    go_wp2_with fail
    refine (BK.out _).mono ?_
    rintro e w1 ⟨rfl, g1⟩
    obtain ⟨x0, rfl⟩ := Wb.start g1
    clear g1
    go_wp2_with fail
    have j1 : ∀ z : Wb x0.at, z.at.cell? ⟨w.heap.size, 1, none⟩ = some (.int .u64 pg) := x0.lift k1
    refine wp_region_wb (by kernel_rfl) (by kernel_rfl) ?_
    repeat (go_big_quiet_step ((go_at_call 55; exact Calls.wb (D1.out _))))
    refine wpQuiet_nil ?_
    rintro _ ⟨x1, rfl⟩
    go_wp2
    go_ret
    exact ⟨ret_bool' (by rw [E.out]; simp), (KB.out x0).trans (x1.bel.mono (by have := x0.size; simp at this; omega))⟩

set_option maxRecDepth 100000 in
set_option maxHeartbeats 1600000 in
theorem serves_any (sp pg f l n va : Int) (hf0 : 0 ≤ f) (hf1 : f < 18446744073709551616) (hl0 : 0 ≤ l) (hl1 : l < 18446744073709551616) (hv0 : 0 ≤ va) (hv1 : va < 18446744073709551616) (w : World) :
    Calls Try.prog 31 #[.agg #[.int .i64 sp, .int .u64 pg, .int .u64 f, .int .u64 l], .int .i64 n, .int .u64 va] w fun e w' => e = .returned (.bool (GrT.serves ⟨sp, pg, f, l⟩ n va)) ∧ Below w.heap.size w w' := by
  have CV := Lib.hid (fun w => covers_any sp pg f l va hf0 hf1 hv0 hv1 w)
  have OW := Lib.hid (fun w => own_any sp pg f l hf0 hf1 hl0 hl1 w)
  obtain ⟨C, hC⟩ : ∃ C, C = GrT.covers ⟨sp, pg, f, l⟩ va := ⟨_, rfl⟩
  obtain ⟨O, hO⟩ : ∃ O, O = GrT.own ⟨sp, pg, f, l⟩ := ⟨_, rfl⟩
  have E := Lib.hid (show GrT.serves ⟨sp, pg, f, l⟩ n va = (C && ((sp == n) || !O)) by rw [hC, hO]; rfl)
  rw [← hC] at CV
  rw [← hO] at OW
  clear hC hO hf0 hf1 hl0 hl1 hv0 hv1
  have k0 : ∀ z : Wb (w.alloc (.cells #[.int .i64 sp, .int .u64 pg, .int .u64 f, .int .u64 l] 25)), z.at.cell? ⟨w.heap.size, 0, none⟩ = some (.int .i64 sp) := fun z => by rw [z.cell _ (by simp)]; simp [World.cell?_alloc_new]
  have k1 : ∀ z : Wb (w.alloc (.cells #[.int .i64 sp, .int .u64 pg, .int .u64 f, .int .u64 l] 25)), z.at.cell? ⟨w.heap.size, 1, none⟩ = some (.int .u64 pg) := fun z => by rw [z.cell _ (by simp)]; simp [World.cell?_alloc_new]
  have k2 : ∀ z : Wb (w.alloc (.cells #[.int .i64 sp, .int .u64 pg, .int .u64 f, .int .u64 l] 25)), z.at.cell? ⟨w.heap.size, 2, none⟩ = some (.int .u64 f) := fun z => by rw [z.cell _ (by simp)]; simp [World.cell?_alloc_new]
  have k3 : ∀ z : Wb (w.alloc (.cells #[.int .i64 sp, .int .u64 pg, .int .u64 f, .int .u64 l] 25)), z.at.cell? ⟨w.heap.size, 3, none⟩ = some (.int .u64 l) := fun z => by rw [z.cell _ (by simp)]; simp [World.cell?_alloc_new]
  have KB := Lib.hid (fun (z : Wb (w.alloc (.cells #[.int .i64 sp, .int .u64 pg, .int .u64 f, .int .u64 l] 25))) => (((Below.refl _ _).alloc (Nat.le_refl _) _).trans (z.bel.mono (by simp)) : Below w.heap.size w z.at))
  cases C with
  | false =>
    go_enter Try.func31, Try.ntmps31
    go_wp2_with fail
    refine (CV.out _).mono ?_
    rintro e w1 ⟨rfl, g1⟩
    obtain ⟨x0, rfl⟩ := Wb.start g1
    clear g1
    go_wp2
    go_ret
    exact ⟨ret_bool' (by rw [E.out]; simp), KB.out x0⟩
  | true =>
    cases c0 : (sp == n) with
    | true =>
      go_enter Try.func31, Try.ntmps31
      go_wp2_with fail
      refine (CV.out _).mono ?_
      rintro e w1 ⟨rfl, g1⟩
      obtain ⟨x0, rfl⟩ := Wb.start g1
      clear g1
      go_wp2
      go_ret
      exact ⟨ret_bool' (by rw [E.out]; simp [c0]), KB.out x0⟩
    | false =>
      go_enter Try.func31, Try.ntmps31
      go_wp2_with fail
      refine (CV.out _).mono ?_
      rintro e w1 ⟨rfl, g1⟩
      obtain ⟨x0, rfl⟩ := Wb.start g1
      clear g1
      go_wp2_with fail
      refine (OW.out _).mono ?_
      rintro e w1 ⟨rfl, g1⟩
      obtain ⟨x1, rfl⟩ := Wb.next g1
      clear g1
      go_wp2
      go_ret
      exact ⟨ret_bool' (by rw [E.out]; simp [c0]), KB.out x1⟩

set_option maxRecDepth 100000 in
set_option maxHeartbeats 1600000 in
theorem rserves_any (sp pg f l n va : Int) (hf0 : 0 ≤ f) (hf1 : f < 18446744073709551616) (hl0 : 0 ≤ l) (hl1 : l < 18446744073709551616) (hv0 : 0 ≤ va) (hv1 : va < 18446744073709551616) (w : World) :
    Calls Try.prog 35 #[.agg #[.int .i64 sp, .int .u64 pg, .int .u64 f, .int .u64 l], .int .i64 n, .int .u64 va] w fun e w' => e = .returned (.bool (GrT.serves ⟨sp, pg, f, l⟩ n va)) ∧ Below w.heap.size w w' := by
  have CV := Lib.hid (fun w => rcovers_any sp pg f l va hf0 hf1 hv0 hv1 w)
  have OW := Lib.hid (fun w => rown_any sp pg f l hf0 hf1 hl0 hl1 w)
  obtain ⟨C, hC⟩ : ∃ C, C = GrT.covers ⟨sp, pg, f, l⟩ va := ⟨_, rfl⟩
  obtain ⟨O, hO⟩ : ∃ O, O = GrT.own ⟨sp, pg, f, l⟩ := ⟨_, rfl⟩
  have E := Lib.hid (show GrT.serves ⟨sp, pg, f, l⟩ n va = (C && ((sp == n) || !O)) by rw [hC, hO]; rfl)
  rw [← hC] at CV
  rw [← hO] at OW
  clear hC hO hf0 hf1 hl0 hl1 hv0 hv1
  have k0 : ∀ z : Wb (w.alloc (.cells #[.int .i64 sp, .int .u64 pg, .int .u64 f, .int .u64 l] 25)), z.at.cell? ⟨w.heap.size, 0, none⟩ = some (.int .i64 sp) := fun z => by rw [z.cell _ (by simp)]; simp [World.cell?_alloc_new]
  have k1 : ∀ z : Wb (w.alloc (.cells #[.int .i64 sp, .int .u64 pg, .int .u64 f, .int .u64 l] 25)), z.at.cell? ⟨w.heap.size, 1, none⟩ = some (.int .u64 pg) := fun z => by rw [z.cell _ (by simp)]; simp [World.cell?_alloc_new]
  have k2 : ∀ z : Wb (w.alloc (.cells #[.int .i64 sp, .int .u64 pg, .int .u64 f, .int .u64 l] 25)), z.at.cell? ⟨w.heap.size, 2, none⟩ = some (.int .u64 f) := fun z => by rw [z.cell _ (by simp)]; simp [World.cell?_alloc_new]
  have k3 : ∀ z : Wb (w.alloc (.cells #[.int .i64 sp, .int .u64 pg, .int .u64 f, .int .u64 l] 25)), z.at.cell? ⟨w.heap.size, 3, none⟩ = some (.int .u64 l) := fun z => by rw [z.cell _ (by simp)]; simp [World.cell?_alloc_new]
  have KB := Lib.hid (fun (z : Wb (w.alloc (.cells #[.int .i64 sp, .int .u64 pg, .int .u64 f, .int .u64 l] 25))) => (((Below.refl _ _).alloc (Nat.le_refl _) _).trans (z.bel.mono (by simp)) : Below w.heap.size w z.at))
  cases C with
  | false =>
    go_enter Try.func35, Try.ntmps35
    go_wp2_with fail
    refine (CV.out _).mono ?_
    rintro e w1 ⟨rfl, g1⟩
    obtain ⟨x0, rfl⟩ := Wb.start g1
    clear g1
    go_wp2
    go_ret
    exact ⟨ret_bool' (by rw [E.out]; simp), KB.out x0⟩
  | true =>
    cases O with
    | false =>
      go_enter Try.func35, Try.ntmps35
      go_wp2_with fail
      refine (CV.out _).mono ?_
      rintro e w1 ⟨rfl, g1⟩
      obtain ⟨x0, rfl⟩ := Wb.start g1
      clear g1
      go_wp2_with fail
      refine (OW.out _).mono ?_
      rintro e w1 ⟨rfl, g1⟩
      obtain ⟨x1, rfl⟩ := Wb.next g1
      clear g1
      go_wp2
      go_ret
      exact ⟨ret_bool' (by rw [E.out]; simp), KB.out x1⟩
    | true =>
      go_enter Try.func35, Try.ntmps35
      go_wp2_with fail
      refine (CV.out _).mono ?_
      rintro e w1 ⟨rfl, g1⟩
      obtain ⟨x0, rfl⟩ := Wb.start g1
      clear g1
      go_wp2_with fail
      refine (OW.out _).mono ?_
      rintro e w1 ⟨rfl, g1⟩
      obtain ⟨x1, rfl⟩ := Wb.next g1
      clear g1
      go_wp2
      go_ret
      exact ⟨ret_bool' (by rw [E.out]; simp), KB.out x1⟩

end Go.Proofs.Yteiokenijmaloaa
