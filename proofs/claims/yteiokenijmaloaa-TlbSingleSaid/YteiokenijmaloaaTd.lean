/-
  Layer 9, the walks: Fill.
-/
import Derived.Test.YteiokenijmaloaaTc
set_option linter.unusedSimpArgs false
set_option linter.unusedVariables false
namespace Go.Proofs.Yteiokenijmaloaa
open Go.RowKit
/-- an entry as a value -/
def ev (e : GrT.E) : Value := .agg #[.int .i64 e.space, .int .u64 e.page, .int .u64 e.first, .int .u64 e.last]
theorem ret_eb {a b : Value} {c d : Bool} (h : a = b) (k : c = d) : Ending.returned (.tuple #[a, .bool c]) = .returned (.tuple #[b, .bool d]) := by rw [h, k]

set_option maxRecDepth 100000 in
set_option maxHeartbeats 3200000 in
theorem fill_any (sp va f l : Int) (hf0 : 0 ≤ f) (hf1 : f < 18446744073709551616) (hl0 : 0 ≤ l) (hl1 : l < 18446744073709551616) (hv0 : 0 ≤ va) (hv1 : va < 18446744073709551616) (w : World) :
    Calls Try.prog 20 #[.int .i64 sp, .int .u64 va, .int .u64 f, .int .u64 l] w fun e w' => e = .returned (.tuple #[ev (GrT.fillE sp va f l), .bool (GrT.fillOk f l)]) ∧ Below w.heap.size w w' := by
  have LF := Lib.hid (fun w => leaf_any f l w hf0 hf1 hl0 hl1)
  obtain ⟨D1, hD⟩ : ∃ D, D = GrT.leafD f l := ⟨_, rfl⟩
  obtain ⟨L1, hL⟩ : ∃ L, L = GrT.leafL f := ⟨_, rfl⟩
  have hL2 := GrT.leafL_12 f
  have E := Lib.hid (show GrT.fillE sp va f l = if GrT.keptD D1 = true then (if L1 = 1 then ⟨sp, GrF.down va 21, f, 0⟩ else ⟨sp, GrF.down va 12, f, l⟩) else ⟨0, 0, 0, 0⟩ by rw [hD, hL]; rfl)
  have EO := Lib.hid (show GrT.fillOk f l = GrT.keptD D1 by rw [hD]; rfl)
  rw [← hD, ← hL] at LF
  rw [← hL] at hL2
  have DA := Lib.hid (fun w => (Calls.same_below (down_any va 21 w hv0 hv1 (by omega) (by omega)) (Below.refl _ _)))
  have DB := Lib.hid (fun w => (Calls.same_below (page_any va w hv0 hv1) (Below.refl _ _)))
  clear hD hL hf0 hf1 hl0 hl1 hv0 hv1
  obtain ⟨v, t, o, u, r, s, q⟩ := D1
  unfold dv at LF
  have k0 : ∀ z : Wb (w.alloc (.cells #[.int .i64 0, .int .u64 0, .int .u64 0, .int .u64 0] 25)), z.at.cell? ⟨w.heap.size, 0, none⟩ = some (.int .i64 0) := fun z => by rw [z.cell _ (by simp)]; simp [World.cell?_alloc_new]
  have k1 : ∀ z : Wb (w.alloc (.cells #[.int .i64 0, .int .u64 0, .int .u64 0, .int .u64 0] 25)), z.at.cell? ⟨w.heap.size, 1, none⟩ = some (.int .u64 0) := fun z => by rw [z.cell _ (by simp)]; simp [World.cell?_alloc_new]
  have k2 : ∀ z : Wb (w.alloc (.cells #[.int .i64 0, .int .u64 0, .int .u64 0, .int .u64 0] 25)), z.at.cell? ⟨w.heap.size, 2, none⟩ = some (.int .u64 0) := fun z => by rw [z.cell _ (by simp)]; simp [World.cell?_alloc_new]
  have k3 : ∀ z : Wb (w.alloc (.cells #[.int .i64 0, .int .u64 0, .int .u64 0, .int .u64 0] 25)), z.at.cell? ⟨w.heap.size, 3, none⟩ = some (.int .u64 0) := fun z => by rw [z.cell _ (by simp)]; simp [World.cell?_alloc_new]
  have c0 : ∀ z : Wb (w.alloc (.cells #[.int .i64 0, .int .u64 0, .int .u64 0, .int .u64 0] 25)), z.at.frozen? ⟨w.heap.size, 0, none⟩ = false := fun z => frozen_new 0 z
  have c1 : ∀ z : Wb (w.alloc (.cells #[.int .i64 0, .int .u64 0, .int .u64 0, .int .u64 0] 25)), z.at.frozen? ⟨w.heap.size, 1, none⟩ = false := fun z => frozen_new 1 z
  have c2 : ∀ z : Wb (w.alloc (.cells #[.int .i64 0, .int .u64 0, .int .u64 0, .int .u64 0] 25)), z.at.frozen? ⟨w.heap.size, 2, none⟩ = false := fun z => frozen_new 2 z
  have c3 : ∀ z : Wb (w.alloc (.cells #[.int .i64 0, .int .u64 0, .int .u64 0, .int .u64 0] 25)), z.at.frozen? ⟨w.heap.size, 3, none⟩ = false := fun z => frozen_new 3 z
  have KB := Lib.hid (fun (z : Wb (w.alloc (.cells #[.int .i64 0, .int .u64 0, .int .u64 0, .int .u64 0] 25))) => (((Below.refl _ _).alloc (Nat.le_refl _) _).trans (z.bel.mono (by simp)) : Below w.heap.size w z.at))
  cases v with
  | false =>
    clear hL2
    go_enter Try.func20, Try.ntmps20
    go_wp2_with fail
    refine (LF.out _).mono ?_
    rintro e w1 ⟨rfl, g1⟩
    obtain ⟨x0, rfl⟩ := Wb.start g1
    clear g1
    have lt1 : w.heap.size < x0.at.heap.size := by have := x0.size; simp at this; omega
    have m0 : ∀ z : Wb (x0.at.alloc (.cells #[.bool false, .bool t, .int .u64 o, .bool u, .bool r, .bool s, .bool q] 66)), z.at.cell? ⟨x0.at.heap.size, 0, none⟩ = some (.bool false) := fun z => by rw [z.cell _ (by simp)]; simp [World.cell?_alloc_new]
    have m1 : ∀ z : Wb (x0.at.alloc (.cells #[.bool false, .bool t, .int .u64 o, .bool u, .bool r, .bool s, .bool q] 66)), z.at.cell? ⟨x0.at.heap.size, 1, none⟩ = some (.bool t) := fun z => by rw [z.cell _ (by simp)]; simp [World.cell?_alloc_new]
    have m2 : ∀ z : Wb (x0.at.alloc (.cells #[.bool false, .bool t, .int .u64 o, .bool u, .bool r, .bool s, .bool q] 66)), z.at.cell? ⟨x0.at.heap.size, 2, none⟩ = some (.int .u64 o) := fun z => by rw [z.cell _ (by simp)]; simp [World.cell?_alloc_new]
    have m3 : ∀ z : Wb (x0.at.alloc (.cells #[.bool false, .bool t, .int .u64 o, .bool u, .bool r, .bool s, .bool q] 66)), z.at.cell? ⟨x0.at.heap.size, 3, none⟩ = some (.bool u) := fun z => by rw [z.cell _ (by simp)]; simp [World.cell?_alloc_new]
    have m4 : ∀ z : Wb (x0.at.alloc (.cells #[.bool false, .bool t, .int .u64 o, .bool u, .bool r, .bool s, .bool q] 66)), z.at.cell? ⟨x0.at.heap.size, 4, none⟩ = some (.bool r) := fun z => by rw [z.cell _ (by simp)]; simp [World.cell?_alloc_new]
    have m5 : ∀ z : Wb (x0.at.alloc (.cells #[.bool false, .bool t, .int .u64 o, .bool u, .bool r, .bool s, .bool q] 66)), z.at.cell? ⟨x0.at.heap.size, 5, none⟩ = some (.bool s) := fun z => by rw [z.cell _ (by simp)]; simp [World.cell?_alloc_new]
    have m6 : ∀ z : Wb (x0.at.alloc (.cells #[.bool false, .bool t, .int .u64 o, .bool u, .bool r, .bool s, .bool q] 66)), z.at.cell? ⟨x0.at.heap.size, 6, none⟩ = some (.bool q) := fun z => by rw [z.cell _ (by simp)]; simp [World.cell?_alloc_new]
    have p0 : ∀ z : Wb (x0.at.alloc (.cells #[.bool false, .bool t, .int .u64 o, .bool u, .bool r, .bool s, .bool q] 66)), z.at.cell? ⟨w.heap.size, 0, none⟩ = some (.int .i64 0) := fun z => (z.prev _ lt1).trans (k0 x0)
    have p1 : ∀ z : Wb (x0.at.alloc (.cells #[.bool false, .bool t, .int .u64 o, .bool u, .bool r, .bool s, .bool q] 66)), z.at.cell? ⟨w.heap.size, 1, none⟩ = some (.int .u64 0) := fun z => (z.prev _ lt1).trans (k1 x0)
    have p2 : ∀ z : Wb (x0.at.alloc (.cells #[.bool false, .bool t, .int .u64 o, .bool u, .bool r, .bool s, .bool q] 66)), z.at.cell? ⟨w.heap.size, 2, none⟩ = some (.int .u64 0) := fun z => (z.prev _ lt1).trans (k2 x0)
    have p3 : ∀ z : Wb (x0.at.alloc (.cells #[.bool false, .bool t, .int .u64 o, .bool u, .bool r, .bool s, .bool q] 66)), z.at.cell? ⟨w.heap.size, 3, none⟩ = some (.int .u64 0) := fun z => (z.prev _ lt1).trans (k3 x0)
    have d0 : ∀ z : Wb (x0.at.alloc (.cells #[.bool false, .bool t, .int .u64 o, .bool u, .bool r, .bool s, .bool q] 66)), z.at.frozen? ⟨w.heap.size, 0, none⟩ = false := fun z => (z.prevf _ lt1).trans (c0 x0)
    have d1 : ∀ z : Wb (x0.at.alloc (.cells #[.bool false, .bool t, .int .u64 o, .bool u, .bool r, .bool s, .bool q] 66)), z.at.frozen? ⟨w.heap.size, 1, none⟩ = false := fun z => (z.prevf _ lt1).trans (c1 x0)
    have d2 : ∀ z : Wb (x0.at.alloc (.cells #[.bool false, .bool t, .int .u64 o, .bool u, .bool r, .bool s, .bool q] 66)), z.at.frozen? ⟨w.heap.size, 2, none⟩ = false := fun z => (z.prevf _ lt1).trans (c2 x0)
    have d3 : ∀ z : Wb (x0.at.alloc (.cells #[.bool false, .bool t, .int .u64 o, .bool u, .bool r, .bool s, .bool q] 66)), z.at.frozen? ⟨w.heap.size, 3, none⟩ = false := fun z => (z.prevf _ lt1).trans (c3 x0)
    have MB := Lib.hid (fun (z : Wb (x0.at.alloc (.cells #[.bool false, .bool t, .int .u64 o, .bool u, .bool r, .bool s, .bool q] 66))) => ((KB.out x0).trans ((((Below.refl _ _).alloc (Nat.le_refl _) _).trans (z.bel.mono (by simp))).mono (by omega)) : Below w.heap.size w z.at))
    go_upto_region 2 with fail
    obtain ⟨y0, hy⟩ : ∃ y : Wb (x0.at.alloc (.cells #[.bool false, .bool t, .int .u64 o, .bool u, .bool r, .bool s, .bool q] 66)), (x0.at.alloc (.cells #[.bool false, .bool t, .int .u64 o, .bool u, .bool r, .bool s, .bool q] 66)) = y.at := ⟨⟨_, Below.refl _ _⟩, rfl⟩
    rw [hy]
    clear hy
    go_wp2_with fail
    refine (kept_below _ _ _ _ _ _ _ _).mono ?_
    rintro e w1 ⟨rfl, g1⟩
    obtain ⟨y1, rfl⟩ := Wb.next g1
    clear g1
    go_wp2
    refine bodyPost_ret (v := .tuple #[.agg #[.int .i64 0, .int .u64 0, .int .u64 0, .int .u64 0], .bool false]) (by simp [results, Try.results20, go_sem, *]) rfl ⟨ret_eb (by rw [E.out]; simp [GrT.keptD, ev]) (by rw [EO.out]; all_goals simp [GrT.keptD]), ?_⟩
    repeat' (first | (with_reducible exact MB.out y1) | (with_reducible refine Below.setCell ?_ ?_ _) | (simp; done) | (simp; omega))
  | true =>
    cases u with
    | false =>
      clear hL2
      go_enter Try.func20, Try.ntmps20
      go_wp2_with fail
      refine (LF.out _).mono ?_
      rintro e w1 ⟨rfl, g1⟩
      obtain ⟨x0, rfl⟩ := Wb.start g1
      clear g1
      have lt1 : w.heap.size < x0.at.heap.size := by have := x0.size; simp at this; omega
      have m0 : ∀ z : Wb (x0.at.alloc (.cells #[.bool true, .bool t, .int .u64 o, .bool false, .bool r, .bool s, .bool q] 66)), z.at.cell? ⟨x0.at.heap.size, 0, none⟩ = some (.bool true) := fun z => by rw [z.cell _ (by simp)]; simp [World.cell?_alloc_new]
      have m1 : ∀ z : Wb (x0.at.alloc (.cells #[.bool true, .bool t, .int .u64 o, .bool false, .bool r, .bool s, .bool q] 66)), z.at.cell? ⟨x0.at.heap.size, 1, none⟩ = some (.bool t) := fun z => by rw [z.cell _ (by simp)]; simp [World.cell?_alloc_new]
      have m2 : ∀ z : Wb (x0.at.alloc (.cells #[.bool true, .bool t, .int .u64 o, .bool false, .bool r, .bool s, .bool q] 66)), z.at.cell? ⟨x0.at.heap.size, 2, none⟩ = some (.int .u64 o) := fun z => by rw [z.cell _ (by simp)]; simp [World.cell?_alloc_new]
      have m3 : ∀ z : Wb (x0.at.alloc (.cells #[.bool true, .bool t, .int .u64 o, .bool false, .bool r, .bool s, .bool q] 66)), z.at.cell? ⟨x0.at.heap.size, 3, none⟩ = some (.bool false) := fun z => by rw [z.cell _ (by simp)]; simp [World.cell?_alloc_new]
      have m4 : ∀ z : Wb (x0.at.alloc (.cells #[.bool true, .bool t, .int .u64 o, .bool false, .bool r, .bool s, .bool q] 66)), z.at.cell? ⟨x0.at.heap.size, 4, none⟩ = some (.bool r) := fun z => by rw [z.cell _ (by simp)]; simp [World.cell?_alloc_new]
      have m5 : ∀ z : Wb (x0.at.alloc (.cells #[.bool true, .bool t, .int .u64 o, .bool false, .bool r, .bool s, .bool q] 66)), z.at.cell? ⟨x0.at.heap.size, 5, none⟩ = some (.bool s) := fun z => by rw [z.cell _ (by simp)]; simp [World.cell?_alloc_new]
      have m6 : ∀ z : Wb (x0.at.alloc (.cells #[.bool true, .bool t, .int .u64 o, .bool false, .bool r, .bool s, .bool q] 66)), z.at.cell? ⟨x0.at.heap.size, 6, none⟩ = some (.bool q) := fun z => by rw [z.cell _ (by simp)]; simp [World.cell?_alloc_new]
      have p0 : ∀ z : Wb (x0.at.alloc (.cells #[.bool true, .bool t, .int .u64 o, .bool false, .bool r, .bool s, .bool q] 66)), z.at.cell? ⟨w.heap.size, 0, none⟩ = some (.int .i64 0) := fun z => (z.prev _ lt1).trans (k0 x0)
      have p1 : ∀ z : Wb (x0.at.alloc (.cells #[.bool true, .bool t, .int .u64 o, .bool false, .bool r, .bool s, .bool q] 66)), z.at.cell? ⟨w.heap.size, 1, none⟩ = some (.int .u64 0) := fun z => (z.prev _ lt1).trans (k1 x0)
      have p2 : ∀ z : Wb (x0.at.alloc (.cells #[.bool true, .bool t, .int .u64 o, .bool false, .bool r, .bool s, .bool q] 66)), z.at.cell? ⟨w.heap.size, 2, none⟩ = some (.int .u64 0) := fun z => (z.prev _ lt1).trans (k2 x0)
      have p3 : ∀ z : Wb (x0.at.alloc (.cells #[.bool true, .bool t, .int .u64 o, .bool false, .bool r, .bool s, .bool q] 66)), z.at.cell? ⟨w.heap.size, 3, none⟩ = some (.int .u64 0) := fun z => (z.prev _ lt1).trans (k3 x0)
      have d0 : ∀ z : Wb (x0.at.alloc (.cells #[.bool true, .bool t, .int .u64 o, .bool false, .bool r, .bool s, .bool q] 66)), z.at.frozen? ⟨w.heap.size, 0, none⟩ = false := fun z => (z.prevf _ lt1).trans (c0 x0)
      have d1 : ∀ z : Wb (x0.at.alloc (.cells #[.bool true, .bool t, .int .u64 o, .bool false, .bool r, .bool s, .bool q] 66)), z.at.frozen? ⟨w.heap.size, 1, none⟩ = false := fun z => (z.prevf _ lt1).trans (c1 x0)
      have d2 : ∀ z : Wb (x0.at.alloc (.cells #[.bool true, .bool t, .int .u64 o, .bool false, .bool r, .bool s, .bool q] 66)), z.at.frozen? ⟨w.heap.size, 2, none⟩ = false := fun z => (z.prevf _ lt1).trans (c2 x0)
      have d3 : ∀ z : Wb (x0.at.alloc (.cells #[.bool true, .bool t, .int .u64 o, .bool false, .bool r, .bool s, .bool q] 66)), z.at.frozen? ⟨w.heap.size, 3, none⟩ = false := fun z => (z.prevf _ lt1).trans (c3 x0)
      have MB := Lib.hid (fun (z : Wb (x0.at.alloc (.cells #[.bool true, .bool t, .int .u64 o, .bool false, .bool r, .bool s, .bool q] 66))) => ((KB.out x0).trans ((((Below.refl _ _).alloc (Nat.le_refl _) _).trans (z.bel.mono (by simp))).mono (by omega)) : Below w.heap.size w z.at))
      go_upto_region 2 with fail
      obtain ⟨y0, hy⟩ : ∃ y : Wb (x0.at.alloc (.cells #[.bool true, .bool t, .int .u64 o, .bool false, .bool r, .bool s, .bool q] 66)), (x0.at.alloc (.cells #[.bool true, .bool t, .int .u64 o, .bool false, .bool r, .bool s, .bool q] 66)) = y.at := ⟨⟨_, Below.refl _ _⟩, rfl⟩
      rw [hy]
      clear hy
      go_wp2_with fail
      refine (kept_below _ _ _ _ _ _ _ _).mono ?_
      rintro e w1 ⟨rfl, g1⟩
      obtain ⟨y1, rfl⟩ := Wb.next g1
      clear g1
      go_wp2
      refine bodyPost_ret (v := .tuple #[.agg #[.int .i64 0, .int .u64 0, .int .u64 0, .int .u64 0], .bool false]) (by simp [results, Try.results20, go_sem, *]) rfl ⟨ret_eb (by rw [E.out]; simp [GrT.keptD, ev]) (by rw [EO.out]; all_goals simp [GrT.keptD]), ?_⟩
      repeat' (first | (with_reducible exact MB.out y1) | (with_reducible refine Below.setCell ?_ ?_ _) | (simp; done) | (simp; omega))
    | true =>
      cases t with
      | true =>
        clear hL2
        go_enter Try.func20, Try.ntmps20
        go_wp2_with fail
        refine (LF.out _).mono ?_
        rintro e w1 ⟨rfl, g1⟩
        obtain ⟨x0, rfl⟩ := Wb.start g1
        clear g1
        have lt1 : w.heap.size < x0.at.heap.size := by have := x0.size; simp at this; omega
        have m0 : ∀ z : Wb (x0.at.alloc (.cells #[.bool true, .bool true, .int .u64 o, .bool true, .bool r, .bool s, .bool q] 66)), z.at.cell? ⟨x0.at.heap.size, 0, none⟩ = some (.bool true) := fun z => by rw [z.cell _ (by simp)]; simp [World.cell?_alloc_new]
        have m1 : ∀ z : Wb (x0.at.alloc (.cells #[.bool true, .bool true, .int .u64 o, .bool true, .bool r, .bool s, .bool q] 66)), z.at.cell? ⟨x0.at.heap.size, 1, none⟩ = some (.bool true) := fun z => by rw [z.cell _ (by simp)]; simp [World.cell?_alloc_new]
        have m2 : ∀ z : Wb (x0.at.alloc (.cells #[.bool true, .bool true, .int .u64 o, .bool true, .bool r, .bool s, .bool q] 66)), z.at.cell? ⟨x0.at.heap.size, 2, none⟩ = some (.int .u64 o) := fun z => by rw [z.cell _ (by simp)]; simp [World.cell?_alloc_new]
        have m3 : ∀ z : Wb (x0.at.alloc (.cells #[.bool true, .bool true, .int .u64 o, .bool true, .bool r, .bool s, .bool q] 66)), z.at.cell? ⟨x0.at.heap.size, 3, none⟩ = some (.bool true) := fun z => by rw [z.cell _ (by simp)]; simp [World.cell?_alloc_new]
        have m4 : ∀ z : Wb (x0.at.alloc (.cells #[.bool true, .bool true, .int .u64 o, .bool true, .bool r, .bool s, .bool q] 66)), z.at.cell? ⟨x0.at.heap.size, 4, none⟩ = some (.bool r) := fun z => by rw [z.cell _ (by simp)]; simp [World.cell?_alloc_new]
        have m5 : ∀ z : Wb (x0.at.alloc (.cells #[.bool true, .bool true, .int .u64 o, .bool true, .bool r, .bool s, .bool q] 66)), z.at.cell? ⟨x0.at.heap.size, 5, none⟩ = some (.bool s) := fun z => by rw [z.cell _ (by simp)]; simp [World.cell?_alloc_new]
        have m6 : ∀ z : Wb (x0.at.alloc (.cells #[.bool true, .bool true, .int .u64 o, .bool true, .bool r, .bool s, .bool q] 66)), z.at.cell? ⟨x0.at.heap.size, 6, none⟩ = some (.bool q) := fun z => by rw [z.cell _ (by simp)]; simp [World.cell?_alloc_new]
        have p0 : ∀ z : Wb (x0.at.alloc (.cells #[.bool true, .bool true, .int .u64 o, .bool true, .bool r, .bool s, .bool q] 66)), z.at.cell? ⟨w.heap.size, 0, none⟩ = some (.int .i64 0) := fun z => (z.prev _ lt1).trans (k0 x0)
        have p1 : ∀ z : Wb (x0.at.alloc (.cells #[.bool true, .bool true, .int .u64 o, .bool true, .bool r, .bool s, .bool q] 66)), z.at.cell? ⟨w.heap.size, 1, none⟩ = some (.int .u64 0) := fun z => (z.prev _ lt1).trans (k1 x0)
        have p2 : ∀ z : Wb (x0.at.alloc (.cells #[.bool true, .bool true, .int .u64 o, .bool true, .bool r, .bool s, .bool q] 66)), z.at.cell? ⟨w.heap.size, 2, none⟩ = some (.int .u64 0) := fun z => (z.prev _ lt1).trans (k2 x0)
        have p3 : ∀ z : Wb (x0.at.alloc (.cells #[.bool true, .bool true, .int .u64 o, .bool true, .bool r, .bool s, .bool q] 66)), z.at.cell? ⟨w.heap.size, 3, none⟩ = some (.int .u64 0) := fun z => (z.prev _ lt1).trans (k3 x0)
        have d0 : ∀ z : Wb (x0.at.alloc (.cells #[.bool true, .bool true, .int .u64 o, .bool true, .bool r, .bool s, .bool q] 66)), z.at.frozen? ⟨w.heap.size, 0, none⟩ = false := fun z => (z.prevf _ lt1).trans (c0 x0)
        have d1 : ∀ z : Wb (x0.at.alloc (.cells #[.bool true, .bool true, .int .u64 o, .bool true, .bool r, .bool s, .bool q] 66)), z.at.frozen? ⟨w.heap.size, 1, none⟩ = false := fun z => (z.prevf _ lt1).trans (c1 x0)
        have d2 : ∀ z : Wb (x0.at.alloc (.cells #[.bool true, .bool true, .int .u64 o, .bool true, .bool r, .bool s, .bool q] 66)), z.at.frozen? ⟨w.heap.size, 2, none⟩ = false := fun z => (z.prevf _ lt1).trans (c2 x0)
        have d3 : ∀ z : Wb (x0.at.alloc (.cells #[.bool true, .bool true, .int .u64 o, .bool true, .bool r, .bool s, .bool q] 66)), z.at.frozen? ⟨w.heap.size, 3, none⟩ = false := fun z => (z.prevf _ lt1).trans (c3 x0)
        have MB := Lib.hid (fun (z : Wb (x0.at.alloc (.cells #[.bool true, .bool true, .int .u64 o, .bool true, .bool r, .bool s, .bool q] 66))) => ((KB.out x0).trans ((((Below.refl _ _).alloc (Nat.le_refl _) _).trans (z.bel.mono (by simp))).mono (by omega)) : Below w.heap.size w z.at))
        go_upto_region 2 with fail
        obtain ⟨y0, hy⟩ : ∃ y : Wb (x0.at.alloc (.cells #[.bool true, .bool true, .int .u64 o, .bool true, .bool r, .bool s, .bool q] 66)), (x0.at.alloc (.cells #[.bool true, .bool true, .int .u64 o, .bool true, .bool r, .bool s, .bool q] 66)) = y.at := ⟨⟨_, Below.refl _ _⟩, rfl⟩
        rw [hy]
        clear hy
        go_wp2_with fail
        refine (kept_below _ _ _ _ _ _ _ _).mono ?_
        rintro e w1 ⟨rfl, g1⟩
        obtain ⟨y1, rfl⟩ := Wb.next g1
        clear g1
        go_wp2
        refine bodyPost_ret (v := .tuple #[.agg #[.int .i64 0, .int .u64 0, .int .u64 0, .int .u64 0], .bool false]) (by simp [results, Try.results20, go_sem, *]) rfl ⟨ret_eb (by rw [E.out]; simp [GrT.keptD, ev]) (by rw [EO.out]; all_goals simp [GrT.keptD]), ?_⟩
        repeat' (first | (with_reducible exact MB.out y1) | (with_reducible refine Below.setCell ?_ ?_ _) | (simp; done) | (simp; omega))
      | false =>
        rcases hL2 with rfl | rfl
        · go_enter Try.func20, Try.ntmps20
          go_wp2_with fail
          refine (LF.out _).mono ?_
          rintro e w1 ⟨rfl, g1⟩
          obtain ⟨x0, rfl⟩ := Wb.start g1
          clear g1
          have lt1 : w.heap.size < x0.at.heap.size := by have := x0.size; simp at this; omega
          have m0 : ∀ z : Wb (x0.at.alloc (.cells #[.bool true, .bool false, .int .u64 o, .bool true, .bool r, .bool s, .bool q] 66)), z.at.cell? ⟨x0.at.heap.size, 0, none⟩ = some (.bool true) := fun z => by rw [z.cell _ (by simp)]; simp [World.cell?_alloc_new]
          have m1 : ∀ z : Wb (x0.at.alloc (.cells #[.bool true, .bool false, .int .u64 o, .bool true, .bool r, .bool s, .bool q] 66)), z.at.cell? ⟨x0.at.heap.size, 1, none⟩ = some (.bool false) := fun z => by rw [z.cell _ (by simp)]; simp [World.cell?_alloc_new]
          have m2 : ∀ z : Wb (x0.at.alloc (.cells #[.bool true, .bool false, .int .u64 o, .bool true, .bool r, .bool s, .bool q] 66)), z.at.cell? ⟨x0.at.heap.size, 2, none⟩ = some (.int .u64 o) := fun z => by rw [z.cell _ (by simp)]; simp [World.cell?_alloc_new]
          have m3 : ∀ z : Wb (x0.at.alloc (.cells #[.bool true, .bool false, .int .u64 o, .bool true, .bool r, .bool s, .bool q] 66)), z.at.cell? ⟨x0.at.heap.size, 3, none⟩ = some (.bool true) := fun z => by rw [z.cell _ (by simp)]; simp [World.cell?_alloc_new]
          have m4 : ∀ z : Wb (x0.at.alloc (.cells #[.bool true, .bool false, .int .u64 o, .bool true, .bool r, .bool s, .bool q] 66)), z.at.cell? ⟨x0.at.heap.size, 4, none⟩ = some (.bool r) := fun z => by rw [z.cell _ (by simp)]; simp [World.cell?_alloc_new]
          have m5 : ∀ z : Wb (x0.at.alloc (.cells #[.bool true, .bool false, .int .u64 o, .bool true, .bool r, .bool s, .bool q] 66)), z.at.cell? ⟨x0.at.heap.size, 5, none⟩ = some (.bool s) := fun z => by rw [z.cell _ (by simp)]; simp [World.cell?_alloc_new]
          have m6 : ∀ z : Wb (x0.at.alloc (.cells #[.bool true, .bool false, .int .u64 o, .bool true, .bool r, .bool s, .bool q] 66)), z.at.cell? ⟨x0.at.heap.size, 6, none⟩ = some (.bool q) := fun z => by rw [z.cell _ (by simp)]; simp [World.cell?_alloc_new]
          have p0 : ∀ z : Wb (x0.at.alloc (.cells #[.bool true, .bool false, .int .u64 o, .bool true, .bool r, .bool s, .bool q] 66)), z.at.cell? ⟨w.heap.size, 0, none⟩ = some (.int .i64 0) := fun z => (z.prev _ lt1).trans (k0 x0)
          have p1 : ∀ z : Wb (x0.at.alloc (.cells #[.bool true, .bool false, .int .u64 o, .bool true, .bool r, .bool s, .bool q] 66)), z.at.cell? ⟨w.heap.size, 1, none⟩ = some (.int .u64 0) := fun z => (z.prev _ lt1).trans (k1 x0)
          have p2 : ∀ z : Wb (x0.at.alloc (.cells #[.bool true, .bool false, .int .u64 o, .bool true, .bool r, .bool s, .bool q] 66)), z.at.cell? ⟨w.heap.size, 2, none⟩ = some (.int .u64 0) := fun z => (z.prev _ lt1).trans (k2 x0)
          have p3 : ∀ z : Wb (x0.at.alloc (.cells #[.bool true, .bool false, .int .u64 o, .bool true, .bool r, .bool s, .bool q] 66)), z.at.cell? ⟨w.heap.size, 3, none⟩ = some (.int .u64 0) := fun z => (z.prev _ lt1).trans (k3 x0)
          have d0 : ∀ z : Wb (x0.at.alloc (.cells #[.bool true, .bool false, .int .u64 o, .bool true, .bool r, .bool s, .bool q] 66)), z.at.frozen? ⟨w.heap.size, 0, none⟩ = false := fun z => (z.prevf _ lt1).trans (c0 x0)
          have d1 : ∀ z : Wb (x0.at.alloc (.cells #[.bool true, .bool false, .int .u64 o, .bool true, .bool r, .bool s, .bool q] 66)), z.at.frozen? ⟨w.heap.size, 1, none⟩ = false := fun z => (z.prevf _ lt1).trans (c1 x0)
          have d2 : ∀ z : Wb (x0.at.alloc (.cells #[.bool true, .bool false, .int .u64 o, .bool true, .bool r, .bool s, .bool q] 66)), z.at.frozen? ⟨w.heap.size, 2, none⟩ = false := fun z => (z.prevf _ lt1).trans (c2 x0)
          have d3 : ∀ z : Wb (x0.at.alloc (.cells #[.bool true, .bool false, .int .u64 o, .bool true, .bool r, .bool s, .bool q] 66)), z.at.frozen? ⟨w.heap.size, 3, none⟩ = false := fun z => (z.prevf _ lt1).trans (c3 x0)
          have MB := Lib.hid (fun (z : Wb (x0.at.alloc (.cells #[.bool true, .bool false, .int .u64 o, .bool true, .bool r, .bool s, .bool q] 66))) => ((KB.out x0).trans ((((Below.refl _ _).alloc (Nat.le_refl _) _).trans (z.bel.mono (by simp))).mono (by omega)) : Below w.heap.size w z.at))
          go_upto_region 2 with fail
          obtain ⟨y0, hy⟩ : ∃ y : Wb (x0.at.alloc (.cells #[.bool true, .bool false, .int .u64 o, .bool true, .bool r, .bool s, .bool q] 66)), (x0.at.alloc (.cells #[.bool true, .bool false, .int .u64 o, .bool true, .bool r, .bool s, .bool q] 66)) = y.at := ⟨⟨_, Below.refl _ _⟩, rfl⟩
          rw [hy]
          clear hy
          go_wp2_with fail
          refine (kept_below _ _ _ _ _ _ _ _).mono ?_
          rintro e w1 ⟨rfl, g1⟩
          obtain ⟨y1, rfl⟩ := Wb.next g1
          clear g1
          go_wp2_with fail
          refine (DA.out _).mono ?_
          rintro e w1 ⟨rfl, g1⟩
          obtain ⟨y2, rfl⟩ := Wb.next g1
          clear g1
          go_wp2
          refine bodyPost_ret (v := .tuple #[.agg #[.int .i64 sp, .int .u64 (GrF.down va 21), .int .u64 f, .int .u64 0], .bool true]) (by simp [results, Try.results20, go_sem, *]) rfl ⟨ret_eb (by rw [E.out]; simp [GrT.keptD, ev]) (by rw [EO.out]; all_goals simp [GrT.keptD]), ?_⟩
          repeat' (first | (with_reducible exact MB.out y2) | (with_reducible refine Below.setCell ?_ ?_ _) | (simp; done) | (simp; omega))
        · go_enter Try.func20, Try.ntmps20
          go_wp2_with fail
          refine (LF.out _).mono ?_
          rintro e w1 ⟨rfl, g1⟩
          obtain ⟨x0, rfl⟩ := Wb.start g1
          clear g1
          have lt1 : w.heap.size < x0.at.heap.size := by have := x0.size; simp at this; omega
          have m0 : ∀ z : Wb (x0.at.alloc (.cells #[.bool true, .bool false, .int .u64 o, .bool true, .bool r, .bool s, .bool q] 66)), z.at.cell? ⟨x0.at.heap.size, 0, none⟩ = some (.bool true) := fun z => by rw [z.cell _ (by simp)]; simp [World.cell?_alloc_new]
          have m1 : ∀ z : Wb (x0.at.alloc (.cells #[.bool true, .bool false, .int .u64 o, .bool true, .bool r, .bool s, .bool q] 66)), z.at.cell? ⟨x0.at.heap.size, 1, none⟩ = some (.bool false) := fun z => by rw [z.cell _ (by simp)]; simp [World.cell?_alloc_new]
          have m2 : ∀ z : Wb (x0.at.alloc (.cells #[.bool true, .bool false, .int .u64 o, .bool true, .bool r, .bool s, .bool q] 66)), z.at.cell? ⟨x0.at.heap.size, 2, none⟩ = some (.int .u64 o) := fun z => by rw [z.cell _ (by simp)]; simp [World.cell?_alloc_new]
          have m3 : ∀ z : Wb (x0.at.alloc (.cells #[.bool true, .bool false, .int .u64 o, .bool true, .bool r, .bool s, .bool q] 66)), z.at.cell? ⟨x0.at.heap.size, 3, none⟩ = some (.bool true) := fun z => by rw [z.cell _ (by simp)]; simp [World.cell?_alloc_new]
          have m4 : ∀ z : Wb (x0.at.alloc (.cells #[.bool true, .bool false, .int .u64 o, .bool true, .bool r, .bool s, .bool q] 66)), z.at.cell? ⟨x0.at.heap.size, 4, none⟩ = some (.bool r) := fun z => by rw [z.cell _ (by simp)]; simp [World.cell?_alloc_new]
          have m5 : ∀ z : Wb (x0.at.alloc (.cells #[.bool true, .bool false, .int .u64 o, .bool true, .bool r, .bool s, .bool q] 66)), z.at.cell? ⟨x0.at.heap.size, 5, none⟩ = some (.bool s) := fun z => by rw [z.cell _ (by simp)]; simp [World.cell?_alloc_new]
          have m6 : ∀ z : Wb (x0.at.alloc (.cells #[.bool true, .bool false, .int .u64 o, .bool true, .bool r, .bool s, .bool q] 66)), z.at.cell? ⟨x0.at.heap.size, 6, none⟩ = some (.bool q) := fun z => by rw [z.cell _ (by simp)]; simp [World.cell?_alloc_new]
          have p0 : ∀ z : Wb (x0.at.alloc (.cells #[.bool true, .bool false, .int .u64 o, .bool true, .bool r, .bool s, .bool q] 66)), z.at.cell? ⟨w.heap.size, 0, none⟩ = some (.int .i64 0) := fun z => (z.prev _ lt1).trans (k0 x0)
          have p1 : ∀ z : Wb (x0.at.alloc (.cells #[.bool true, .bool false, .int .u64 o, .bool true, .bool r, .bool s, .bool q] 66)), z.at.cell? ⟨w.heap.size, 1, none⟩ = some (.int .u64 0) := fun z => (z.prev _ lt1).trans (k1 x0)
          have p2 : ∀ z : Wb (x0.at.alloc (.cells #[.bool true, .bool false, .int .u64 o, .bool true, .bool r, .bool s, .bool q] 66)), z.at.cell? ⟨w.heap.size, 2, none⟩ = some (.int .u64 0) := fun z => (z.prev _ lt1).trans (k2 x0)
          have p3 : ∀ z : Wb (x0.at.alloc (.cells #[.bool true, .bool false, .int .u64 o, .bool true, .bool r, .bool s, .bool q] 66)), z.at.cell? ⟨w.heap.size, 3, none⟩ = some (.int .u64 0) := fun z => (z.prev _ lt1).trans (k3 x0)
          have d0 : ∀ z : Wb (x0.at.alloc (.cells #[.bool true, .bool false, .int .u64 o, .bool true, .bool r, .bool s, .bool q] 66)), z.at.frozen? ⟨w.heap.size, 0, none⟩ = false := fun z => (z.prevf _ lt1).trans (c0 x0)
          have d1 : ∀ z : Wb (x0.at.alloc (.cells #[.bool true, .bool false, .int .u64 o, .bool true, .bool r, .bool s, .bool q] 66)), z.at.frozen? ⟨w.heap.size, 1, none⟩ = false := fun z => (z.prevf _ lt1).trans (c1 x0)
          have d2 : ∀ z : Wb (x0.at.alloc (.cells #[.bool true, .bool false, .int .u64 o, .bool true, .bool r, .bool s, .bool q] 66)), z.at.frozen? ⟨w.heap.size, 2, none⟩ = false := fun z => (z.prevf _ lt1).trans (c2 x0)
          have d3 : ∀ z : Wb (x0.at.alloc (.cells #[.bool true, .bool false, .int .u64 o, .bool true, .bool r, .bool s, .bool q] 66)), z.at.frozen? ⟨w.heap.size, 3, none⟩ = false := fun z => (z.prevf _ lt1).trans (c3 x0)
          have MB := Lib.hid (fun (z : Wb (x0.at.alloc (.cells #[.bool true, .bool false, .int .u64 o, .bool true, .bool r, .bool s, .bool q] 66))) => ((KB.out x0).trans ((((Below.refl _ _).alloc (Nat.le_refl _) _).trans (z.bel.mono (by simp))).mono (by omega)) : Below w.heap.size w z.at))
          go_upto_region 2 with fail
          obtain ⟨y0, hy⟩ : ∃ y : Wb (x0.at.alloc (.cells #[.bool true, .bool false, .int .u64 o, .bool true, .bool r, .bool s, .bool q] 66)), (x0.at.alloc (.cells #[.bool true, .bool false, .int .u64 o, .bool true, .bool r, .bool s, .bool q] 66)) = y.at := ⟨⟨_, Below.refl _ _⟩, rfl⟩
          rw [hy]
          clear hy
          go_wp2_with fail
          refine (kept_below _ _ _ _ _ _ _ _).mono ?_
          rintro e w1 ⟨rfl, g1⟩
          obtain ⟨y1, rfl⟩ := Wb.next g1
          clear g1
          go_wp2_with fail
          refine (DB.out _).mono ?_
          rintro e w1 ⟨rfl, g1⟩
          obtain ⟨y2, rfl⟩ := Wb.next g1
          clear g1
          go_wp2
          refine bodyPost_ret (v := .tuple #[.agg #[.int .i64 sp, .int .u64 (GrF.down va 12), .int .u64 f, .int .u64 l], .bool true]) (by simp [results, Try.results20, go_sem, *]) rfl ⟨ret_eb (by rw [E.out]; simp [GrT.keptD, ev]) (by rw [EO.out]; all_goals simp [GrT.keptD]), ?_⟩
          repeat' (first | (with_reducible exact MB.out y2) | (with_reducible refine Below.setCell ?_ ?_ _) | (simp; done) | (simp; omega))

end Go.Proofs.Yteiokenijmaloaa
