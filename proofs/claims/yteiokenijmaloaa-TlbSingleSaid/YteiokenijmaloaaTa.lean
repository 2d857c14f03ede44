/-
  Layer 8 and 9, the walks: the descriptor that leads to memory.
-/
import Derived.Test.YteiokenijmaloaaTn
import Derived.Test.YteiokenijmaloaaDl
import Derived.Test.YteiokenijmaloaaBr
set_option linter.unusedSimpArgs false
set_option linter.unusedVariables false
namespace Go.Proofs.Yteiokenijmaloaa
open Go.RowKit

set_option maxRecDepth 100000 in
set_option maxHeartbeats 3200000 in
theorem leaf_any (f l : Int) (w : World) (hf0 : 0 ≤ f) (hf1 : f < 18446744073709551616) (hl0 : 0 ≤ l) (hl1 : l < 18446744073709551616) :
    Calls Try.prog 36 #[.int .u64 f, .int .u64 l] w fun e w' => e = .returned (.tuple #[dv (GrT.leafD f l), .int .i64 (GrT.leafL f)]) ∧ Below w.heap.size w w' := by
  have DF := Lib.hid (fun w => decode_any f 1 w hf0 hf1)
  have DL := Lib.hid (fun w => decode_any l 2 w hl0 hl1)
  have e1 : GrT.leafD f l = if (GrD.decode f 1).table = false then GrD.decode f 1 else GrD.decode l 2 := rfl
  have e2 : GrT.leafL f = if (GrD.decode f 1).table = false then 1 else 2 := rfl
  rw [e1, e2]
  obtain ⟨D1, hD1⟩ : ∃ D, D = GrD.decode f 1 := ⟨_, rfl⟩
  obtain ⟨D2, hD2⟩ : ∃ D, D = GrD.decode l 2 := ⟨_, rfl⟩
  rw [← hD1] at DF
  rw [← hD2] at DL
  rw [← hD1, ← hD2]
  clear e1 e2 hD1 hD2 hf0 hf1 hl0 hl1
  obtain ⟨v, t, o, u, r, s, q⟩ := D1
  obtain ⟨v2, t2, o2, u2, r2, s2, q2⟩ := D2
  unfold dv at DF DL
  have k0 : ∀ z : Wb (w.alloc (.cells #[.bool false, .bool false, .int .u64 0, .bool false, .bool false, .bool false, .bool false] 66)), z.at.cell? ⟨w.heap.size, 0, none⟩ = some (.bool false) := fun z => by rw [z.cell _ (by simp)]; simp [World.cell?_alloc_new]
  have k1 : ∀ z : Wb (w.alloc (.cells #[.bool false, .bool false, .int .u64 0, .bool false, .bool false, .bool false, .bool false] 66)), z.at.cell? ⟨w.heap.size, 1, none⟩ = some (.bool false) := fun z => by rw [z.cell _ (by simp)]; simp [World.cell?_alloc_new]
  have k2 : ∀ z : Wb (w.alloc (.cells #[.bool false, .bool false, .int .u64 0, .bool false, .bool false, .bool false, .bool false] 66)), z.at.cell? ⟨w.heap.size, 2, none⟩ = some (.int .u64 0) := fun z => by rw [z.cell _ (by simp)]; simp [World.cell?_alloc_new]
  have k3 : ∀ z : Wb (w.alloc (.cells #[.bool false, .bool false, .int .u64 0, .bool false, .bool false, .bool false, .bool false] 66)), z.at.cell? ⟨w.heap.size, 3, none⟩ = some (.bool false) := fun z => by rw [z.cell _ (by simp)]; simp [World.cell?_alloc_new]
  have k4 : ∀ z : Wb (w.alloc (.cells #[.bool false, .bool false, .int .u64 0, .bool false, .bool false, .bool false, .bool false] 66)), z.at.cell? ⟨w.heap.size, 4, none⟩ = some (.bool false) := fun z => by rw [z.cell _ (by simp)]; simp [World.cell?_alloc_new]
  have k5 : ∀ z : Wb (w.alloc (.cells #[.bool false, .bool false, .int .u64 0, .bool false, .bool false, .bool false, .bool false] 66)), z.at.cell? ⟨w.heap.size, 5, none⟩ = some (.bool false) := fun z => by rw [z.cell _ (by simp)]; simp [World.cell?_alloc_new]
  have k6 : ∀ z : Wb (w.alloc (.cells #[.bool false, .bool false, .int .u64 0, .bool false, .bool false, .bool false, .bool false] 66)), z.at.cell? ⟨w.heap.size, 6, none⟩ = some (.bool false) := fun z => by rw [z.cell _ (by simp)]; simp [World.cell?_alloc_new]
  have c0 : ∀ z : Wb (w.alloc (.cells #[.bool false, .bool false, .int .u64 0, .bool false, .bool false, .bool false, .bool false] 66)), z.at.frozen? ⟨w.heap.size, 0, none⟩ = false := fun z => frozen_new 0 z
  have c1 : ∀ z : Wb (w.alloc (.cells #[.bool false, .bool false, .int .u64 0, .bool false, .bool false, .bool false, .bool false] 66)), z.at.frozen? ⟨w.heap.size, 1, none⟩ = false := fun z => frozen_new 1 z
  have c2 : ∀ z : Wb (w.alloc (.cells #[.bool false, .bool false, .int .u64 0, .bool false, .bool false, .bool false, .bool false] 66)), z.at.frozen? ⟨w.heap.size, 2, none⟩ = false := fun z => frozen_new 2 z
  have c3 : ∀ z : Wb (w.alloc (.cells #[.bool false, .bool false, .int .u64 0, .bool false, .bool false, .bool false, .bool false] 66)), z.at.frozen? ⟨w.heap.size, 3, none⟩ = false := fun z => frozen_new 3 z
  have c4 : ∀ z : Wb (w.alloc (.cells #[.bool false, .bool false, .int .u64 0, .bool false, .bool false, .bool false, .bool false] 66)), z.at.frozen? ⟨w.heap.size, 4, none⟩ = false := fun z => frozen_new 4 z
  have c5 : ∀ z : Wb (w.alloc (.cells #[.bool false, .bool false, .int .u64 0, .bool false, .bool false, .bool false, .bool false] 66)), z.at.frozen? ⟨w.heap.size, 5, none⟩ = false := fun z => frozen_new 5 z
  have c6 : ∀ z : Wb (w.alloc (.cells #[.bool false, .bool false, .int .u64 0, .bool false, .bool false, .bool false, .bool false] 66)), z.at.frozen? ⟨w.heap.size, 6, none⟩ = false := fun z => frozen_new 6 z
  have KB := Lib.hid (fun (z : Wb (w.alloc (.cells #[.bool false, .bool false, .int .u64 0, .bool false, .bool false, .bool false, .bool false] 66))) => (((Below.refl _ _).alloc (Nat.le_refl _) _).trans (z.bel.mono (by simp)) : Below w.heap.size w z.at))
  cases t with
  | false =>
    go_enter Try.func36, Try.ntmps36
    go_wp2_with fail
    refine (DF.out _).mono ?_
    rintro e w1 ⟨rfl, g1⟩
    obtain ⟨x0, rfl⟩ := Wb.start g1
    clear g1
    have lt1 : w.heap.size < x0.at.heap.size := by have := x0.size; simp at this; omega
    have m0 : ∀ z : Wb (x0.at.alloc (.cells #[.bool v, .bool false, .int .u64 o, .bool u, .bool r, .bool s, .bool q] 66)), z.at.cell? ⟨x0.at.heap.size, 0, none⟩ = some (.bool v) := fun z => by rw [z.cell _ (by simp)]; simp [World.cell?_alloc_new]
    have m1 : ∀ z : Wb (x0.at.alloc (.cells #[.bool v, .bool false, .int .u64 o, .bool u, .bool r, .bool s, .bool q] 66)), z.at.cell? ⟨x0.at.heap.size, 1, none⟩ = some (.bool false) := fun z => by rw [z.cell _ (by simp)]; simp [World.cell?_alloc_new]
    have m2 : ∀ z : Wb (x0.at.alloc (.cells #[.bool v, .bool false, .int .u64 o, .bool u, .bool r, .bool s, .bool q] 66)), z.at.cell? ⟨x0.at.heap.size, 2, none⟩ = some (.int .u64 o) := fun z => by rw [z.cell _ (by simp)]; simp [World.cell?_alloc_new]
    have m3 : ∀ z : Wb (x0.at.alloc (.cells #[.bool v, .bool false, .int .u64 o, .bool u, .bool r, .bool s, .bool q] 66)), z.at.cell? ⟨x0.at.heap.size, 3, none⟩ = some (.bool u) := fun z => by rw [z.cell _ (by simp)]; simp [World.cell?_alloc_new]
    have m4 : ∀ z : Wb (x0.at.alloc (.cells #[.bool v, .bool false, .int .u64 o, .bool u, .bool r, .bool s, .bool q] 66)), z.at.cell? ⟨x0.at.heap.size, 4, none⟩ = some (.bool r) := fun z => by rw [z.cell _ (by simp)]; simp [World.cell?_alloc_new]
    have m5 : ∀ z : Wb (x0.at.alloc (.cells #[.bool v, .bool false, .int .u64 o, .bool u, .bool r, .bool s, .bool q] 66)), z.at.cell? ⟨x0.at.heap.size, 5, none⟩ = some (.bool s) := fun z => by rw [z.cell _ (by simp)]; simp [World.cell?_alloc_new]
    have m6 : ∀ z : Wb (x0.at.alloc (.cells #[.bool v, .bool false, .int .u64 o, .bool u, .bool r, .bool s, .bool q] 66)), z.at.cell? ⟨x0.at.heap.size, 6, none⟩ = some (.bool q) := fun z => by rw [z.cell _ (by simp)]; simp [World.cell?_alloc_new]
    have p0 : ∀ z : Wb (x0.at.alloc (.cells #[.bool v, .bool false, .int .u64 o, .bool u, .bool r, .bool s, .bool q] 66)), z.at.cell? ⟨w.heap.size, 0, none⟩ = some (.bool false) := fun z => (z.prev _ lt1).trans (k0 x0)
    have p1 : ∀ z : Wb (x0.at.alloc (.cells #[.bool v, .bool false, .int .u64 o, .bool u, .bool r, .bool s, .bool q] 66)), z.at.cell? ⟨w.heap.size, 1, none⟩ = some (.bool false) := fun z => (z.prev _ lt1).trans (k1 x0)
    have p2 : ∀ z : Wb (x0.at.alloc (.cells #[.bool v, .bool false, .int .u64 o, .bool u, .bool r, .bool s, .bool q] 66)), z.at.cell? ⟨w.heap.size, 2, none⟩ = some (.int .u64 0) := fun z => (z.prev _ lt1).trans (k2 x0)
    have p3 : ∀ z : Wb (x0.at.alloc (.cells #[.bool v, .bool false, .int .u64 o, .bool u, .bool r, .bool s, .bool q] 66)), z.at.cell? ⟨w.heap.size, 3, none⟩ = some (.bool false) := fun z => (z.prev _ lt1).trans (k3 x0)
    have p4 : ∀ z : Wb (x0.at.alloc (.cells #[.bool v, .bool false, .int .u64 o, .bool u, .bool r, .bool s, .bool q] 66)), z.at.cell? ⟨w.heap.size, 4, none⟩ = some (.bool false) := fun z => (z.prev _ lt1).trans (k4 x0)
    have p5 : ∀ z : Wb (x0.at.alloc (.cells #[.bool v, .bool false, .int .u64 o, .bool u, .bool r, .bool s, .bool q] 66)), z.at.cell? ⟨w.heap.size, 5, none⟩ = some (.bool false) := fun z => (z.prev _ lt1).trans (k5 x0)
    have p6 : ∀ z : Wb (x0.at.alloc (.cells #[.bool v, .bool false, .int .u64 o, .bool u, .bool r, .bool s, .bool q] 66)), z.at.cell? ⟨w.heap.size, 6, none⟩ = some (.bool false) := fun z => (z.prev _ lt1).trans (k6 x0)
    have d0 : ∀ z : Wb (x0.at.alloc (.cells #[.bool v, .bool false, .int .u64 o, .bool u, .bool r, .bool s, .bool q] 66)), z.at.frozen? ⟨w.heap.size, 0, none⟩ = false := fun z => (z.prevf _ lt1).trans (c0 x0)
    have d1 : ∀ z : Wb (x0.at.alloc (.cells #[.bool v, .bool false, .int .u64 o, .bool u, .bool r, .bool s, .bool q] 66)), z.at.frozen? ⟨w.heap.size, 1, none⟩ = false := fun z => (z.prevf _ lt1).trans (c1 x0)
    have d2 : ∀ z : Wb (x0.at.alloc (.cells #[.bool v, .bool false, .int .u64 o, .bool u, .bool r, .bool s, .bool q] 66)), z.at.frozen? ⟨w.heap.size, 2, none⟩ = false := fun z => (z.prevf _ lt1).trans (c2 x0)
    have d3 : ∀ z : Wb (x0.at.alloc (.cells #[.bool v, .bool false, .int .u64 o, .bool u, .bool r, .bool s, .bool q] 66)), z.at.frozen? ⟨w.heap.size, 3, none⟩ = false := fun z => (z.prevf _ lt1).trans (c3 x0)
    have d4 : ∀ z : Wb (x0.at.alloc (.cells #[.bool v, .bool false, .int .u64 o, .bool u, .bool r, .bool s, .bool q] 66)), z.at.frozen? ⟨w.heap.size, 4, none⟩ = false := fun z => (z.prevf _ lt1).trans (c4 x0)
    have d5 : ∀ z : Wb (x0.at.alloc (.cells #[.bool v, .bool false, .int .u64 o, .bool u, .bool r, .bool s, .bool q] 66)), z.at.frozen? ⟨w.heap.size, 5, none⟩ = false := fun z => (z.prevf _ lt1).trans (c5 x0)
    have d6 : ∀ z : Wb (x0.at.alloc (.cells #[.bool v, .bool false, .int .u64 o, .bool u, .bool r, .bool s, .bool q] 66)), z.at.frozen? ⟨w.heap.size, 6, none⟩ = false := fun z => (z.prevf _ lt1).trans (c6 x0)
    have MB := Lib.hid (fun (z : Wb (x0.at.alloc (.cells #[.bool v, .bool false, .int .u64 o, .bool u, .bool r, .bool s, .bool q] 66))) => ((KB.out x0).trans ((((Below.refl _ _).alloc (Nat.le_refl _) _).trans (z.bel.mono (by simp))).mono (by omega)) : Below w.heap.size w z.at))
    go_upto_region 2 with fail
    obtain ⟨y0, hy⟩ : ∃ y : Wb (x0.at.alloc (.cells #[.bool v, .bool false, .int .u64 o, .bool u, .bool r, .bool s, .bool q] 66)), (x0.at.alloc (.cells #[.bool v, .bool false, .int .u64 o, .bool u, .bool r, .bool s, .bool q] 66)) = y.at := ⟨⟨_, Below.refl _ _⟩, rfl⟩
    rw [hy]
    clear hy
    go_wp2
    refine bodyPost_ret (v := .tuple #[dv ⟨v, false, o, u, r, s, q⟩, .int .i64 1]) (by simp [results, Try.results36, go_sem, dv, *]) rfl ⟨rfl, ?_⟩
    repeat' (first | (with_reducible exact MB.out y0) | (with_reducible refine Below.setCell ?_ ?_ _) | (simp; done) | (simp; omega))
  | true =>
    go_enter Try.func36, Try.ntmps36
    go_wp2_with fail
    refine (DF.out _).mono ?_
    rintro e w1 ⟨rfl, g1⟩
    obtain ⟨x0, rfl⟩ := Wb.start g1
    clear g1
    have lt1 : w.heap.size < x0.at.heap.size := by have := x0.size; simp at this; omega
    have m0 : ∀ z : Wb (x0.at.alloc (.cells #[.bool v, .bool true, .int .u64 o, .bool u, .bool r, .bool s, .bool q] 66)), z.at.cell? ⟨x0.at.heap.size, 0, none⟩ = some (.bool v) := fun z => by rw [z.cell _ (by simp)]; simp [World.cell?_alloc_new]
    have m1 : ∀ z : Wb (x0.at.alloc (.cells #[.bool v, .bool true, .int .u64 o, .bool u, .bool r, .bool s, .bool q] 66)), z.at.cell? ⟨x0.at.heap.size, 1, none⟩ = some (.bool true) := fun z => by rw [z.cell _ (by simp)]; simp [World.cell?_alloc_new]
    have m2 : ∀ z : Wb (x0.at.alloc (.cells #[.bool v, .bool true, .int .u64 o, .bool u, .bool r, .bool s, .bool q] 66)), z.at.cell? ⟨x0.at.heap.size, 2, none⟩ = some (.int .u64 o) := fun z => by rw [z.cell _ (by simp)]; simp [World.cell?_alloc_new]
    have m3 : ∀ z : Wb (x0.at.alloc (.cells #[.bool v, .bool true, .int .u64 o, .bool u, .bool r, .bool s, .bool q] 66)), z.at.cell? ⟨x0.at.heap.size, 3, none⟩ = some (.bool u) := fun z => by rw [z.cell _ (by simp)]; simp [World.cell?_alloc_new]
    have m4 : ∀ z : Wb (x0.at.alloc (.cells #[.bool v, .bool true, .int .u64 o, .bool u, .bool r, .bool s, .bool q] 66)), z.at.cell? ⟨x0.at.heap.size, 4, none⟩ = some (.bool r) := fun z => by rw [z.cell _ (by simp)]; simp [World.cell?_alloc_new]
    have m5 : ∀ z : Wb (x0.at.alloc (.cells #[.bool v, .bool true, .int .u64 o, .bool u, .bool r, .bool s, .bool q] 66)), z.at.cell? ⟨x0.at.heap.size, 5, none⟩ = some (.bool s) := fun z => by rw [z.cell _ (by simp)]; simp [World.cell?_alloc_new]
    have m6 : ∀ z : Wb (x0.at.alloc (.cells #[.bool v, .bool true, .int .u64 o, .bool u, .bool r, .bool s, .bool q] 66)), z.at.cell? ⟨x0.at.heap.size, 6, none⟩ = some (.bool q) := fun z => by rw [z.cell _ (by simp)]; simp [World.cell?_alloc_new]
    have p0 : ∀ z : Wb (x0.at.alloc (.cells #[.bool v, .bool true, .int .u64 o, .bool u, .bool r, .bool s, .bool q] 66)), z.at.cell? ⟨w.heap.size, 0, none⟩ = some (.bool false) := fun z => (z.prev _ lt1).trans (k0 x0)
    have p1 : ∀ z : Wb (x0.at.alloc (.cells #[.bool v, .bool true, .int .u64 o, .bool u, .bool r, .bool s, .bool q] 66)), z.at.cell? ⟨w.heap.size, 1, none⟩ = some (.bool false) := fun z => (z.prev _ lt1).trans (k1 x0)
    have p2 : ∀ z : Wb (x0.at.alloc (.cells #[.bool v, .bool true, .int .u64 o, .bool u, .bool r, .bool s, .bool q] 66)), z.at.cell? ⟨w.heap.size, 2, none⟩ = some (.int .u64 0) := fun z => (z.prev _ lt1).trans (k2 x0)
    have p3 : ∀ z : Wb (x0.at.alloc (.cells #[.bool v, .bool true, .int .u64 o, .bool u, .bool r, .bool s, .bool q] 66)), z.at.cell? ⟨w.heap.size, 3, none⟩ = some (.bool false) := fun z => (z.prev _ lt1).trans (k3 x0)
    have p4 : ∀ z : Wb (x0.at.alloc (.cells #[.bool v, .bool true, .int .u64 o, .bool u, .bool r, .bool s, .bool q] 66)), z.at.cell? ⟨w.heap.size, 4, none⟩ = some (.bool false) := fun z => (z.prev _ lt1).trans (k4 x0)
    have p5 : ∀ z : Wb (x0.at.alloc (.cells #[.bool v, .bool true, .int .u64 o, .bool u, .bool r, .bool s, .bool q] 66)), z.at.cell? ⟨w.heap.size, 5, none⟩ = some (.bool false) := fun z => (z.prev _ lt1).trans (k5 x0)
    have p6 : ∀ z : Wb (x0.at.alloc (.cells #[.bool v, .bool true, .int .u64 o, .bool u, .bool r, .bool s, .bool q] 66)), z.at.cell? ⟨w.heap.size, 6, none⟩ = some (.bool false) := fun z => (z.prev _ lt1).trans (k6 x0)
    have d0 : ∀ z : Wb (x0.at.alloc (.cells #[.bool v, .bool true, .int .u64 o, .bool u, .bool r, .bool s, .bool q] 66)), z.at.frozen? ⟨w.heap.size, 0, none⟩ = false := fun z => (z.prevf _ lt1).trans (c0 x0)
    have d1 : ∀ z : Wb (x0.at.alloc (.cells #[.bool v, .bool true, .int .u64 o, .bool u, .bool r, .bool s, .bool q] 66)), z.at.frozen? ⟨w.heap.size, 1, none⟩ = false := fun z => (z.prevf _ lt1).trans (c1 x0)
    have d2 : ∀ z : Wb (x0.at.alloc (.cells #[.bool v, .bool true, .int .u64 o, .bool u, .bool r, .bool s, .bool q] 66)), z.at.frozen? ⟨w.heap.size, 2, none⟩ = false := fun z => (z.prevf _ lt1).trans (c2 x0)
    have d3 : ∀ z : Wb (x0.at.alloc (.cells #[.bool v, .bool true, .int .u64 o, .bool u, .bool r, .bool s, .bool q] 66)), z.at.frozen? ⟨w.heap.size, 3, none⟩ = false := fun z => (z.prevf _ lt1).trans (c3 x0)
    have d4 : ∀ z : Wb (x0.at.alloc (.cells #[.bool v, .bool true, .int .u64 o, .bool u, .bool r, .bool s, .bool q] 66)), z.at.frozen? ⟨w.heap.size, 4, none⟩ = false := fun z => (z.prevf _ lt1).trans (c4 x0)
    have d5 : ∀ z : Wb (x0.at.alloc (.cells #[.bool v, .bool true, .int .u64 o, .bool u, .bool r, .bool s, .bool q] 66)), z.at.frozen? ⟨w.heap.size, 5, none⟩ = false := fun z => (z.prevf _ lt1).trans (c5 x0)
    have d6 : ∀ z : Wb (x0.at.alloc (.cells #[.bool v, .bool true, .int .u64 o, .bool u, .bool r, .bool s, .bool q] 66)), z.at.frozen? ⟨w.heap.size, 6, none⟩ = false := fun z => (z.prevf _ lt1).trans (c6 x0)
    have MB := Lib.hid (fun (z : Wb (x0.at.alloc (.cells #[.bool v, .bool true, .int .u64 o, .bool u, .bool r, .bool s, .bool q] 66))) => ((KB.out x0).trans ((((Below.refl _ _).alloc (Nat.le_refl _) _).trans (z.bel.mono (by simp))).mono (by omega)) : Below w.heap.size w z.at))
    go_upto_region 2 with fail
    obtain ⟨y0, hy⟩ : ∃ y : Wb (x0.at.alloc (.cells #[.bool v, .bool true, .int .u64 o, .bool u, .bool r, .bool s, .bool q] 66)), (x0.at.alloc (.cells #[.bool v, .bool true, .int .u64 o, .bool u, .bool r, .bool s, .bool q] 66)) = y.at := ⟨⟨_, Below.refl _ _⟩, rfl⟩
    rw [hy]
    clear hy
    go_wp2_with fail
    refine (DL.out _).mono ?_
    rintro e w1 ⟨rfl, g1⟩
    obtain ⟨y1, rfl⟩ := Wb.next g1
    clear g1
    go_wp2
    refine bodyPost_ret (v := .tuple #[dv ⟨v2, t2, o2, u2, r2, s2, q2⟩, .int .i64 2]) (by simp [results, Try.results36, go_sem, dv, *]) rfl ⟨rfl, ?_⟩
    repeat' (first | (with_reducible exact MB.out y1) | (with_reducible refine Below.setCell ?_ ?_ _) | (simp; done) | (simp; omega))

set_option maxRecDepth 100000 in
set_option maxHeartbeats 3200000 in
theorem rleaf_any (f l : Int) (w : World) (hf0 : 0 ≤ f) (hf1 : f < 18446744073709551616) (hl0 : 0 ≤ l) (hl1 : l < 18446744073709551616) :
    Calls Try.prog 56 #[.int .u64 f, .int .u64 l] w fun e w' => e = .returned (.tuple #[dv (GrT.leafD f l), .int .i64 (GrT.leafL f)]) ∧ Below w.heap.size w w' := by
  have DF := Lib.hid (fun w => rdecode_any f 1 w hf0 hf1)
  have DL := Lib.hid (fun w => rdecode_any l 2 w hl0 hl1)
  have e1 : GrT.leafD f l = if (GrD.decode f 1).table = false then GrD.decode f 1 else GrD.decode l 2 := rfl
  have e2 : GrT.leafL f = if (GrD.decode f 1).table = false then 1 else 2 := rfl
  rw [e1, e2]
  obtain ⟨D1, hD1⟩ : ∃ D, D = GrD.decode f 1 := ⟨_, rfl⟩
  obtain ⟨D2, hD2⟩ : ∃ D, D = GrD.decode l 2 := ⟨_, rfl⟩
  rw [← hD1] at DF
  rw [← hD2] at DL
  rw [← hD1, ← hD2]
  clear e1 e2 hD1 hD2 hf0 hf1 hl0 hl1
  obtain ⟨v, t, o, u, r, s, q⟩ := D1
  obtain ⟨v2, t2, o2, u2, r2, s2, q2⟩ := D2
  unfold dv at DF DL
  have k0 : ∀ z : Wb (w.alloc (.cells #[.bool false, .bool false, .int .u64 0, .bool false, .bool false, .bool false, .bool false] 66)), z.at.cell? ⟨w.heap.size, 0, none⟩ = some (.bool false) := fun z => by rw [z.cell _ (by simp)]; simp [World.cell?_alloc_new]
  have k1 : ∀ z : Wb (w.alloc (.cells #[.bool false, .bool false, .int .u64 0, .bool false, .bool false, .bool false, .bool false] 66)), z.at.cell? ⟨w.heap.size, 1, none⟩ = some (.bool false) := fun z => by rw [z.cell _ (by simp)]; simp [World.cell?_alloc_new]
  have k2 : ∀ z : Wb (w.alloc (.cells #[.bool false, .bool false, .int .u64 0, .bool false, .bool false, .bool false, .bool false] 66)), z.at.cell? ⟨w.heap.size, 2, none⟩ = some (.int .u64 0) := fun z => by rw [z.cell _ (by simp)]; simp [World.cell?_alloc_new]
  have k3 : ∀ z : Wb (w.alloc (.cells #[.bool false, .bool false, .int .u64 0, .bool false, .bool false, .bool false, .bool false] 66)), z.at.cell? ⟨w.heap.size, 3, none⟩ = some (.bool false) := fun z => by rw [z.cell _ (by simp)]; simp [World.cell?_alloc_new]
  have k4 : ∀ z : Wb (w.alloc (.cells #[.bool false, .bool false, .int .u64 0, .bool false, .bool false, .bool false, .bool false] 66)), z.at.cell? ⟨w.heap.size, 4, none⟩ = some (.bool false) := fun z => by rw [z.cell _ (by simp)]; simp [World.cell?_alloc_new]
  have k5 : ∀ z : Wb (w.alloc (.cells #[.bool false, .bool false, .int .u64 0, .bool false, .bool false, .bool false, .bool false] 66)), z.at.cell? ⟨w.heap.size, 5, none⟩ = some (.bool false) := fun z => by rw [z.cell _ (by simp)]; simp [World.cell?_alloc_new]
  have k6 : ∀ z : Wb (w.alloc (.cells #[.bool false, .bool false, .int .u64 0, .bool false, .bool false, .bool false, .bool false] 66)), z.at.cell? ⟨w.heap.size, 6, none⟩ = some (.bool false) := fun z => by rw [z.cell _ (by simp)]; simp [World.cell?_alloc_new]
  have c0 : ∀ z : Wb (w.alloc (.cells #[.bool false, .bool false, .int .u64 0, .bool false, .bool false, .bool false, .bool false] 66)), z.at.frozen? ⟨w.heap.size, 0, none⟩ = false := fun z => frozen_new 0 z
  have c1 : ∀ z : Wb (w.alloc (.cells #[.bool false, .bool false, .int .u64 0, .bool false, .bool false, .bool false, .bool false] 66)), z.at.frozen? ⟨w.heap.size, 1, none⟩ = false := fun z => frozen_new 1 z
  have c2 : ∀ z : Wb (w.alloc (.cells #[.bool false, .bool false, .int .u64 0, .bool false, .bool false, .bool false, .bool false] 66)), z.at.frozen? ⟨w.heap.size, 2, none⟩ = false := fun z => frozen_new 2 z
  have c3 : ∀ z : Wb (w.alloc (.cells #[.bool false, .bool false, .int .u64 0, .bool false, .bool false, .bool false, .bool false] 66)), z.at.frozen? ⟨w.heap.size, 3, none⟩ = false := fun z => frozen_new 3 z
  have c4 : ∀ z : Wb (w.alloc (.cells #[.bool false, .bool false, .int .u64 0, .bool false, .bool false, .bool false, .bool false] 66)), z.at.frozen? ⟨w.heap.size, 4, none⟩ = false := fun z => frozen_new 4 z
  have c5 : ∀ z : Wb (w.alloc (.cells #[.bool false, .bool false, .int .u64 0, .bool false, .bool false, .bool false, .bool false] 66)), z.at.frozen? ⟨w.heap.size, 5, none⟩ = false := fun z => frozen_new 5 z
  have c6 : ∀ z : Wb (w.alloc (.cells #[.bool false, .bool false, .int .u64 0, .bool false, .bool false, .bool false, .bool false] 66)), z.at.frozen? ⟨w.heap.size, 6, none⟩ = false := fun z => frozen_new 6 z
  have KB := Lib.hid (fun (z : Wb (w.alloc (.cells #[.bool false, .bool false, .int .u64 0, .bool false, .bool false, .bool false, .bool false] 66))) => (((Below.refl _ _).alloc (Nat.le_refl _) _).trans (z.bel.mono (by simp)) : Below w.heap.size w z.at))
  cases t with
  | false =>
    go_enter Try.func56, Try.ntmps56
    go_wp2_with fail
    refine (DF.out _).mono ?_
    rintro e w1 ⟨rfl, g1⟩
    obtain ⟨x0, rfl⟩ := Wb.start g1
    clear g1
    have lt1 : w.heap.size < x0.at.heap.size := by have := x0.size; simp at this; omega
    have m0 : ∀ z : Wb (x0.at.alloc (.cells #[.bool v, .bool false, .int .u64 o, .bool u, .bool r, .bool s, .bool q] 66)), z.at.cell? ⟨x0.at.heap.size, 0, none⟩ = some (.bool v) := fun z => by rw [z.cell _ (by simp)]; simp [World.cell?_alloc_new]
    have m1 : ∀ z : Wb (x0.at.alloc (.cells #[.bool v, .bool false, .int .u64 o, .bool u, .bool r, .bool s, .bool q] 66)), z.at.cell? ⟨x0.at.heap.size, 1, none⟩ = some (.bool false) := fun z => by rw [z.cell _ (by simp)]; simp [World.cell?_alloc_new]
    have m2 : ∀ z : Wb (x0.at.alloc (.cells #[.bool v, .bool false, .int .u64 o, .bool u, .bool r, .bool s, .bool q] 66)), z.at.cell? ⟨x0.at.heap.size, 2, none⟩ = some (.int .u64 o) := fun z => by rw [z.cell _ (by simp)]; simp [World.cell?_alloc_new]
    have m3 : ∀ z : Wb (x0.at.alloc (.cells #[.bool v, .bool false, .int .u64 o, .bool u, .bool r, .bool s, .bool q] 66)), z.at.cell? ⟨x0.at.heap.size, 3, none⟩ = some (.bool u) := fun z => by rw [z.cell _ (by simp)]; simp [World.cell?_alloc_new]
    have m4 : ∀ z : Wb (x0.at.alloc (.cells #[.bool v, .bool false, .int .u64 o, .bool u, .bool r, .bool s, .bool q] 66)), z.at.cell? ⟨x0.at.heap.size, 4, none⟩ = some (.bool r) := fun z => by rw [z.cell _ (by simp)]; simp [World.cell?_alloc_new]
    have m5 : ∀ z : Wb (x0.at.alloc (.cells #[.bool v, .bool false, .int .u64 o, .bool u, .bool r, .bool s, .bool q] 66)), z.at.cell? ⟨x0.at.heap.size, 5, none⟩ = some (.bool s) := fun z => by rw [z.cell _ (by simp)]; simp [World.cell?_alloc_new]
    have m6 : ∀ z : Wb (x0.at.alloc (.cells #[.bool v, .bool false, .int .u64 o, .bool u, .bool r, .bool s, .bool q] 66)), z.at.cell? ⟨x0.at.heap.size, 6, none⟩ = some (.bool q) := fun z => by rw [z.cell _ (by simp)]; simp [World.cell?_alloc_new]
    have p0 : ∀ z : Wb (x0.at.alloc (.cells #[.bool v, .bool false, .int .u64 o, .bool u, .bool r, .bool s, .bool q] 66)), z.at.cell? ⟨w.heap.size, 0, none⟩ = some (.bool false) := fun z => (z.prev _ lt1).trans (k0 x0)
    have p1 : ∀ z : Wb (x0.at.alloc (.cells #[.bool v, .bool false, .int .u64 o, .bool u, .bool r, .bool s, .bool q] 66)), z.at.cell? ⟨w.heap.size, 1, none⟩ = some (.bool false) := fun z => (z.prev _ lt1).trans (k1 x0)
    have p2 : ∀ z : Wb (x0.at.alloc (.cells #[.bool v, .bool false, .int .u64 o, .bool u, .bool r, .bool s, .bool q] 66)), z.at.cell? ⟨w.heap.size, 2, none⟩ = some (.int .u64 0) := fun z => (z.prev _ lt1).trans (k2 x0)
    have p3 : ∀ z : Wb (x0.at.alloc (.cells #[.bool v, .bool false, .int .u64 o, .bool u, .bool r, .bool s, .bool q] 66)), z.at.cell? ⟨w.heap.size, 3, none⟩ = some (.bool false) := fun z => (z.prev _ lt1).trans (k3 x0)
    have p4 : ∀ z : Wb (x0.at.alloc (.cells #[.bool v, .bool false, .int .u64 o, .bool u, .bool r, .bool s, .bool q] 66)), z.at.cell? ⟨w.heap.size, 4, none⟩ = some (.bool false) := fun z => (z.prev _ lt1).trans (k4 x0)
    have p5 : ∀ z : Wb (x0.at.alloc (.cells #[.bool v, .bool false, .int .u64 o, .bool u, .bool r, .bool s, .bool q] 66)), z.at.cell? ⟨w.heap.size, 5, none⟩ = some (.bool false) := fun z => (z.prev _ lt1).trans (k5 x0)
    have p6 : ∀ z : Wb (x0.at.alloc (.cells #[.bool v, .bool false, .int .u64 o, .bool u, .bool r, .bool s, .bool q] 66)), z.at.cell? ⟨w.heap.size, 6, none⟩ = some (.bool false) := fun z => (z.prev _ lt1).trans (k6 x0)
    have d0 : ∀ z : Wb (x0.at.alloc (.cells #[.bool v, .bool false, .int .u64 o, .bool u, .bool r, .bool s, .bool q] 66)), z.at.frozen? ⟨w.heap.size, 0, none⟩ = false := fun z => (z.prevf _ lt1).trans (c0 x0)
    have d1 : ∀ z : Wb (x0.at.alloc (.cells #[.bool v, .bool false, .int .u64 o, .bool u, .bool r, .bool s, .bool q] 66)), z.at.frozen? ⟨w.heap.size, 1, none⟩ = false := fun z => (z.prevf _ lt1).trans (c1 x0)
    have d2 : ∀ z : Wb (x0.at.alloc (.cells #[.bool v, .bool false, .int .u64 o, .bool u, .bool r, .bool s, .bool q] 66)), z.at.frozen? ⟨w.heap.size, 2, none⟩ = false := fun z => (z.prevf _ lt1).trans (c2 x0)
    have d3 : ∀ z : Wb (x0.at.alloc (.cells #[.bool v, .bool false, .int .u64 o, .bool u, .bool r, .bool s, .bool q] 66)), z.at.frozen? ⟨w.heap.size, 3, none⟩ = false := fun z => (z.prevf _ lt1).trans (c3 x0)
    have d4 : ∀ z : Wb (x0.at.alloc (.cells #[.bool v, .bool false, .int .u64 o, .bool u, .bool r, .bool s, .bool q] 66)), z.at.frozen? ⟨w.heap.size, 4, none⟩ = false := fun z => (z.prevf _ lt1).trans (c4 x0)
    have d5 : ∀ z : Wb (x0.at.alloc (.cells #[.bool v, .bool false, .int .u64 o, .bool u, .bool r, .bool s, .bool q] 66)), z.at.frozen? ⟨w.heap.size, 5, none⟩ = false := fun z => (z.prevf _ lt1).trans (c5 x0)
    have d6 : ∀ z : Wb (x0.at.alloc (.cells #[.bool v, .bool false, .int .u64 o, .bool u, .bool r, .bool s, .bool q] 66)), z.at.frozen? ⟨w.heap.size, 6, none⟩ = false := fun z => (z.prevf _ lt1).trans (c6 x0)
    have MB := Lib.hid (fun (z : Wb (x0.at.alloc (.cells #[.bool v, .bool false, .int .u64 o, .bool u, .bool r, .bool s, .bool q] 66))) => ((KB.out x0).trans ((((Below.refl _ _).alloc (Nat.le_refl _) _).trans (z.bel.mono (by simp))).mono (by omega)) : Below w.heap.size w z.at))
    go_upto_region 2 with fail
    obtain ⟨y0, hy⟩ : ∃ y : Wb (x0.at.alloc (.cells #[.bool v, .bool false, .int .u64 o, .bool u, .bool r, .bool s, .bool q] 66)), (x0.at.alloc (.cells #[.bool v, .bool false, .int .u64 o, .bool u, .bool r, .bool s, .bool q] 66)) = y.at := ⟨⟨_, Below.refl _ _⟩, rfl⟩
    rw [hy]
    clear hy
    go_wp2
    refine bodyPost_ret (v := .tuple #[dv ⟨v, false, o, u, r, s, q⟩, .int .i64 1]) (by simp [results, Try.results56, go_sem, dv, *]) rfl ⟨rfl, ?_⟩
    repeat' (first | (with_reducible exact MB.out y0) | (with_reducible refine Below.setCell ?_ ?_ _) | (simp; done) | (simp; omega))
  | true =>
    go_enter Try.func56, Try.ntmps56
    go_wp2_with fail
    refine (DF.out _).mono ?_
    rintro e w1 ⟨rfl, g1⟩
    obtain ⟨x0, rfl⟩ := Wb.start g1
    clear g1
    have lt1 : w.heap.size < x0.at.heap.size := by have := x0.size; simp at this; omega
    have m0 : ∀ z : Wb (x0.at.alloc (.cells #[.bool v, .bool true, .int .u64 o, .bool u, .bool r, .bool s, .bool q] 66)), z.at.cell? ⟨x0.at.heap.size, 0, none⟩ = some (.bool v) := fun z => by rw [z.cell _ (by simp)]; simp [World.cell?_alloc_new]
    have m1 : ∀ z : Wb (x0.at.alloc (.cells #[.bool v, .bool true, .int .u64 o, .bool u, .bool r, .bool s, .bool q] 66)), z.at.cell? ⟨x0.at.heap.size, 1, none⟩ = some (.bool true) := fun z => by rw [z.cell _ (by simp)]; simp [World.cell?_alloc_new]
    have m2 : ∀ z : Wb (x0.at.alloc (.cells #[.bool v, .bool true, .int .u64 o, .bool u, .bool r, .bool s, .bool q] 66)), z.at.cell? ⟨x0.at.heap.size, 2, none⟩ = some (.int .u64 o) := fun z => by rw [z.cell _ (by simp)]; simp [World.cell?_alloc_new]
    have m3 : ∀ z : Wb (x0.at.alloc (.cells #[.bool v, .bool true, .int .u64 o, .bool u, .bool r, .bool s, .bool q] 66)), z.at.cell? ⟨x0.at.heap.size, 3, none⟩ = some (.bool u) := fun z => by rw [z.cell _ (by simp)]; simp [World.cell?_alloc_new]
    have m4 : ∀ z : Wb (x0.at.alloc (.cells #[.bool v, .bool true, .int .u64 o, .bool u, .bool r, .bool s, .bool q] 66)), z.at.cell? ⟨x0.at.heap.size, 4, none⟩ = some (.bool r) := fun z => by rw [z.cell _ (by simp)]; simp [World.cell?_alloc_new]
    have m5 : ∀ z : Wb (x0.at.alloc (.cells #[.bool v, .bool true, .int .u64 o, .bool u, .bool r, .bool s, .bool q] 66)), z.at.cell? ⟨x0.at.heap.size, 5, none⟩ = some (.bool s) := fun z => by rw [z.cell _ (by simp)]; simp [World.cell?_alloc_new]
    have m6 : ∀ z : Wb (x0.at.alloc (.cells #[.bool v, .bool true, .int .u64 o, .bool u, .bool r, .bool s, .bool q] 66)), z.at.cell? ⟨x0.at.heap.size, 6, none⟩ = some (.bool q) := fun z => by rw [z.cell _ (by simp)]; simp [World.cell?_alloc_new]
    have p0 : ∀ z : Wb (x0.at.alloc (.cells #[.bool v, .bool true, .int .u64 o, .bool u, .bool r, .bool s, .bool q] 66)), z.at.cell? ⟨w.heap.size, 0, none⟩ = some (.bool false) := fun z => (z.prev _ lt1).trans (k0 x0)
    have p1 : ∀ z : Wb (x0.at.alloc (.cells #[.bool v, .bool true, .int .u64 o, .bool u, .bool r, .bool s, .bool q] 66)), z.at.cell? ⟨w.heap.size, 1, none⟩ = some (.bool false) := fun z => (z.prev _ lt1).trans (k1 x0)
    have p2 : ∀ z : Wb (x0.at.alloc (.cells #[.bool v, .bool true, .int .u64 o, .bool u, .bool r, .bool s, .bool q] 66)), z.at.cell? ⟨w.heap.size, 2, none⟩ = some (.int .u64 0) := fun z => (z.prev _ lt1).trans (k2 x0)
    have p3 : ∀ z : Wb (x0.at.alloc (.cells #[.bool v, .bool true, .int .u64 o, .bool u, .bool r, .bool s, .bool q] 66)), z.at.cell? ⟨w.heap.size, 3, none⟩ = some (.bool false) := fun z => (z.prev _ lt1).trans (k3 x0)
    have p4 : ∀ z : Wb (x0.at.alloc (.cells #[.bool v, .bool true, .int .u64 o, .bool u, .bool r, .bool s, .bool q] 66)), z.at.cell? ⟨w.heap.size, 4, none⟩ = some (.bool false) := fun z => (z.prev _ lt1).trans (k4 x0)
    have p5 : ∀ z : Wb (x0.at.alloc (.cells #[.bool v, .bool true, .int .u64 o, .bool u, .bool r, .bool s, .bool q] 66)), z.at.cell? ⟨w.heap.size, 5, none⟩ = some (.bool false) := fun z => (z.prev _ lt1).trans (k5 x0)
    have p6 : ∀ z : Wb (x0.at.alloc (.cells #[.bool v, .bool true, .int .u64 o, .bool u, .bool r, .bool s, .bool q] 66)), z.at.cell? ⟨w.heap.size, 6, none⟩ = some (.bool false) := fun z => (z.prev _ lt1).trans (k6 x0)
    have d0 : ∀ z : Wb (x0.at.alloc (.cells #[.bool v, .bool true, .int .u64 o, .bool u, .bool r, .bool s, .bool q] 66)), z.at.frozen? ⟨w.heap.size, 0, none⟩ = false := fun z => (z.prevf _ lt1).trans (c0 x0)
    have d1 : ∀ z : Wb (x0.at.alloc (.cells #[.bool v, .bool true, .int .u64 o, .bool u, .bool r, .bool s, .bool q] 66)), z.at.frozen? ⟨w.heap.size, 1, none⟩ = false := fun z => (z.prevf _ lt1).trans (c1 x0)
    have d2 : ∀ z : Wb (x0.at.alloc (.cells #[.bool v, .bool true, .int .u64 o, .bool u, .bool r, .bool s, .bool q] 66)), z.at.frozen? ⟨w.heap.size, 2, none⟩ = false := fun z => (z.prevf _ lt1).trans (c2 x0)
    have d3 : ∀ z : Wb (x0.at.alloc (.cells #[.bool v, .bool true, .int .u64 o, .bool u, .bool r, .bool s, .bool q] 66)), z.at.frozen? ⟨w.heap.size, 3, none⟩ = false := fun z => (z.prevf _ lt1).trans (c3 x0)
    have d4 : ∀ z : Wb (x0.at.alloc (.cells #[.bool v, .bool true, .int .u64 o, .bool u, .bool r, .bool s, .bool q] 66)), z.at.frozen? ⟨w.heap.size, 4, none⟩ = false := fun z => (z.prevf _ lt1).trans (c4 x0)
    have d5 : ∀ z : Wb (x0.at.alloc (.cells #[.bool v, .bool true, .int .u64 o, .bool u, .bool r, .bool s, .bool q] 66)), z.at.frozen? ⟨w.heap.size, 5, none⟩ = false := fun z => (z.prevf _ lt1).trans (c5 x0)
    have d6 : ∀ z : Wb (x0.at.alloc (.cells #[.bool v, .bool true, .int .u64 o, .bool u, .bool r, .bool s, .bool q] 66)), z.at.frozen? ⟨w.heap.size, 6, none⟩ = false := fun z => (z.prevf _ lt1).trans (c6 x0)
    have MB := Lib.hid (fun (z : Wb (x0.at.alloc (.cells #[.bool v, .bool true, .int .u64 o, .bool u, .bool r, .bool s, .bool q] 66))) => ((KB.out x0).trans ((((Below.refl _ _).alloc (Nat.le_refl _) _).trans (z.bel.mono (by simp))).mono (by omega)) : Below w.heap.size w z.at))
    go_upto_region 2 with fail
    obtain ⟨y0, hy⟩ : ∃ y : Wb (x0.at.alloc (.cells #[.bool v, .bool true, .int .u64 o, .bool u, .bool r, .bool s, .bool q] 66)), (x0.at.alloc (.cells #[.bool v, .bool true, .int .u64 o, .bool u, .bool r, .bool s, .bool q] 66)) = y.at := ⟨⟨_, Below.refl _ _⟩, rfl⟩
    rw [hy]
    clear hy
    go_wp2_with fail
    refine (DL.out _).mono ?_
    rintro e w1 ⟨rfl, g1⟩
    obtain ⟨y1, rfl⟩ := Wb.next g1
    clear g1
    go_wp2
    refine bodyPost_ret (v := .tuple #[dv ⟨v2, t2, o2, u2, r2, s2, q2⟩, .int .i64 2]) (by simp [results, Try.results56, go_sem, dv, *]) rfl ⟨rfl, ?_⟩
    repeat' (first | (with_reducible exact MB.out y1) | (with_reducible refine Below.setCell ?_ ?_ _) | (simp; done) | (simp; omega))
end Go.Proofs.Yteiokenijmaloaa
