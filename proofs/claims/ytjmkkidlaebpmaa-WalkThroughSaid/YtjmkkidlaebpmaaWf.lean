/-
  Layer 8, the laws' walks: WalkThrough.
-/
import Derived.Test.YtjmkkidlaebpmaaWe
set_option linter.unusedSimpArgs false
set_option linter.unusedVariables false
namespace GrW
open Go
theorem befV_eq (va : Int) (b : Bool) : ∃ k c, befV va b = fv k 0 c := by
  unfold befV
  split
  · exact ⟨_, _, rfl⟩
  · exact ⟨_, _, rfl⟩
theorem thV_eq (f l va : Int) (b : Bool) : ∃ k m c, thV f l va b = fv k m c := by
  unfold thV
  split
  · split
    · exact ⟨_, _, _, rfl⟩
    · exact ⟨_, _, _, rfl⟩
  · obtain ⟨k, c, e⟩ := befV_eq va b
    exact ⟨k, 0, c, e⟩
end GrW
namespace Go.Proofs.Ytjmkkidlaebpmaa
open Go.RowKit

set_option maxRecDepth 100000 in
set_option maxHeartbeats 6400000 in
theorem WalkThrough_walk (f l tb va : Int) (b : Bool) (w : World) (hf0 : 0 ≤ f) (hf1 : f < 18446744073709551616) (hl0 : 0 ≤ l) (hl1 : l < 18446744073709551616) (h0 : 0 ≤ va) (h1 : va < 18446744073709551616) :
    Calls Try.prog 4 #[.int .u64 f, .int .u64 l, .agg #[.int .u64 tb, .int .u64 va, .bool b]] w fun e w' => e = .returned (.bool true) ∧ Below w.heap.size w w' := by
  have AW := Lib.hid (fun w => wawake_any w)
  have T1 := Lib.hid (fun w => through_any f l va b w hf0 hf1 hl0 hl1 h0 h1)
  have T2 := Lib.hid (fun w => rthrough_any f l va b w hf0 hf1 hl0 hl1 h0 h1)
  have L1 := Lib.hid (fun w => leaf_any f l w hf0 hf1 hl0 hl1)
  have L2 := Lib.hid (fun w => rleaf_any f l w hf0 hf1 hl0 hl1)
  have B1 := Lib.hid (fun w => before_any va b w h0 h1)
  have B2 := Lib.hid (fun w => rbefore_any va b w h0 h1)
  obtain ⟨k1, c1, eb⟩ := GrW.befV_eq va b
  obtain ⟨k2, m2, c2, et⟩ := GrW.thV_eq f l va b
  rw [eb] at B1 B2
  rw [et] at T1 T2
  unfold GrW.fv at B1 B2 T1 T2
  obtain ⟨a, ha⟩ : ∃ a, a = GrW.thA f l va b := ⟨_, rfl⟩
  obtain ⟨D1, hD1⟩ : ∃ D, D = GrT.leafD f l := ⟨_, rfl⟩
  obtain ⟨lv, hlv⟩ : ∃ L, L = GrT.leafL f := ⟨_, rfl⟩
  rw [← ha] at T1 T2
  rw [← hD1, ← hlv] at L1 L2
  clear ha hD1 hlv eb et hf0 hf1 hl0 hl1 h0 h1
  obtain ⟨v, t, o, u, r, s, q⟩ := D1
  unfold dv at L1 L2
  have ka0 : ∀ z : Wb (w.alloc (.cells #[.int .u64 tb, .int .u64 va, .bool b] 25)), z.at.cell? ⟨w.heap.size, 0, none⟩ = some (.int .u64 tb) := fun z => by rw [z.cell _ (by simp)]; simp [World.cell?_alloc_new]
  have ka1 : ∀ z : Wb (w.alloc (.cells #[.int .u64 tb, .int .u64 va, .bool b] 25)), z.at.cell? ⟨w.heap.size, 1, none⟩ = some (.int .u64 va) := fun z => by rw [z.cell _ (by simp)]; simp [World.cell?_alloc_new]
  have ka2 : ∀ z : Wb (w.alloc (.cells #[.int .u64 tb, .int .u64 va, .bool b] 25)), z.at.cell? ⟨w.heap.size, 2, none⟩ = some (.bool b) := fun z => by rw [z.cell _ (by simp)]; simp [World.cell?_alloc_new]
  have KB := Lib.hid (fun (z : Wb (w.alloc (.cells #[.int .u64 tb, .int .u64 va, .bool b] 25))) => (((Below.refl _ _).alloc (Nat.le_refl _) _).trans (z.bel.mono (by simp)) : Below w.heap.size w z.at))
  go_enter Try.func4, Try.ntmps4
  go_wp2_with fail
  refine (AW.out _).mono ?_
  rintro e w1 ⟨rfl, gg⟩
  obtain ⟨x0, rfl⟩ := Wb.start gg
  clear gg
  go_wp2_with fail
  refine (T1.out _).mono ?_
  rintro e w1 ⟨rfl, gg⟩
  obtain ⟨x1, rfl⟩ := Wb.next gg
  clear gg
  have s1 : w.heap.size < x1.at.heap.size := by have := x1.size; simp at this; omega
  have ma0 : ∀ z : Wb (x1.at.alloc (.cells #[.int .i64 k2, .int .i64 m2, .bool c2] 36)), z.at.cell? ⟨x1.at.heap.size, 0, none⟩ = some (.int .i64 k2) := fun z => by rw [z.cell _ (by simp)]; simp [World.cell?_alloc_new]
  have ma1 : ∀ z : Wb (x1.at.alloc (.cells #[.int .i64 k2, .int .i64 m2, .bool c2] 36)), z.at.cell? ⟨x1.at.heap.size, 1, none⟩ = some (.int .i64 m2) := fun z => by rw [z.cell _ (by simp)]; simp [World.cell?_alloc_new]
  have ma2 : ∀ z : Wb (x1.at.alloc (.cells #[.int .i64 k2, .int .i64 m2, .bool c2] 36)), z.at.cell? ⟨x1.at.heap.size, 2, none⟩ = some (.bool c2) := fun z => by rw [z.cell _ (by simp)]; simp [World.cell?_alloc_new]
  have kb0 : ∀ z : Wb (x1.at.alloc (.cells #[.int .i64 k2, .int .i64 m2, .bool c2] 36)), z.at.cell? ⟨w.heap.size, 0, none⟩ = some (.int .u64 tb) := fun z => (z.prev _ s1).trans (ka0 x1)
  have kb1 : ∀ z : Wb (x1.at.alloc (.cells #[.int .i64 k2, .int .i64 m2, .bool c2] 36)), z.at.cell? ⟨w.heap.size, 1, none⟩ = some (.int .u64 va) := fun z => (z.prev _ s1).trans (ka1 x1)
  have kb2 : ∀ z : Wb (x1.at.alloc (.cells #[.int .i64 k2, .int .i64 m2, .bool c2] 36)), z.at.cell? ⟨w.heap.size, 2, none⟩ = some (.bool b) := fun z => (z.prev _ s1).trans (ka2 x1)
  have K2 := Lib.hid (fun (z : Wb (x1.at.alloc (.cells #[.int .i64 k2, .int .i64 m2, .bool c2] 36))) => ((KB.out x1).trans ((((Below.refl _ _).alloc (Nat.le_refl _) _).trans (z.bel.mono (by simp))).mono (by have := (KB.out x1).size; omega)) : Below w.heap.size w z.at))
  go_upto_region 4 with fail
  obtain ⟨y0, hy⟩ : ∃ y : Wb (x1.at.alloc (.cells #[.int .i64 k2, .int .i64 m2, .bool c2] 36)), x1.at.alloc (.cells #[.int .i64 k2, .int .i64 m2, .bool c2] 36) = y.at := ⟨⟨_, Below.refl _ _⟩, rfl⟩
  rw [hy]
  clear hy
  go_wp2_with fail
  refine (T2.out _).mono ?_
  rintro e w1 ⟨rfl, gg⟩
  obtain ⟨y1, rfl⟩ := Wb.next gg
  clear gg
  have s2 : x1.at.heap.size < y1.at.heap.size := by have := y1.size; simp at this; omega
  have s3 : w.heap.size < y1.at.heap.size := by omega
  have na0 : ∀ z : Wb (y1.at.alloc (.cells #[.int .i64 k2, .int .i64 m2, .bool c2] 36)), z.at.cell? ⟨y1.at.heap.size, 0, none⟩ = some (.int .i64 k2) := fun z => by rw [z.cell _ (by simp)]; simp [World.cell?_alloc_new]
  have na1 : ∀ z : Wb (y1.at.alloc (.cells #[.int .i64 k2, .int .i64 m2, .bool c2] 36)), z.at.cell? ⟨y1.at.heap.size, 1, none⟩ = some (.int .i64 m2) := fun z => by rw [z.cell _ (by simp)]; simp [World.cell?_alloc_new]
  have na2 : ∀ z : Wb (y1.at.alloc (.cells #[.int .i64 k2, .int .i64 m2, .bool c2] 36)), z.at.cell? ⟨y1.at.heap.size, 2, none⟩ = some (.bool c2) := fun z => by rw [z.cell _ (by simp)]; simp [World.cell?_alloc_new]
  have mb0 : ∀ z : Wb (y1.at.alloc (.cells #[.int .i64 k2, .int .i64 m2, .bool c2] 36)), z.at.cell? ⟨x1.at.heap.size, 0, none⟩ = some (.int .i64 k2) := fun z => (z.prev _ s2).trans (ma0 y1)
  have mb1 : ∀ z : Wb (y1.at.alloc (.cells #[.int .i64 k2, .int .i64 m2, .bool c2] 36)), z.at.cell? ⟨x1.at.heap.size, 1, none⟩ = some (.int .i64 m2) := fun z => (z.prev _ s2).trans (ma1 y1)
  have mb2 : ∀ z : Wb (y1.at.alloc (.cells #[.int .i64 k2, .int .i64 m2, .bool c2] 36)), z.at.cell? ⟨x1.at.heap.size, 2, none⟩ = some (.bool c2) := fun z => (z.prev _ s2).trans (ma2 y1)
  have kc0 : ∀ z : Wb (y1.at.alloc (.cells #[.int .i64 k2, .int .i64 m2, .bool c2] 36)), z.at.cell? ⟨w.heap.size, 0, none⟩ = some (.int .u64 tb) := fun z => (z.prev _ s3).trans (kb0 y1)
  have kc1 : ∀ z : Wb (y1.at.alloc (.cells #[.int .i64 k2, .int .i64 m2, .bool c2] 36)), z.at.cell? ⟨w.heap.size, 1, none⟩ = some (.int .u64 va) := fun z => (z.prev _ s3).trans (kb1 y1)
  have kc2 : ∀ z : Wb (y1.at.alloc (.cells #[.int .i64 k2, .int .i64 m2, .bool c2] 36)), z.at.cell? ⟨w.heap.size, 2, none⟩ = some (.bool b) := fun z => (z.prev _ s3).trans (kb2 y1)
  have K3 := Lib.hid (fun (z : Wb (y1.at.alloc (.cells #[.int .i64 k2, .int .i64 m2, .bool c2] 36))) => ((K2.out y1).trans ((((Below.refl _ _).alloc (Nat.le_refl _) _).trans (z.bel.mono (by simp))).mono (by have := (K2.out y1).size; omega)) : Below w.heap.size w z.at))
  go_upto_region 5 with fail
  obtain ⟨z0, hy⟩ : ∃ y : Wb (y1.at.alloc (.cells #[.int .i64 k2, .int .i64 m2, .bool c2] 36)), y1.at.alloc (.cells #[.int .i64 k2, .int .i64 m2, .bool c2] 36) = y.at := ⟨⟨_, Below.refl _ _⟩, rfl⟩
  rw [hy]
  clear hy
  go_wp2_with fail
  refine (L1.out _).mono ?_
  rintro e w1 ⟨rfl, gg⟩
  obtain ⟨z1, rfl⟩ := Wb.next gg
  clear gg
  have s4 : y1.at.heap.size < z1.at.heap.size := by have := z1.size; simp at this; omega
  have s5 : x1.at.heap.size < z1.at.heap.size := by omega
  have s6 : w.heap.size < z1.at.heap.size := by omega
  have da0 : ∀ z : Wb (z1.at.alloc (.cells #[.bool v, .bool t, .int .u64 o, .bool u, .bool r, .bool s, .bool q] 46)), z.at.cell? ⟨z1.at.heap.size, 0, none⟩ = some (.bool v) := fun z => by rw [z.cell _ (by simp)]; simp [World.cell?_alloc_new]
  have da1 : ∀ z : Wb (z1.at.alloc (.cells #[.bool v, .bool t, .int .u64 o, .bool u, .bool r, .bool s, .bool q] 46)), z.at.cell? ⟨z1.at.heap.size, 1, none⟩ = some (.bool t) := fun z => by rw [z.cell _ (by simp)]; simp [World.cell?_alloc_new]
  have da2 : ∀ z : Wb (z1.at.alloc (.cells #[.bool v, .bool t, .int .u64 o, .bool u, .bool r, .bool s, .bool q] 46)), z.at.cell? ⟨z1.at.heap.size, 2, none⟩ = some (.int .u64 o) := fun z => by rw [z.cell _ (by simp)]; simp [World.cell?_alloc_new]
  have da3 : ∀ z : Wb (z1.at.alloc (.cells #[.bool v, .bool t, .int .u64 o, .bool u, .bool r, .bool s, .bool q] 46)), z.at.cell? ⟨z1.at.heap.size, 3, none⟩ = some (.bool u) := fun z => by rw [z.cell _ (by simp)]; simp [World.cell?_alloc_new]
  have da4 : ∀ z : Wb (z1.at.alloc (.cells #[.bool v, .bool t, .int .u64 o, .bool u, .bool r, .bool s, .bool q] 46)), z.at.cell? ⟨z1.at.heap.size, 4, none⟩ = some (.bool r) := fun z => by rw [z.cell _ (by simp)]; simp [World.cell?_alloc_new]
  have da5 : ∀ z : Wb (z1.at.alloc (.cells #[.bool v, .bool t, .int .u64 o, .bool u, .bool r, .bool s, .bool q] 46)), z.at.cell? ⟨z1.at.heap.size, 5, none⟩ = some (.bool s) := fun z => by rw [z.cell _ (by simp)]; simp [World.cell?_alloc_new]
  have da6 : ∀ z : Wb (z1.at.alloc (.cells #[.bool v, .bool t, .int .u64 o, .bool u, .bool r, .bool s, .bool q] 46)), z.at.cell? ⟨z1.at.heap.size, 6, none⟩ = some (.bool q) := fun z => by rw [z.cell _ (by simp)]; simp [World.cell?_alloc_new]
  have nb0 : ∀ z : Wb (z1.at.alloc (.cells #[.bool v, .bool t, .int .u64 o, .bool u, .bool r, .bool s, .bool q] 46)), z.at.cell? ⟨y1.at.heap.size, 0, none⟩ = some (.int .i64 k2) := fun z => (z.prev _ s4).trans (na0 z1)
  have nb1 : ∀ z : Wb (z1.at.alloc (.cells #[.bool v, .bool t, .int .u64 o, .bool u, .bool r, .bool s, .bool q] 46)), z.at.cell? ⟨y1.at.heap.size, 1, none⟩ = some (.int .i64 m2) := fun z => (z.prev _ s4).trans (na1 z1)
  have nb2 : ∀ z : Wb (z1.at.alloc (.cells #[.bool v, .bool t, .int .u64 o, .bool u, .bool r, .bool s, .bool q] 46)), z.at.cell? ⟨y1.at.heap.size, 2, none⟩ = some (.bool c2) := fun z => (z.prev _ s4).trans (na2 z1)
  have mc0 : ∀ z : Wb (z1.at.alloc (.cells #[.bool v, .bool t, .int .u64 o, .bool u, .bool r, .bool s, .bool q] 46)), z.at.cell? ⟨x1.at.heap.size, 0, none⟩ = some (.int .i64 k2) := fun z => (z.prev _ s5).trans (mb0 z1)
  have mc1 : ∀ z : Wb (z1.at.alloc (.cells #[.bool v, .bool t, .int .u64 o, .bool u, .bool r, .bool s, .bool q] 46)), z.at.cell? ⟨x1.at.heap.size, 1, none⟩ = some (.int .i64 m2) := fun z => (z.prev _ s5).trans (mb1 z1)
  have mc2 : ∀ z : Wb (z1.at.alloc (.cells #[.bool v, .bool t, .int .u64 o, .bool u, .bool r, .bool s, .bool q] 46)), z.at.cell? ⟨x1.at.heap.size, 2, none⟩ = some (.bool c2) := fun z => (z.prev _ s5).trans (mb2 z1)
  have kd0 : ∀ z : Wb (z1.at.alloc (.cells #[.bool v, .bool t, .int .u64 o, .bool u, .bool r, .bool s, .bool q] 46)), z.at.cell? ⟨w.heap.size, 0, none⟩ = some (.int .u64 tb) := fun z => (z.prev _ s6).trans (kc0 z1)
  have kd1 : ∀ z : Wb (z1.at.alloc (.cells #[.bool v, .bool t, .int .u64 o, .bool u, .bool r, .bool s, .bool q] 46)), z.at.cell? ⟨w.heap.size, 1, none⟩ = some (.int .u64 va) := fun z => (z.prev _ s6).trans (kc1 z1)
  have kd2 : ∀ z : Wb (z1.at.alloc (.cells #[.bool v, .bool t, .int .u64 o, .bool u, .bool r, .bool s, .bool q] 46)), z.at.cell? ⟨w.heap.size, 2, none⟩ = some (.bool b) := fun z => (z.prev _ s6).trans (kc2 z1)
  have K4 := Lib.hid (fun (z : Wb (z1.at.alloc (.cells #[.bool v, .bool t, .int .u64 o, .bool u, .bool r, .bool s, .bool q] 46))) => ((K3.out z1).trans ((((Below.refl _ _).alloc (Nat.le_refl _) _).trans (z.bel.mono (by simp))).mono (by have := (K3.out z1).size; omega)) : Below w.heap.size w z.at))
  go_upto_region 6 with fail
  obtain ⟨u0, hy⟩ : ∃ y : Wb (z1.at.alloc (.cells #[.bool v, .bool t, .int .u64 o, .bool u, .bool r, .bool s, .bool q] 46)), z1.at.alloc (.cells #[.bool v, .bool t, .int .u64 o, .bool u, .bool r, .bool s, .bool q] 46) = y.at := ⟨⟨_, Below.refl _ _⟩, rfl⟩
  rw [hy]
  clear hy
  go_wp2_with fail
  refine (L2.out _).mono ?_
  rintro e w1 ⟨rfl, gg⟩
  obtain ⟨u1, rfl⟩ := Wb.next gg
  clear gg
  have s7 : z1.at.heap.size < u1.at.heap.size := by have := u1.size; simp at this; omega
  have s8 : y1.at.heap.size < u1.at.heap.size := by omega
  have s9 : x1.at.heap.size < u1.at.heap.size := by omega
  have s10 : w.heap.size < u1.at.heap.size := by omega
  have ea0 : ∀ z : Wb (u1.at.alloc (.cells #[.bool v, .bool t, .int .u64 o, .bool u, .bool r, .bool s, .bool q] 46)), z.at.cell? ⟨u1.at.heap.size, 0, none⟩ = some (.bool v) := fun z => by rw [z.cell _ (by simp)]; simp [World.cell?_alloc_new]
  have ea1 : ∀ z : Wb (u1.at.alloc (.cells #[.bool v, .bool t, .int .u64 o, .bool u, .bool r, .bool s, .bool q] 46)), z.at.cell? ⟨u1.at.heap.size, 1, none⟩ = some (.bool t) := fun z => by rw [z.cell _ (by simp)]; simp [World.cell?_alloc_new]
  have ea2 : ∀ z : Wb (u1.at.alloc (.cells #[.bool v, .bool t, .int .u64 o, .bool u, .bool r, .bool s, .bool q] 46)), z.at.cell? ⟨u1.at.heap.size, 2, none⟩ = some (.int .u64 o) := fun z => by rw [z.cell _ (by simp)]; simp [World.cell?_alloc_new]
  have ea3 : ∀ z : Wb (u1.at.alloc (.cells #[.bool v, .bool t, .int .u64 o, .bool u, .bool r, .bool s, .bool q] 46)), z.at.cell? ⟨u1.at.heap.size, 3, none⟩ = some (.bool u) := fun z => by rw [z.cell _ (by simp)]; simp [World.cell?_alloc_new]
  have ea4 : ∀ z : Wb (u1.at.alloc (.cells #[.bool v, .bool t, .int .u64 o, .bool u, .bool r, .bool s, .bool q] 46)), z.at.cell? ⟨u1.at.heap.size, 4, none⟩ = some (.bool r) := fun z => by rw [z.cell _ (by simp)]; simp [World.cell?_alloc_new]
  have ea5 : ∀ z : Wb (u1.at.alloc (.cells #[.bool v, .bool t, .int .u64 o, .bool u, .bool r, .bool s, .bool q] 46)), z.at.cell? ⟨u1.at.heap.size, 5, none⟩ = some (.bool s) := fun z => by rw [z.cell _ (by simp)]; simp [World.cell?_alloc_new]
  have ea6 : ∀ z : Wb (u1.at.alloc (.cells #[.bool v, .bool t, .int .u64 o, .bool u, .bool r, .bool s, .bool q] 46)), z.at.cell? ⟨u1.at.heap.size, 6, none⟩ = some (.bool q) := fun z => by rw [z.cell _ (by simp)]; simp [World.cell?_alloc_new]
  have db0 : ∀ z : Wb (u1.at.alloc (.cells #[.bool v, .bool t, .int .u64 o, .bool u, .bool r, .bool s, .bool q] 46)), z.at.cell? ⟨z1.at.heap.size, 0, none⟩ = some (.bool v) := fun z => (z.prev _ s7).trans (da0 u1)
  have db1 : ∀ z : Wb (u1.at.alloc (.cells #[.bool v, .bool t, .int .u64 o, .bool u, .bool r, .bool s, .bool q] 46)), z.at.cell? ⟨z1.at.heap.size, 1, none⟩ = some (.bool t) := fun z => (z.prev _ s7).trans (da1 u1)
  have db2 : ∀ z : Wb (u1.at.alloc (.cells #[.bool v, .bool t, .int .u64 o, .bool u, .bool r, .bool s, .bool q] 46)), z.at.cell? ⟨z1.at.heap.size, 2, none⟩ = some (.int .u64 o) := fun z => (z.prev _ s7).trans (da2 u1)
  have db3 : ∀ z : Wb (u1.at.alloc (.cells #[.bool v, .bool t, .int .u64 o, .bool u, .bool r, .bool s, .bool q] 46)), z.at.cell? ⟨z1.at.heap.size, 3, none⟩ = some (.bool u) := fun z => (z.prev _ s7).trans (da3 u1)
  have db4 : ∀ z : Wb (u1.at.alloc (.cells #[.bool v, .bool t, .int .u64 o, .bool u, .bool r, .bool s, .bool q] 46)), z.at.cell? ⟨z1.at.heap.size, 4, none⟩ = some (.bool r) := fun z => (z.prev _ s7).trans (da4 u1)
  have db5 : ∀ z : Wb (u1.at.alloc (.cells #[.bool v, .bool t, .int .u64 o, .bool u, .bool r, .bool s, .bool q] 46)), z.at.cell? ⟨z1.at.heap.size, 5, none⟩ = some (.bool s) := fun z => (z.prev _ s7).trans (da5 u1)
  have db6 : ∀ z : Wb (u1.at.alloc (.cells #[.bool v, .bool t, .int .u64 o, .bool u, .bool r, .bool s, .bool q] 46)), z.at.cell? ⟨z1.at.heap.size, 6, none⟩ = some (.bool q) := fun z => (z.prev _ s7).trans (da6 u1)
  have nc0 : ∀ z : Wb (u1.at.alloc (.cells #[.bool v, .bool t, .int .u64 o, .bool u, .bool r, .bool s, .bool q] 46)), z.at.cell? ⟨y1.at.heap.size, 0, none⟩ = some (.int .i64 k2) := fun z => (z.prev _ s8).trans (nb0 u1)
  have nc1 : ∀ z : Wb (u1.at.alloc (.cells #[.bool v, .bool t, .int .u64 o, .bool u, .bool r, .bool s, .bool q] 46)), z.at.cell? ⟨y1.at.heap.size, 1, none⟩ = some (.int .i64 m2) := fun z => (z.prev _ s8).trans (nb1 u1)
  have nc2 : ∀ z : Wb (u1.at.alloc (.cells #[.bool v, .bool t, .int .u64 o, .bool u, .bool r, .bool s, .bool q] 46)), z.at.cell? ⟨y1.at.heap.size, 2, none⟩ = some (.bool c2) := fun z => (z.prev _ s8).trans (nb2 u1)
  have md0 : ∀ z : Wb (u1.at.alloc (.cells #[.bool v, .bool t, .int .u64 o, .bool u, .bool r, .bool s, .bool q] 46)), z.at.cell? ⟨x1.at.heap.size, 0, none⟩ = some (.int .i64 k2) := fun z => (z.prev _ s9).trans (mc0 u1)
  have md1 : ∀ z : Wb (u1.at.alloc (.cells #[.bool v, .bool t, .int .u64 o, .bool u, .bool r, .bool s, .bool q] 46)), z.at.cell? ⟨x1.at.heap.size, 1, none⟩ = some (.int .i64 m2) := fun z => (z.prev _ s9).trans (mc1 u1)
  have md2 : ∀ z : Wb (u1.at.alloc (.cells #[.bool v, .bool t, .int .u64 o, .bool u, .bool r, .bool s, .bool q] 46)), z.at.cell? ⟨x1.at.heap.size, 2, none⟩ = some (.bool c2) := fun z => (z.prev _ s9).trans (mc2 u1)
  have ke0 : ∀ z : Wb (u1.at.alloc (.cells #[.bool v, .bool t, .int .u64 o, .bool u, .bool r, .bool s, .bool q] 46)), z.at.cell? ⟨w.heap.size, 0, none⟩ = some (.int .u64 tb) := fun z => (z.prev _ s10).trans (kd0 u1)
  have ke1 : ∀ z : Wb (u1.at.alloc (.cells #[.bool v, .bool t, .int .u64 o, .bool u, .bool r, .bool s, .bool q] 46)), z.at.cell? ⟨w.heap.size, 1, none⟩ = some (.int .u64 va) := fun z => (z.prev _ s10).trans (kd1 u1)
  have ke2 : ∀ z : Wb (u1.at.alloc (.cells #[.bool v, .bool t, .int .u64 o, .bool u, .bool r, .bool s, .bool q] 46)), z.at.cell? ⟨w.heap.size, 2, none⟩ = some (.bool b) := fun z => (z.prev _ s10).trans (kd2 u1)
  have K5 := Lib.hid (fun (z : Wb (u1.at.alloc (.cells #[.bool v, .bool t, .int .u64 o, .bool u, .bool r, .bool s, .bool q] 46))) => ((K4.out u1).trans ((((Below.refl _ _).alloc (Nat.le_refl _) _).trans (z.bel.mono (by simp))).mono (by have := (K4.out u1).size; omega)) : Below w.heap.size w z.at))
  go_upto_region 7 with fail
  obtain ⟨v0, hy⟩ : ∃ y : Wb (u1.at.alloc (.cells #[.bool v, .bool t, .int .u64 o, .bool u, .bool r, .bool s, .bool q] 46)), u1.at.alloc (.cells #[.bool v, .bool t, .int .u64 o, .bool u, .bool r, .bool s, .bool q] 46) = y.at := ⟨⟨_, Below.refl _ _⟩, rfl⟩
  rw [hy]
  clear hy
  have ke0' := v0.lift ke0
  have ke1' := v0.lift ke1
  have ke2' := v0.lift ke2
  have md0' := v0.lift md0
  have md1' := v0.lift md1
  have md2' := v0.lift md2
  have nc0' := v0.lift nc0
  have nc1' := v0.lift nc1
  have nc2' := v0.lift nc2
  have db0' := v0.lift db0
  have db1' := v0.lift db1
  have db2' := v0.lift db2
  have db3' := v0.lift db3
  have db4' := v0.lift db4
  have db5' := v0.lift db5
  have db6' := v0.lift db6
  have ea0' := v0.lift ea0
  have ea1' := v0.lift ea1
  have ea2' := v0.lift ea2
  have ea3' := v0.lift ea3
  have ea4' := v0.lift ea4
  have ea5' := v0.lift ea5
  have ea6' := v0.lift ea6
  refine wp_region_wb (by kernel_rfl) (by kernel_rfl) ?_
  repeat (go_big_quiet_step (first | (go_at_call 24; exact Calls.wb (B1.out _)) | (go_at_call 25; exact Calls.wb (B2.out _))))
  refine wpQuiet_nil ?_
  rintro _ ⟨x9, rfl⟩
  obtain ⟨v9, hv9⟩ := Wb.next (x := v0) x9.bel
  rw [hv9]
  go_wp2
  go_ret
  exact ⟨by first | rfl | simp, K5.out v9⟩
end Go.Proofs.Ytjmkkidlaebpmaa
