/-
  Layer 8, the walks: Through, and the page's.
-/
import Derived.Test.YtnpgpbcpgniloaaWb
set_option linter.unusedSimpArgs false
set_option linter.unusedVariables false
namespace Go.Proofs.Ytnpgpbcpgniloaa
open Go.RowKit

theorem leafD_bd (f l : Int) (hf0 : 0 ≤ f) (hf1 : f < 18446744073709551616) (hl0 : 0 ≤ l) (hl1 : l < 18446744073709551616) : 0 ≤ (GrT.leafD f l).out ∧ (GrT.leafD f l).out < 18446744073709551616 := by
  unfold GrT.leafD
  split
  · exact decode_bd f 1 hf0 hf1
  · exact decode_bd l 2 hl0 hl1

set_option maxRecDepth 100000 in
set_option maxHeartbeats 6400000 in
theorem through_any (f l va : Int) (b : Bool) (w : World) (hf0 : 0 ≤ f) (hf1 : f < 18446744073709551616) (hl0 : 0 ≤ l) (hl1 : l < 18446744073709551616) (h0 : 0 ≤ va) (h1 : va < 18446744073709551616) :
    Calls Try.prog 46 #[.int .u64 f, .int .u64 l, .int .u64 va, .bool b] w fun e w' => e = .returned (.tuple #[GrW.thV f l va b, .int .u64 (GrW.thA f l va b)]) ∧ Below w.heap.size w w' := by
  have BE := Lib.hid (fun w => before_any va b w h0 h1)
  have LF := Lib.hid (fun w => leaf_any f l w hf0 hf1 hl0 hl1)
  obtain ⟨o0, o1⟩ := leafD_bd f l hf0 hf1 hl0 hl1
  have e0 : GrW.thV f l va b = if GrW.befK va = 0 then (if GrD.allowed (GrT.leafD f l) b = 0 then GrW.fv 0 0 false else GrW.fv (GrD.allowed (GrT.leafD f l) b) (GrT.leafL f) b) else GrW.fv (GrW.befK va) 0 b := by
    unfold GrW.thV GrW.befV GrW.allowK
    split <;> rfl
  have e1 : GrW.thA f l va b = if GrW.befK va = 0 then (if GrD.allowed (GrT.leafD f l) b = 0 then GrD.address (GrT.leafD f l) (GrT.leafL f) va else 0) else 0 := rfl
  have e2 : GrW.befV va b = if GrW.befK va = 0 then GrW.fv 0 0 false else GrW.fv (GrW.befK va) 0 b := rfl
  rw [e0, e1]
  rw [e2] at BE
  obtain ⟨D1, hD1⟩ : ∃ D, D = GrT.leafD f l := ⟨_, rfl⟩
  obtain ⟨L1, hL1⟩ : ∃ L, L = GrT.leafL f := ⟨_, rfl⟩
  obtain ⟨K, hK⟩ : ∃ K, K = GrW.befK va := ⟨_, rfl⟩
  rw [← hD1, ← hL1] at LF
  rw [← hD1] at o0 o1
  rw [← hK] at BE
  rw [← hD1, ← hL1, ← hK]
  clear e0 e1 e2 hD1 hL1 hK hf0 hf1 hl0 hl1
  obtain ⟨v, t, o, u, r, s, q⟩ := D1
  simp only at o0 o1
  have AL := Lib.hid (fun w => allowed_below v t o u r s q b w)
  have AD := Lib.hid (fun w => address_any ⟨v, t, o, u, r, s, q⟩ L1 va w o0 o1 h0)
  obtain ⟨A, hA⟩ : ∃ A, A = GrD.allowed ⟨v, t, o, u, r, s, q⟩ b := ⟨_, rfl⟩
  obtain ⟨at1, hat⟩ : ∃ a, a = GrD.address ⟨v, t, o, u, r, s, q⟩ L1 va := ⟨_, rfl⟩
  rw [← hA] at AL
  rw [← hat] at AD
  rw [← hA, ← hat]
  unfold dv at LF AD
  clear hA hat o0 o1 h0 h1
  have k0 : ∀ z : Wb (w.alloc (.cells #[.int .i64 0, .int .i64 0, .bool false] 28)), z.at.cell? ⟨w.heap.size, 0, none⟩ = some (.int .i64 0) := fun z => by rw [z.cell _ (by simp)]; simp [World.cell?_alloc_new]
  have k1 : ∀ z : Wb (w.alloc (.cells #[.int .i64 0, .int .i64 0, .bool false] 28)), z.at.cell? ⟨w.heap.size, 1, none⟩ = some (.int .i64 0) := fun z => by rw [z.cell _ (by simp)]; simp [World.cell?_alloc_new]
  have k2 : ∀ z : Wb (w.alloc (.cells #[.int .i64 0, .int .i64 0, .bool false] 28)), z.at.cell? ⟨w.heap.size, 2, none⟩ = some (.bool false) := fun z => by rw [z.cell _ (by simp)]; simp [World.cell?_alloc_new]
  have c0 : ∀ z : Wb (w.alloc (.cells #[.int .i64 0, .int .i64 0, .bool false] 28)), z.at.frozen? ⟨w.heap.size, 0, none⟩ = false := fun z => frozen_new 0 z
  have c1 : ∀ z : Wb (w.alloc (.cells #[.int .i64 0, .int .i64 0, .bool false] 28)), z.at.frozen? ⟨w.heap.size, 1, none⟩ = false := fun z => frozen_new 1 z
  have c2 : ∀ z : Wb (w.alloc (.cells #[.int .i64 0, .int .i64 0, .bool false] 28)), z.at.frozen? ⟨w.heap.size, 2, none⟩ = false := fun z => frozen_new 2 z
  have KB := Lib.hid (fun (z : Wb (w.alloc (.cells #[.int .i64 0, .int .i64 0, .bool false] 28))) => (((Below.refl _ _).alloc (Nat.le_refl _) _).trans (z.bel.mono (by simp)) : Below w.heap.size w z.at))
  by_cases cK : K = 0
  · subst cK
    rw [if_pos rfl] at BE
    rw [if_pos rfl, if_pos rfl]
    by_cases cA : A = 0
    · subst cA
      rw [if_pos rfl, if_pos rfl]
      go_enter Try.func46, Try.ntmps46
      go_wp2_with fail
      refine (BE.out _).mono ?_
      rintro e w1 ⟨rfl, g1⟩
      obtain ⟨x0, rfl⟩ := Wb.start g1
      clear g1
      unfold GrW.fv
      have lt1 : w.heap.size < x0.at.heap.size := by have := x0.size; simp at this; omega
      have m0 : ∀ z : Wb (x0.at.alloc (.cells #[.int .i64 0, .int .i64 0, .bool false] 28)), z.at.cell? ⟨x0.at.heap.size, 0, none⟩ = some (.int .i64 0) := fun z => by rw [z.cell _ (by simp)]; simp [World.cell?_alloc_new]
      have m1 : ∀ z : Wb (x0.at.alloc (.cells #[.int .i64 0, .int .i64 0, .bool false] 28)), z.at.cell? ⟨x0.at.heap.size, 1, none⟩ = some (.int .i64 0) := fun z => by rw [z.cell _ (by simp)]; simp [World.cell?_alloc_new]
      have m2 : ∀ z : Wb (x0.at.alloc (.cells #[.int .i64 0, .int .i64 0, .bool false] 28)), z.at.cell? ⟨x0.at.heap.size, 2, none⟩ = some (.bool false) := fun z => by rw [z.cell _ (by simp)]; simp [World.cell?_alloc_new]
      have p0 : ∀ z : Wb (x0.at.alloc (.cells #[.int .i64 0, .int .i64 0, .bool false] 28)), z.at.cell? ⟨w.heap.size, 0, none⟩ = some (.int .i64 0) := fun z => (z.prev _ lt1).trans (k0 x0)
      have p1 : ∀ z : Wb (x0.at.alloc (.cells #[.int .i64 0, .int .i64 0, .bool false] 28)), z.at.cell? ⟨w.heap.size, 1, none⟩ = some (.int .i64 0) := fun z => (z.prev _ lt1).trans (k1 x0)
      have p2 : ∀ z : Wb (x0.at.alloc (.cells #[.int .i64 0, .int .i64 0, .bool false] 28)), z.at.cell? ⟨w.heap.size, 2, none⟩ = some (.bool false) := fun z => (z.prev _ lt1).trans (k2 x0)
      have d0 : ∀ z : Wb (x0.at.alloc (.cells #[.int .i64 0, .int .i64 0, .bool false] 28)), z.at.frozen? ⟨w.heap.size, 0, none⟩ = false := fun z => (z.prevf _ lt1).trans (c0 x0)
      have d1 : ∀ z : Wb (x0.at.alloc (.cells #[.int .i64 0, .int .i64 0, .bool false] 28)), z.at.frozen? ⟨w.heap.size, 1, none⟩ = false := fun z => (z.prevf _ lt1).trans (c1 x0)
      have d2 : ∀ z : Wb (x0.at.alloc (.cells #[.int .i64 0, .int .i64 0, .bool false] 28)), z.at.frozen? ⟨w.heap.size, 2, none⟩ = false := fun z => (z.prevf _ lt1).trans (c2 x0)
      have MB := Lib.hid (fun (z : Wb (x0.at.alloc (.cells #[.int .i64 0, .int .i64 0, .bool false] 28))) => ((KB.out x0).trans ((((Below.refl _ _).alloc (Nat.le_refl _) _).trans (z.bel.mono (by simp))).mono (by omega)) : Below w.heap.size w z.at))
      go_upto_region 2 with fail
      obtain ⟨y0, hy⟩ : ∃ y : Wb (x0.at.alloc (.cells #[.int .i64 0, .int .i64 0, .bool false] 28)), x0.at.alloc (.cells #[.int .i64 0, .int .i64 0, .bool false] 28) = y.at := ⟨⟨_, Below.refl _ _⟩, rfl⟩
      rw [hy]
      clear hy
      go_wp2_with fail
      refine (LF.out _).mono ?_
      rintro e w2 ⟨rfl, g2⟩
      obtain ⟨y1, rfl⟩ := Wb.next g2
      clear g2
      have lt2 : x0.at.heap.size < y1.at.heap.size := by have := y1.size; simp at this; omega
      have lt3 : w.heap.size < y1.at.heap.size := by omega
      have n0 : ∀ z : Wb (y1.at.alloc (.cells #[.bool v, .bool t, .int .u64 o, .bool u, .bool r, .bool s, .bool q] 118)), z.at.cell? ⟨y1.at.heap.size, 0, none⟩ = some (.bool v) := fun z => by rw [z.cell _ (by simp)]; simp [World.cell?_alloc_new]
      have n1 : ∀ z : Wb (y1.at.alloc (.cells #[.bool v, .bool t, .int .u64 o, .bool u, .bool r, .bool s, .bool q] 118)), z.at.cell? ⟨y1.at.heap.size, 1, none⟩ = some (.bool t) := fun z => by rw [z.cell _ (by simp)]; simp [World.cell?_alloc_new]
      have n2 : ∀ z : Wb (y1.at.alloc (.cells #[.bool v, .bool t, .int .u64 o, .bool u, .bool r, .bool s, .bool q] 118)), z.at.cell? ⟨y1.at.heap.size, 2, none⟩ = some (.int .u64 o) := fun z => by rw [z.cell _ (by simp)]; simp [World.cell?_alloc_new]
      have n3 : ∀ z : Wb (y1.at.alloc (.cells #[.bool v, .bool t, .int .u64 o, .bool u, .bool r, .bool s, .bool q] 118)), z.at.cell? ⟨y1.at.heap.size, 3, none⟩ = some (.bool u) := fun z => by rw [z.cell _ (by simp)]; simp [World.cell?_alloc_new]
      have n4 : ∀ z : Wb (y1.at.alloc (.cells #[.bool v, .bool t, .int .u64 o, .bool u, .bool r, .bool s, .bool q] 118)), z.at.cell? ⟨y1.at.heap.size, 4, none⟩ = some (.bool r) := fun z => by rw [z.cell _ (by simp)]; simp [World.cell?_alloc_new]
      have n5 : ∀ z : Wb (y1.at.alloc (.cells #[.bool v, .bool t, .int .u64 o, .bool u, .bool r, .bool s, .bool q] 118)), z.at.cell? ⟨y1.at.heap.size, 5, none⟩ = some (.bool s) := fun z => by rw [z.cell _ (by simp)]; simp [World.cell?_alloc_new]
      have n6 : ∀ z : Wb (y1.at.alloc (.cells #[.bool v, .bool t, .int .u64 o, .bool u, .bool r, .bool s, .bool q] 118)), z.at.cell? ⟨y1.at.heap.size, 6, none⟩ = some (.bool q) := fun z => by rw [z.cell _ (by simp)]; simp [World.cell?_alloc_new]
      have j0 : ∀ z : Wb (y1.at.alloc (.cells #[.bool v, .bool t, .int .u64 o, .bool u, .bool r, .bool s, .bool q] 118)), z.at.cell? ⟨w.heap.size, 0, none⟩ = some (.int .i64 0) := fun z => (z.prev _ lt3).trans (p0 y1)
      have j1 : ∀ z : Wb (y1.at.alloc (.cells #[.bool v, .bool t, .int .u64 o, .bool u, .bool r, .bool s, .bool q] 118)), z.at.cell? ⟨w.heap.size, 1, none⟩ = some (.int .i64 0) := fun z => (z.prev _ lt3).trans (p1 y1)
      have j2 : ∀ z : Wb (y1.at.alloc (.cells #[.bool v, .bool t, .int .u64 o, .bool u, .bool r, .bool s, .bool q] 118)), z.at.cell? ⟨w.heap.size, 2, none⟩ = some (.bool false) := fun z => (z.prev _ lt3).trans (p2 y1)
      have g0 : ∀ z : Wb (y1.at.alloc (.cells #[.bool v, .bool t, .int .u64 o, .bool u, .bool r, .bool s, .bool q] 118)), z.at.frozen? ⟨w.heap.size, 0, none⟩ = false := fun z => (z.prevf _ lt3).trans (d0 y1)
      have g1 : ∀ z : Wb (y1.at.alloc (.cells #[.bool v, .bool t, .int .u64 o, .bool u, .bool r, .bool s, .bool q] 118)), z.at.frozen? ⟨w.heap.size, 1, none⟩ = false := fun z => (z.prevf _ lt3).trans (d1 y1)
      have g2 : ∀ z : Wb (y1.at.alloc (.cells #[.bool v, .bool t, .int .u64 o, .bool u, .bool r, .bool s, .bool q] 118)), z.at.frozen? ⟨w.heap.size, 2, none⟩ = false := fun z => (z.prevf _ lt3).trans (d2 y1)
      have NB := Lib.hid (fun (z : Wb (y1.at.alloc (.cells #[.bool v, .bool t, .int .u64 o, .bool u, .bool r, .bool s, .bool q] 118))) => ((MB.out y1).trans ((((Below.refl _ _).alloc (Nat.le_refl _) _).trans (z.bel.mono (by simp))).mono (by omega)) : Below w.heap.size w z.at))
      go_upto_region 5 with fail
      obtain ⟨z0, hz⟩ : ∃ y : Wb (y1.at.alloc (.cells #[.bool v, .bool t, .int .u64 o, .bool u, .bool r, .bool s, .bool q] 118)), y1.at.alloc (.cells #[.bool v, .bool t, .int .u64 o, .bool u, .bool r, .bool s, .bool q] 118) = y.at := ⟨⟨_, Below.refl _ _⟩, rfl⟩
      rw [hz]
      clear hz
      go_wp2_with fail
      refine (AL.out _).mono ?_
      rintro e w3 ⟨rfl, g3⟩
      obtain ⟨z1, rfl⟩ := Wb.next g3
      clear g3
      go_wp2_with fail
      refine (AD.out _).mono ?_
      rintro e w4 ⟨rfl, g4⟩
      obtain ⟨z2, rfl⟩ := Wb.next g4
      clear g4
      go_wp2
      refine bodyPost_ret (v := .tuple #[GrW.fv 0 0 false, .int .u64 at1]) (by simp [results, Try.results46, go_sem, GrW.fv, *]) rfl ⟨rfl, ?_⟩
      repeat' (first | (with_reducible exact NB.out z2) | (with_reducible refine Below.setCell ?_ ?_ _) | (simp; done) | (simp; omega))
    · rw [if_neg cA, if_neg cA]
      have ab : (A != 0) = true := by simpa using cA
      have ab2 : (A == 0) = false := by simpa using cA
      go_enter Try.func46, Try.ntmps46
      go_wp2_with fail
      refine (BE.out _).mono ?_
      rintro e w1 ⟨rfl, g1⟩
      obtain ⟨x0, rfl⟩ := Wb.start g1
      clear g1
      unfold GrW.fv
      have lt1 : w.heap.size < x0.at.heap.size := by have := x0.size; simp at this; omega
      have m0 : ∀ z : Wb (x0.at.alloc (.cells #[.int .i64 0, .int .i64 0, .bool false] 28)), z.at.cell? ⟨x0.at.heap.size, 0, none⟩ = some (.int .i64 0) := fun z => by rw [z.cell _ (by simp)]; simp [World.cell?_alloc_new]
      have m1 : ∀ z : Wb (x0.at.alloc (.cells #[.int .i64 0, .int .i64 0, .bool false] 28)), z.at.cell? ⟨x0.at.heap.size, 1, none⟩ = some (.int .i64 0) := fun z => by rw [z.cell _ (by simp)]; simp [World.cell?_alloc_new]
      have m2 : ∀ z : Wb (x0.at.alloc (.cells #[.int .i64 0, .int .i64 0, .bool false] 28)), z.at.cell? ⟨x0.at.heap.size, 2, none⟩ = some (.bool false) := fun z => by rw [z.cell _ (by simp)]; simp [World.cell?_alloc_new]
      have p0 : ∀ z : Wb (x0.at.alloc (.cells #[.int .i64 0, .int .i64 0, .bool false] 28)), z.at.cell? ⟨w.heap.size, 0, none⟩ = some (.int .i64 0) := fun z => (z.prev _ lt1).trans (k0 x0)
      have p1 : ∀ z : Wb (x0.at.alloc (.cells #[.int .i64 0, .int .i64 0, .bool false] 28)), z.at.cell? ⟨w.heap.size, 1, none⟩ = some (.int .i64 0) := fun z => (z.prev _ lt1).trans (k1 x0)
      have p2 : ∀ z : Wb (x0.at.alloc (.cells #[.int .i64 0, .int .i64 0, .bool false] 28)), z.at.cell? ⟨w.heap.size, 2, none⟩ = some (.bool false) := fun z => (z.prev _ lt1).trans (k2 x0)
      have d0 : ∀ z : Wb (x0.at.alloc (.cells #[.int .i64 0, .int .i64 0, .bool false] 28)), z.at.frozen? ⟨w.heap.size, 0, none⟩ = false := fun z => (z.prevf _ lt1).trans (c0 x0)
      have d1 : ∀ z : Wb (x0.at.alloc (.cells #[.int .i64 0, .int .i64 0, .bool false] 28)), z.at.frozen? ⟨w.heap.size, 1, none⟩ = false := fun z => (z.prevf _ lt1).trans (c1 x0)
      have d2 : ∀ z : Wb (x0.at.alloc (.cells #[.int .i64 0, .int .i64 0, .bool false] 28)), z.at.frozen? ⟨w.heap.size, 2, none⟩ = false := fun z => (z.prevf _ lt1).trans (c2 x0)
      have MB := Lib.hid (fun (z : Wb (x0.at.alloc (.cells #[.int .i64 0, .int .i64 0, .bool false] 28))) => ((KB.out x0).trans ((((Below.refl _ _).alloc (Nat.le_refl _) _).trans (z.bel.mono (by simp))).mono (by omega)) : Below w.heap.size w z.at))
      go_upto_region 2 with fail
      obtain ⟨y0, hy⟩ : ∃ y : Wb (x0.at.alloc (.cells #[.int .i64 0, .int .i64 0, .bool false] 28)), x0.at.alloc (.cells #[.int .i64 0, .int .i64 0, .bool false] 28) = y.at := ⟨⟨_, Below.refl _ _⟩, rfl⟩
      rw [hy]
      clear hy
      go_wp2_with fail
      refine (LF.out _).mono ?_
      rintro e w2 ⟨rfl, g2⟩
      obtain ⟨y1, rfl⟩ := Wb.next g2
      clear g2
      have lt2 : x0.at.heap.size < y1.at.heap.size := by have := y1.size; simp at this; omega
      have lt3 : w.heap.size < y1.at.heap.size := by omega
      have n0 : ∀ z : Wb (y1.at.alloc (.cells #[.bool v, .bool t, .int .u64 o, .bool u, .bool r, .bool s, .bool q] 118)), z.at.cell? ⟨y1.at.heap.size, 0, none⟩ = some (.bool v) := fun z => by rw [z.cell _ (by simp)]; simp [World.cell?_alloc_new]
      have n1 : ∀ z : Wb (y1.at.alloc (.cells #[.bool v, .bool t, .int .u64 o, .bool u, .bool r, .bool s, .bool q] 118)), z.at.cell? ⟨y1.at.heap.size, 1, none⟩ = some (.bool t) := fun z => by rw [z.cell _ (by simp)]; simp [World.cell?_alloc_new]
      have n2 : ∀ z : Wb (y1.at.alloc (.cells #[.bool v, .bool t, .int .u64 o, .bool u, .bool r, .bool s, .bool q] 118)), z.at.cell? ⟨y1.at.heap.size, 2, none⟩ = some (.int .u64 o) := fun z => by rw [z.cell _ (by simp)]; simp [World.cell?_alloc_new]
      have n3 : ∀ z : Wb (y1.at.alloc (.cells #[.bool v, .bool t, .int .u64 o, .bool u, .bool r, .bool s, .bool q] 118)), z.at.cell? ⟨y1.at.heap.size, 3, none⟩ = some (.bool u) := fun z => by rw [z.cell _ (by simp)]; simp [World.cell?_alloc_new]
      have n4 : ∀ z : Wb (y1.at.alloc (.cells #[.bool v, .bool t, .int .u64 o, .bool u, .bool r, .bool s, .bool q] 118)), z.at.cell? ⟨y1.at.heap.size, 4, none⟩ = some (.bool r) := fun z => by rw [z.cell _ (by simp)]; simp [World.cell?_alloc_new]
      have n5 : ∀ z : Wb (y1.at.alloc (.cells #[.bool v, .bool t, .int .u64 o, .bool u, .bool r, .bool s, .bool q] 118)), z.at.cell? ⟨y1.at.heap.size, 5, none⟩ = some (.bool s) := fun z => by rw [z.cell _ (by simp)]; simp [World.cell?_alloc_new]
      have n6 : ∀ z : Wb (y1.at.alloc (.cells #[.bool v, .bool t, .int .u64 o, .bool u, .bool r, .bool s, .bool q] 118)), z.at.cell? ⟨y1.at.heap.size, 6, none⟩ = some (.bool q) := fun z => by rw [z.cell _ (by simp)]; simp [World.cell?_alloc_new]
      have j0 : ∀ z : Wb (y1.at.alloc (.cells #[.bool v, .bool t, .int .u64 o, .bool u, .bool r, .bool s, .bool q] 118)), z.at.cell? ⟨w.heap.size, 0, none⟩ = some (.int .i64 0) := fun z => (z.prev _ lt3).trans (p0 y1)
      have j1 : ∀ z : Wb (y1.at.alloc (.cells #[.bool v, .bool t, .int .u64 o, .bool u, .bool r, .bool s, .bool q] 118)), z.at.cell? ⟨w.heap.size, 1, none⟩ = some (.int .i64 0) := fun z => (z.prev _ lt3).trans (p1 y1)
      have j2 : ∀ z : Wb (y1.at.alloc (.cells #[.bool v, .bool t, .int .u64 o, .bool u, .bool r, .bool s, .bool q] 118)), z.at.cell? ⟨w.heap.size, 2, none⟩ = some (.bool false) := fun z => (z.prev _ lt3).trans (p2 y1)
      have g0 : ∀ z : Wb (y1.at.alloc (.cells #[.bool v, .bool t, .int .u64 o, .bool u, .bool r, .bool s, .bool q] 118)), z.at.frozen? ⟨w.heap.size, 0, none⟩ = false := fun z => (z.prevf _ lt3).trans (d0 y1)
      have g1 : ∀ z : Wb (y1.at.alloc (.cells #[.bool v, .bool t, .int .u64 o, .bool u, .bool r, .bool s, .bool q] 118)), z.at.frozen? ⟨w.heap.size, 1, none⟩ = false := fun z => (z.prevf _ lt3).trans (d1 y1)
      have g2 : ∀ z : Wb (y1.at.alloc (.cells #[.bool v, .bool t, .int .u64 o, .bool u, .bool r, .bool s, .bool q] 118)), z.at.frozen? ⟨w.heap.size, 2, none⟩ = false := fun z => (z.prevf _ lt3).trans (d2 y1)
      have NB := Lib.hid (fun (z : Wb (y1.at.alloc (.cells #[.bool v, .bool t, .int .u64 o, .bool u, .bool r, .bool s, .bool q] 118))) => ((MB.out y1).trans ((((Below.refl _ _).alloc (Nat.le_refl _) _).trans (z.bel.mono (by simp))).mono (by omega)) : Below w.heap.size w z.at))
      go_upto_region 5 with fail
      obtain ⟨z0, hz⟩ : ∃ y : Wb (y1.at.alloc (.cells #[.bool v, .bool t, .int .u64 o, .bool u, .bool r, .bool s, .bool q] 118)), y1.at.alloc (.cells #[.bool v, .bool t, .int .u64 o, .bool u, .bool r, .bool s, .bool q] 118) = y.at := ⟨⟨_, Below.refl _ _⟩, rfl⟩
      rw [hz]
      clear hz
      go_wp2_with fail
      refine (AL.out _).mono ?_
      rintro e w3 ⟨rfl, g3⟩
      obtain ⟨z1, rfl⟩ := Wb.next g3
      clear g3
      go_wp2
      refine bodyPost_ret (v := .tuple #[GrW.fv A L1 b, .int .u64 0]) (by simp [results, Try.results46, go_sem, GrW.fv, *]) rfl ⟨rfl, ?_⟩
      repeat' (first | (with_reducible exact NB.out z1) | (with_reducible refine Below.setCell ?_ ?_ _) | (simp; done) | (simp; omega))
  · rw [if_neg cK] at BE
    rw [if_neg cK, if_neg cK]
    have kb : (K != 0) = true := by simpa using cK
    have kb2 : (K == 0) = false := by simpa using cK
    go_enter Try.func46, Try.ntmps46
    go_wp2_with fail
    refine (BE.out _).mono ?_
    rintro e w1 ⟨rfl, g1⟩
    obtain ⟨x0, rfl⟩ := Wb.start g1
    clear g1
    unfold GrW.fv
    have lt1 : w.heap.size < x0.at.heap.size := by have := x0.size; simp at this; omega
    have m0 : ∀ z : Wb (x0.at.alloc (.cells #[.int .i64 K, .int .i64 0, .bool b] 28)), z.at.cell? ⟨x0.at.heap.size, 0, none⟩ = some (.int .i64 K) := fun z => by rw [z.cell _ (by simp)]; simp [World.cell?_alloc_new]
    have m1 : ∀ z : Wb (x0.at.alloc (.cells #[.int .i64 K, .int .i64 0, .bool b] 28)), z.at.cell? ⟨x0.at.heap.size, 1, none⟩ = some (.int .i64 0) := fun z => by rw [z.cell _ (by simp)]; simp [World.cell?_alloc_new]
    have m2 : ∀ z : Wb (x0.at.alloc (.cells #[.int .i64 K, .int .i64 0, .bool b] 28)), z.at.cell? ⟨x0.at.heap.size, 2, none⟩ = some (.bool b) := fun z => by rw [z.cell _ (by simp)]; simp [World.cell?_alloc_new]
    have p0 : ∀ z : Wb (x0.at.alloc (.cells #[.int .i64 K, .int .i64 0, .bool b] 28)), z.at.cell? ⟨w.heap.size, 0, none⟩ = some (.int .i64 0) := fun z => (z.prev _ lt1).trans (k0 x0)
    have p1 : ∀ z : Wb (x0.at.alloc (.cells #[.int .i64 K, .int .i64 0, .bool b] 28)), z.at.cell? ⟨w.heap.size, 1, none⟩ = some (.int .i64 0) := fun z => (z.prev _ lt1).trans (k1 x0)
    have p2 : ∀ z : Wb (x0.at.alloc (.cells #[.int .i64 K, .int .i64 0, .bool b] 28)), z.at.cell? ⟨w.heap.size, 2, none⟩ = some (.bool false) := fun z => (z.prev _ lt1).trans (k2 x0)
    have d0 : ∀ z : Wb (x0.at.alloc (.cells #[.int .i64 K, .int .i64 0, .bool b] 28)), z.at.frozen? ⟨w.heap.size, 0, none⟩ = false := fun z => (z.prevf _ lt1).trans (c0 x0)
    have d1 : ∀ z : Wb (x0.at.alloc (.cells #[.int .i64 K, .int .i64 0, .bool b] 28)), z.at.frozen? ⟨w.heap.size, 1, none⟩ = false := fun z => (z.prevf _ lt1).trans (c1 x0)
    have d2 : ∀ z : Wb (x0.at.alloc (.cells #[.int .i64 K, .int .i64 0, .bool b] 28)), z.at.frozen? ⟨w.heap.size, 2, none⟩ = false := fun z => (z.prevf _ lt1).trans (c2 x0)
    have MB := Lib.hid (fun (z : Wb (x0.at.alloc (.cells #[.int .i64 K, .int .i64 0, .bool b] 28))) => ((KB.out x0).trans ((((Below.refl _ _).alloc (Nat.le_refl _) _).trans (z.bel.mono (by simp))).mono (by omega)) : Below w.heap.size w z.at))
    go_upto_region 2 with fail
    obtain ⟨y0, hy⟩ : ∃ y : Wb (x0.at.alloc (.cells #[.int .i64 K, .int .i64 0, .bool b] 28)), x0.at.alloc (.cells #[.int .i64 K, .int .i64 0, .bool b] 28) = y.at := ⟨⟨_, Below.refl _ _⟩, rfl⟩
    rw [hy]
    clear hy
    go_wp2
    refine bodyPost_ret (v := .tuple #[GrW.fv K 0 b, .int .u64 0]) (by simp [results, Try.results46, go_sem, GrW.fv, *]) rfl ⟨rfl, ?_⟩
    repeat' (first | (with_reducible exact MB.out y0) | (with_reducible refine Below.setCell ?_ ?_ _) | (simp; done) | (simp; omega))

end Go.Proofs.Ytnpgpbcpgniloaa
