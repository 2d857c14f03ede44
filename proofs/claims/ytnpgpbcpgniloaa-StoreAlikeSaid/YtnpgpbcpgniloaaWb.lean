/-
  Layer 8, the walks: Before, First, the page's Before and Second.
-/
import Derived.Test.YtnpgpbcpgniloaaWn
import Derived.Test.YtnpgpbcpgniloaaTa
import Derived.Test.YtnpgpbcpgniloaaDs
import Derived.Test.YtnpgpbcpgniloaaDk
set_option linter.unusedSimpArgs false
set_option linter.unusedVariables false
namespace Go.Proofs.Ytnpgpbcpgniloaa
open Go.RowKit

set_option maxHeartbeats 1600000 in
theorem before_any (va : Int) (b : Bool) (w : World) (h0 : 0 ≤ va) (h1 : va < 18446744073709551616) :
    Calls Try.prog 43 #[.int .u64 va, .bool b] w fun e w' => e = .returned (GrW.befV va b) ∧ Below w.heap.size w w' := by
  have AL := Lib.hid (fun w => aligned_any va 3 w h0 h1 (by omega) (by omega))
  have WI := Lib.hid (fun w => within_any va w)
  have A8 := GrW.aligned8 va h0 h1
  have E : GrW.befV va b = if GrF.alignedB va 3 = true then (if decide (va < 1073741824) = true then GrW.fv 0 0 false else GrW.fv 2 0 b) else GrW.fv 1 0 b := by
    unfold GrW.befV GrW.befK
    repeat' split
    all_goals simp_all
  rw [E]
  clear E
  cases ca : GrF.alignedB va 3 with
  | false =>
    rw [ca] at AL
    have m8 : (va % 8 == 0) = false := by rw [← A8]; exact ca
    have m8b : (va % 8 != 0) = true := by simp only [bne, m8]; rfl
    clear A8 ca
    go_enter Try.func43, Try.ntmps43
    go_wp2_with (first | (go_at_call 48; refine (AL.out _).mono ?_; rintro e w' ⟨rfl, rfl⟩) | (go_at_call 60; refine (WI.out _).mono ?_; rintro e w' ⟨rfl, rfl⟩))
    refine bodyPost_ret (v := GrW.fv 1 0 b) (by simp [results, Try.results43, go_sem, GrW.fv, *]) rfl ⟨rfl, ?_⟩
    repeat' (first | (with_reducible exact Below.refl _ _) | assumption | (with_reducible refine Below.setCell ?_ ?_ _) | (with_reducible refine Below.alloc ?_ ?_ _) | (simp [World.size_alloc]; done) | (simp [World.size_alloc]; omega))
  | true =>
    cases cw : decide (va < 1073741824) with
    | false =>
      rw [ca] at AL
      rw [cw] at WI
      have m8 : (va % 8 == 0) = true := by rw [← A8]; exact ca
      have m8b : (va % 8 != 0) = false := by simp only [bne, m8]; rfl
      have w30 : decide (1073741824 ≤ va) = true := by simp at cw ⊢; omega
      clear A8 ca cw
      go_enter Try.func43, Try.ntmps43
      go_wp2_with (first | (go_at_call 48; refine (AL.out _).mono ?_; rintro e w' ⟨rfl, rfl⟩) | (go_at_call 60; refine (WI.out _).mono ?_; rintro e w' ⟨rfl, rfl⟩))
      refine bodyPost_ret (v := GrW.fv 2 0 b) (by simp [results, Try.results43, go_sem, GrW.fv, *]) rfl ⟨rfl, ?_⟩
      repeat' (first | (with_reducible exact Below.refl _ _) | assumption | (with_reducible refine Below.setCell ?_ ?_ _) | (with_reducible refine Below.alloc ?_ ?_ _) | (simp [World.size_alloc]; done) | (simp [World.size_alloc]; omega))
    | true =>
      rw [ca] at AL
      rw [cw] at WI
      have m8 : (va % 8 == 0) = true := by rw [← A8]; exact ca
      have m8b : (va % 8 != 0) = false := by simp only [bne, m8]; rfl
      have w30 : decide (1073741824 ≤ va) = false := by simp at cw ⊢; omega
      clear A8 ca cw
      go_enter Try.func43, Try.ntmps43
      go_wp2_with (first | (go_at_call 48; refine (AL.out _).mono ?_; rintro e w' ⟨rfl, rfl⟩) | (go_at_call 60; refine (WI.out _).mono ?_; rintro e w' ⟨rfl, rfl⟩))
      refine bodyPost_ret (v := GrW.fv 0 0 false) (by simp [results, Try.results43, go_sem, GrW.fv, *]) rfl ⟨rfl, ?_⟩
      repeat' (first | (with_reducible exact Below.refl _ _) | assumption | (with_reducible refine Below.setCell ?_ ?_ _) | (with_reducible refine Below.alloc ?_ ?_ _) | (simp [World.size_alloc]; done) | (simp [World.size_alloc]; omega))

theorem dslot_below (t x l : Int) (w : World) (h0 : 0 ≤ x) (h1 : x < 18446744073709551616) :
    Calls Try.prog 44 #[.int .u64 t, .int .u64 x, .int .i64 l] w fun e w' => e = .returned (.int .u64 (IntKind.u64.wrap (t + 8 * GrF.slot x l))) ∧ Below w.heap.size w w' :=
  (dslot_any t x l w h0 h1).mono fun e w' h => ⟨h.1, h.2.below _⟩

set_option maxRecDepth 100000 in
set_option maxHeartbeats 3200000 in
theorem first_any (f va : Int) (w : World) (hf0 : 0 ≤ f) (hf1 : f < 18446744073709551616) (h0 : 0 ≤ va) (h1 : va < 18446744073709551616) :
    Calls Try.prog 45 #[.int .u64 f, .int .u64 va] w fun e w' => e = .returned (.tuple #[GrW.firstV f, .int .u64 (GrW.secondA f va), .bool (GrW.isTable f)]) ∧ Below w.heap.size w w' := by
  have DF := Lib.hid (fun w => decode_any f 1 w hf0 hf1)
  have e0 : GrW.firstV f = if (GrD.decode f 1).valid = true then GrW.fv 0 0 false else GrW.fv 3 1 false := rfl
  have e1 : GrW.secondA f va = if GrW.isTable f = true then IntKind.u64.wrap ((GrD.decode f 1).out + 8 * GrF.slot va 2) else 0 := rfl
  have e2 : GrW.isTable f = ((GrD.decode f 1).valid && (GrD.decode f 1).table) := rfl
  rw [e0, e1, e2]
  obtain ⟨D1, hD1⟩ : ∃ D, D = GrD.decode f 1 := ⟨_, rfl⟩
  rw [← hD1] at DF
  rw [← hD1]
  clear e0 e1 e2 hD1 hf0 hf1
  obtain ⟨v, t, o, u, r, s, q⟩ := D1
  unfold dv at DF
  have SL := Lib.hid (fun w => dslot_below o va 2 w h0 h1)
  obtain ⟨a, ha⟩ : ∃ a, a = IntKind.u64.wrap (o + 8 * GrF.slot va 2) := ⟨_, rfl⟩
  rw [← ha] at SL
  simp only [← ha]
  clear ha h0 h1
  have k0 : ∀ z : Wb (w.alloc (.cells #[.int .i64 0, .int .i64 0, .bool false] 28)), z.at.cell? ⟨w.heap.size, 0, none⟩ = some (.int .i64 0) := fun z => by rw [z.cell _ (by simp)]; simp [World.cell?_alloc_new]
  have k1 : ∀ z : Wb (w.alloc (.cells #[.int .i64 0, .int .i64 0, .bool false] 28)), z.at.cell? ⟨w.heap.size, 1, none⟩ = some (.int .i64 0) := fun z => by rw [z.cell _ (by simp)]; simp [World.cell?_alloc_new]
  have k2 : ∀ z : Wb (w.alloc (.cells #[.int .i64 0, .int .i64 0, .bool false] 28)), z.at.cell? ⟨w.heap.size, 2, none⟩ = some (.bool false) := fun z => by rw [z.cell _ (by simp)]; simp [World.cell?_alloc_new]
  have c0 : ∀ z : Wb (w.alloc (.cells #[.int .i64 0, .int .i64 0, .bool false] 28)), z.at.frozen? ⟨w.heap.size, 0, none⟩ = false := fun z => frozen_new 0 z
  have c1 : ∀ z : Wb (w.alloc (.cells #[.int .i64 0, .int .i64 0, .bool false] 28)), z.at.frozen? ⟨w.heap.size, 1, none⟩ = false := fun z => frozen_new 1 z
  have c2 : ∀ z : Wb (w.alloc (.cells #[.int .i64 0, .int .i64 0, .bool false] 28)), z.at.frozen? ⟨w.heap.size, 2, none⟩ = false := fun z => frozen_new 2 z
  have KB := Lib.hid (fun (z : Wb (w.alloc (.cells #[.int .i64 0, .int .i64 0, .bool false] 28))) => (((Below.refl _ _).alloc (Nat.le_refl _) _).trans (z.bel.mono (by simp)) : Below w.heap.size w z.at))
  cases v with
  | false =>
    cases t with
    | false =>
      go_enter Try.func45, Try.ntmps45
      go_wp2_with fail
      refine (DF.out _).mono ?_
      rintro e w1 ⟨rfl, g1⟩
      obtain ⟨x0, rfl⟩ := Wb.start g1
      clear g1
      have lt1 : w.heap.size < x0.at.heap.size := by have := x0.size; simp at this; omega
      have m0 : ∀ z : Wb (x0.at.alloc (.cells #[.bool false, .bool false, .int .u64 o, .bool u, .bool r, .bool s, .bool q] 118)), z.at.cell? ⟨x0.at.heap.size, 0, none⟩ = some (.bool false) := fun z => by rw [z.cell _ (by simp)]; simp [World.cell?_alloc_new]
      have m1 : ∀ z : Wb (x0.at.alloc (.cells #[.bool false, .bool false, .int .u64 o, .bool u, .bool r, .bool s, .bool q] 118)), z.at.cell? ⟨x0.at.heap.size, 1, none⟩ = some (.bool false) := fun z => by rw [z.cell _ (by simp)]; simp [World.cell?_alloc_new]
      have m2 : ∀ z : Wb (x0.at.alloc (.cells #[.bool false, .bool false, .int .u64 o, .bool u, .bool r, .bool s, .bool q] 118)), z.at.cell? ⟨x0.at.heap.size, 2, none⟩ = some (.int .u64 o) := fun z => by rw [z.cell _ (by simp)]; simp [World.cell?_alloc_new]
      have p0 : ∀ z : Wb (x0.at.alloc (.cells #[.bool false, .bool false, .int .u64 o, .bool u, .bool r, .bool s, .bool q] 118)), z.at.cell? ⟨w.heap.size, 0, none⟩ = some (.int .i64 0) := fun z => (z.prev _ lt1).trans (k0 x0)
      have d0 : ∀ z : Wb (x0.at.alloc (.cells #[.bool false, .bool false, .int .u64 o, .bool u, .bool r, .bool s, .bool q] 118)), z.at.frozen? ⟨w.heap.size, 0, none⟩ = false := fun z => (z.prevf _ lt1).trans (c0 x0)
      have p1 : ∀ z : Wb (x0.at.alloc (.cells #[.bool false, .bool false, .int .u64 o, .bool u, .bool r, .bool s, .bool q] 118)), z.at.cell? ⟨w.heap.size, 1, none⟩ = some (.int .i64 0) := fun z => (z.prev _ lt1).trans (k1 x0)
      have d1 : ∀ z : Wb (x0.at.alloc (.cells #[.bool false, .bool false, .int .u64 o, .bool u, .bool r, .bool s, .bool q] 118)), z.at.frozen? ⟨w.heap.size, 1, none⟩ = false := fun z => (z.prevf _ lt1).trans (c1 x0)
      have p2 : ∀ z : Wb (x0.at.alloc (.cells #[.bool false, .bool false, .int .u64 o, .bool u, .bool r, .bool s, .bool q] 118)), z.at.cell? ⟨w.heap.size, 2, none⟩ = some (.bool false) := fun z => (z.prev _ lt1).trans (k2 x0)
      have d2 : ∀ z : Wb (x0.at.alloc (.cells #[.bool false, .bool false, .int .u64 o, .bool u, .bool r, .bool s, .bool q] 118)), z.at.frozen? ⟨w.heap.size, 2, none⟩ = false := fun z => (z.prevf _ lt1).trans (c2 x0)
      have MB := Lib.hid (fun (z : Wb (x0.at.alloc (.cells #[.bool false, .bool false, .int .u64 o, .bool u, .bool r, .bool s, .bool q] 118))) => ((KB.out x0).trans ((((Below.refl _ _).alloc (Nat.le_refl _) _).trans (z.bel.mono (by simp))).mono (by omega)) : Below w.heap.size w z.at))
      go_upto_region 2 with fail
      obtain ⟨y0, hy⟩ : ∃ y : Wb (x0.at.alloc (.cells #[.bool false, .bool false, .int .u64 o, .bool u, .bool r, .bool s, .bool q] 118)), (x0.at.alloc (.cells #[.bool false, .bool false, .int .u64 o, .bool u, .bool r, .bool s, .bool q] 118)) = y.at := ⟨⟨_, Below.refl _ _⟩, rfl⟩
      rw [hy]
      clear hy
      go_wp2
      refine bodyPost_ret (v := .tuple #[GrW.fv 3 1 false, .int .u64 0, .bool false]) (by simp [results, Try.results45, go_sem, GrW.fv, *]) rfl ⟨by simp, ?_⟩
      repeat' (first | (with_reducible exact MB.out y0) | (with_reducible refine Below.setCell ?_ ?_ _) | (simp; done) | (simp; omega))
    | true =>
      go_enter Try.func45, Try.ntmps45
      go_wp2_with fail
      refine (DF.out _).mono ?_
      rintro e w1 ⟨rfl, g1⟩
      obtain ⟨x0, rfl⟩ := Wb.start g1
      clear g1
      have lt1 : w.heap.size < x0.at.heap.size := by have := x0.size; simp at this; omega
      have m0 : ∀ z : Wb (x0.at.alloc (.cells #[.bool false, .bool true, .int .u64 o, .bool u, .bool r, .bool s, .bool q] 118)), z.at.cell? ⟨x0.at.heap.size, 0, none⟩ = some (.bool false) := fun z => by rw [z.cell _ (by simp)]; simp [World.cell?_alloc_new]
      have m1 : ∀ z : Wb (x0.at.alloc (.cells #[.bool false, .bool true, .int .u64 o, .bool u, .bool r, .bool s, .bool q] 118)), z.at.cell? ⟨x0.at.heap.size, 1, none⟩ = some (.bool true) := fun z => by rw [z.cell _ (by simp)]; simp [World.cell?_alloc_new]
      have m2 : ∀ z : Wb (x0.at.alloc (.cells #[.bool false, .bool true, .int .u64 o, .bool u, .bool r, .bool s, .bool q] 118)), z.at.cell? ⟨x0.at.heap.size, 2, none⟩ = some (.int .u64 o) := fun z => by rw [z.cell _ (by simp)]; simp [World.cell?_alloc_new]
      have p0 : ∀ z : Wb (x0.at.alloc (.cells #[.bool false, .bool true, .int .u64 o, .bool u, .bool r, .bool s, .bool q] 118)), z.at.cell? ⟨w.heap.size, 0, none⟩ = some (.int .i64 0) := fun z => (z.prev _ lt1).trans (k0 x0)
      have d0 : ∀ z : Wb (x0.at.alloc (.cells #[.bool false, .bool true, .int .u64 o, .bool u, .bool r, .bool s, .bool q] 118)), z.at.frozen? ⟨w.heap.size, 0, none⟩ = false := fun z => (z.prevf _ lt1).trans (c0 x0)
      have p1 : ∀ z : Wb (x0.at.alloc (.cells #[.bool false, .bool true, .int .u64 o, .bool u, .bool r, .bool s, .bool q] 118)), z.at.cell? ⟨w.heap.size, 1, none⟩ = some (.int .i64 0) := fun z => (z.prev _ lt1).trans (k1 x0)
      have d1 : ∀ z : Wb (x0.at.alloc (.cells #[.bool false, .bool true, .int .u64 o, .bool u, .bool r, .bool s, .bool q] 118)), z.at.frozen? ⟨w.heap.size, 1, none⟩ = false := fun z => (z.prevf _ lt1).trans (c1 x0)
      have p2 : ∀ z : Wb (x0.at.alloc (.cells #[.bool false, .bool true, .int .u64 o, .bool u, .bool r, .bool s, .bool q] 118)), z.at.cell? ⟨w.heap.size, 2, none⟩ = some (.bool false) := fun z => (z.prev _ lt1).trans (k2 x0)
      have d2 : ∀ z : Wb (x0.at.alloc (.cells #[.bool false, .bool true, .int .u64 o, .bool u, .bool r, .bool s, .bool q] 118)), z.at.frozen? ⟨w.heap.size, 2, none⟩ = false := fun z => (z.prevf _ lt1).trans (c2 x0)
      have MB := Lib.hid (fun (z : Wb (x0.at.alloc (.cells #[.bool false, .bool true, .int .u64 o, .bool u, .bool r, .bool s, .bool q] 118))) => ((KB.out x0).trans ((((Below.refl _ _).alloc (Nat.le_refl _) _).trans (z.bel.mono (by simp))).mono (by omega)) : Below w.heap.size w z.at))
      go_upto_region 2 with fail
      obtain ⟨y0, hy⟩ : ∃ y : Wb (x0.at.alloc (.cells #[.bool false, .bool true, .int .u64 o, .bool u, .bool r, .bool s, .bool q] 118)), (x0.at.alloc (.cells #[.bool false, .bool true, .int .u64 o, .bool u, .bool r, .bool s, .bool q] 118)) = y.at := ⟨⟨_, Below.refl _ _⟩, rfl⟩
      rw [hy]
      clear hy
      go_wp2
      refine bodyPost_ret (v := .tuple #[GrW.fv 3 1 false, .int .u64 0, .bool false]) (by simp [results, Try.results45, go_sem, GrW.fv, *]) rfl ⟨by simp, ?_⟩
      repeat' (first | (with_reducible exact MB.out y0) | (with_reducible refine Below.setCell ?_ ?_ _) | (simp; done) | (simp; omega))
  | true =>
    cases t with
    | false =>
      go_enter Try.func45, Try.ntmps45
      go_wp2_with fail
      refine (DF.out _).mono ?_
      rintro e w1 ⟨rfl, g1⟩
      obtain ⟨x0, rfl⟩ := Wb.start g1
      clear g1
      have lt1 : w.heap.size < x0.at.heap.size := by have := x0.size; simp at this; omega
      have m0 : ∀ z : Wb (x0.at.alloc (.cells #[.bool true, .bool false, .int .u64 o, .bool u, .bool r, .bool s, .bool q] 118)), z.at.cell? ⟨x0.at.heap.size, 0, none⟩ = some (.bool true) := fun z => by rw [z.cell _ (by simp)]; simp [World.cell?_alloc_new]
      have m1 : ∀ z : Wb (x0.at.alloc (.cells #[.bool true, .bool false, .int .u64 o, .bool u, .bool r, .bool s, .bool q] 118)), z.at.cell? ⟨x0.at.heap.size, 1, none⟩ = some (.bool false) := fun z => by rw [z.cell _ (by simp)]; simp [World.cell?_alloc_new]
      have m2 : ∀ z : Wb (x0.at.alloc (.cells #[.bool true, .bool false, .int .u64 o, .bool u, .bool r, .bool s, .bool q] 118)), z.at.cell? ⟨x0.at.heap.size, 2, none⟩ = some (.int .u64 o) := fun z => by rw [z.cell _ (by simp)]; simp [World.cell?_alloc_new]
      have p0 : ∀ z : Wb (x0.at.alloc (.cells #[.bool true, .bool false, .int .u64 o, .bool u, .bool r, .bool s, .bool q] 118)), z.at.cell? ⟨w.heap.size, 0, none⟩ = some (.int .i64 0) := fun z => (z.prev _ lt1).trans (k0 x0)
      have d0 : ∀ z : Wb (x0.at.alloc (.cells #[.bool true, .bool false, .int .u64 o, .bool u, .bool r, .bool s, .bool q] 118)), z.at.frozen? ⟨w.heap.size, 0, none⟩ = false := fun z => (z.prevf _ lt1).trans (c0 x0)
      have p1 : ∀ z : Wb (x0.at.alloc (.cells #[.bool true, .bool false, .int .u64 o, .bool u, .bool r, .bool s, .bool q] 118)), z.at.cell? ⟨w.heap.size, 1, none⟩ = some (.int .i64 0) := fun z => (z.prev _ lt1).trans (k1 x0)
      have d1 : ∀ z : Wb (x0.at.alloc (.cells #[.bool true, .bool false, .int .u64 o, .bool u, .bool r, .bool s, .bool q] 118)), z.at.frozen? ⟨w.heap.size, 1, none⟩ = false := fun z => (z.prevf _ lt1).trans (c1 x0)
      have p2 : ∀ z : Wb (x0.at.alloc (.cells #[.bool true, .bool false, .int .u64 o, .bool u, .bool r, .bool s, .bool q] 118)), z.at.cell? ⟨w.heap.size, 2, none⟩ = some (.bool false) := fun z => (z.prev _ lt1).trans (k2 x0)
      have d2 : ∀ z : Wb (x0.at.alloc (.cells #[.bool true, .bool false, .int .u64 o, .bool u, .bool r, .bool s, .bool q] 118)), z.at.frozen? ⟨w.heap.size, 2, none⟩ = false := fun z => (z.prevf _ lt1).trans (c2 x0)
      have MB := Lib.hid (fun (z : Wb (x0.at.alloc (.cells #[.bool true, .bool false, .int .u64 o, .bool u, .bool r, .bool s, .bool q] 118))) => ((KB.out x0).trans ((((Below.refl _ _).alloc (Nat.le_refl _) _).trans (z.bel.mono (by simp))).mono (by omega)) : Below w.heap.size w z.at))
      go_upto_region 2 with fail
      obtain ⟨y0, hy⟩ : ∃ y : Wb (x0.at.alloc (.cells #[.bool true, .bool false, .int .u64 o, .bool u, .bool r, .bool s, .bool q] 118)), (x0.at.alloc (.cells #[.bool true, .bool false, .int .u64 o, .bool u, .bool r, .bool s, .bool q] 118)) = y.at := ⟨⟨_, Below.refl _ _⟩, rfl⟩
      rw [hy]
      clear hy
      go_wp2
      refine bodyPost_ret (v := .tuple #[GrW.fv 0 0 false, .int .u64 0, .bool false]) (by simp [results, Try.results45, go_sem, GrW.fv, *]) rfl ⟨by simp, ?_⟩
      repeat' (first | (with_reducible exact MB.out y0) | (with_reducible refine Below.setCell ?_ ?_ _) | (simp; done) | (simp; omega))
    | true =>
      go_enter Try.func45, Try.ntmps45
      go_wp2_with fail
      refine (DF.out _).mono ?_
      rintro e w1 ⟨rfl, g1⟩
      obtain ⟨x0, rfl⟩ := Wb.start g1
      clear g1
      have lt1 : w.heap.size < x0.at.heap.size := by have := x0.size; simp at this; omega
      have m0 : ∀ z : Wb (x0.at.alloc (.cells #[.bool true, .bool true, .int .u64 o, .bool u, .bool r, .bool s, .bool q] 118)), z.at.cell? ⟨x0.at.heap.size, 0, none⟩ = some (.bool true) := fun z => by rw [z.cell _ (by simp)]; simp [World.cell?_alloc_new]
      have m1 : ∀ z : Wb (x0.at.alloc (.cells #[.bool true, .bool true, .int .u64 o, .bool u, .bool r, .bool s, .bool q] 118)), z.at.cell? ⟨x0.at.heap.size, 1, none⟩ = some (.bool true) := fun z => by rw [z.cell _ (by simp)]; simp [World.cell?_alloc_new]
      have m2 : ∀ z : Wb (x0.at.alloc (.cells #[.bool true, .bool true, .int .u64 o, .bool u, .bool r, .bool s, .bool q] 118)), z.at.cell? ⟨x0.at.heap.size, 2, none⟩ = some (.int .u64 o) := fun z => by rw [z.cell _ (by simp)]; simp [World.cell?_alloc_new]
      have p0 : ∀ z : Wb (x0.at.alloc (.cells #[.bool true, .bool true, .int .u64 o, .bool u, .bool r, .bool s, .bool q] 118)), z.at.cell? ⟨w.heap.size, 0, none⟩ = some (.int .i64 0) := fun z => (z.prev _ lt1).trans (k0 x0)
      have d0 : ∀ z : Wb (x0.at.alloc (.cells #[.bool true, .bool true, .int .u64 o, .bool u, .bool r, .bool s, .bool q] 118)), z.at.frozen? ⟨w.heap.size, 0, none⟩ = false := fun z => (z.prevf _ lt1).trans (c0 x0)
      have p1 : ∀ z : Wb (x0.at.alloc (.cells #[.bool true, .bool true, .int .u64 o, .bool u, .bool r, .bool s, .bool q] 118)), z.at.cell? ⟨w.heap.size, 1, none⟩ = some (.int .i64 0) := fun z => (z.prev _ lt1).trans (k1 x0)
      have d1 : ∀ z : Wb (x0.at.alloc (.cells #[.bool true, .bool true, .int .u64 o, .bool u, .bool r, .bool s, .bool q] 118)), z.at.frozen? ⟨w.heap.size, 1, none⟩ = false := fun z => (z.prevf _ lt1).trans (c1 x0)
      have p2 : ∀ z : Wb (x0.at.alloc (.cells #[.bool true, .bool true, .int .u64 o, .bool u, .bool r, .bool s, .bool q] 118)), z.at.cell? ⟨w.heap.size, 2, none⟩ = some (.bool false) := fun z => (z.prev _ lt1).trans (k2 x0)
      have d2 : ∀ z : Wb (x0.at.alloc (.cells #[.bool true, .bool true, .int .u64 o, .bool u, .bool r, .bool s, .bool q] 118)), z.at.frozen? ⟨w.heap.size, 2, none⟩ = false := fun z => (z.prevf _ lt1).trans (c2 x0)
      have MB := Lib.hid (fun (z : Wb (x0.at.alloc (.cells #[.bool true, .bool true, .int .u64 o, .bool u, .bool r, .bool s, .bool q] 118))) => ((KB.out x0).trans ((((Below.refl _ _).alloc (Nat.le_refl _) _).trans (z.bel.mono (by simp))).mono (by omega)) : Below w.heap.size w z.at))
      go_upto_region 2 with fail
      obtain ⟨y0, hy⟩ : ∃ y : Wb (x0.at.alloc (.cells #[.bool true, .bool true, .int .u64 o, .bool u, .bool r, .bool s, .bool q] 118)), (x0.at.alloc (.cells #[.bool true, .bool true, .int .u64 o, .bool u, .bool r, .bool s, .bool q] 118)) = y.at := ⟨⟨_, Below.refl _ _⟩, rfl⟩
      rw [hy]
      clear hy
      go_wp2_with fail
      refine (SL.out _).mono ?_
      rintro e w2 ⟨rfl, g2⟩
      obtain ⟨y1, rfl⟩ := Wb.next g2
      clear g2
      go_wp2
      refine bodyPost_ret (v := .tuple #[GrW.fv 0 0 false, .int .u64 a, .bool true]) (by simp [results, Try.results45, go_sem, GrW.fv, *]) rfl ⟨by simp, ?_⟩
      repeat' (first | (with_reducible exact MB.out y1) | (with_reducible refine Below.setCell ?_ ?_ _) | (simp; done) | (simp; omega))
end Go.Proofs.Ytnpgpbcpgniloaa
