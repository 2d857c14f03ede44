/-
  Layer 7, the walks: the page's own Decode.
-/
import Derived.Test.YteiokenijmaloaaDg
import Derived.Test.YteiokenijmaloaaFs
set_option linter.unusedSimpArgs false
set_option linter.unusedVariables false
namespace Go.Proofs.Yteiokenijmaloaa
open Go.RowKit

theorem Wb.old {w1 : World} {o : Obj} (y : Wb (w1.alloc o)) (a : Addr) (h : a.block < w1.heap.size) : y.at.cell? a = w1.cell? a := by
  rw [y.cell a (by simp; omega)]
  exact ((Below.refl w1.heap.size w1).alloc (Nat.le_refl _) o).cell h
theorem Wb.frozen {W : World} (x : Wb W) (a : Addr) (h : a.block < W.heap.size) : x.at.frozen? a = W.frozen? a := x.bel.frozen (p := a) h
theorem Wb.oldf {w1 : World} {o : Obj} (y : Wb (w1.alloc o)) (a : Addr) (h : a.block < w1.heap.size) : y.at.frozen? a = w1.frozen? a := by
  rw [y.frozen a (by simp; omega)]
  exact ((Below.refl w1.heap.size w1).alloc (Nat.le_refl _) o).frozen h

theorem box7f (w : World) (v t : Bool) (o : Int) (u r s q : Bool) (W : World) (hW : W = w.alloc (.cells #[.bool v, .bool t, .int .u64 o, .bool u, .bool r, .bool s, .bool q] 66)) (i : Nat) : ∀ x : Wb W, x.at.frozen? ⟨w.heap.size, i, none⟩ = false := by
  subst hW
  intro x
  rw [x.frozen _ (by simp)]
  unfold World.frozen?
  rw [heap_alloc_new]
  simp

set_option maxHeartbeats 800000 in
theorem rbit_any (x n : Int) (w : World) (h0 : 0 ≤ x) (h1 : x < 18446744073709551616) :
    Calls Try.prog 66 #[.int .u64 x, .int .i64 n] w fun e w' => e = .returned (.bool (GrF.bitB x n)) ∧ Below w.heap.size w w' := by
  have H1 := Lib.hid h1
  clear h1
  go_enter Try.func66, Try.ntmps66
  go_wp2_with fail
  refine (rget_any x n n _ h0 H1.out).mono ?_
  rintro e w1 ⟨rfl, d1⟩
  go_wp2
  go_ret
  exact ⟨rfl, d1⟩

set_option maxHeartbeats 1600000 in
theorem rdecode_no (x l : Int) (w : World) (h0 : 0 ≤ x) (h1 : x < 18446744073709551616) (h : GrF.bitB x 0 = false ∨ (GrF.bitB x 0 = true ∧ (GrF.get x 47 32 != 0) = true)) :
    Calls Try.prog 62 #[.int .u64 x, .int .i64 l] w fun e w' => e = .returned (dv GrD.zero) ∧ Below w.heap.size w w' := by
  have H1 := Lib.hid h1
  clear h1
  obtain ⟨k0, k1, k2, k3, k4, k5, k6, kb⟩ := box7 w false false 0 false false false false _ rfl
  have f0 := box7f w false false 0 false false false false _ rfl 0
  have f1 := box7f w false false 0 false false false false _ rfl 1
  have f2 := box7f w false false 0 false false false false _ rfl 2
  have f3 := box7f w false false 0 false false false false _ rfl 3
  have f4 := box7f w false false 0 false false false false _ rfl 4
  have f5 := box7f w false false 0 false false false false _ rfl 5
  have f6 := box7f w false false 0 false false false false _ rfl 6
  have KB := Lib.hid kb
  clear kb
  rcases h with b0 | ⟨b0, b47⟩
  · go_enter Try.func62, Try.ntmps62
    go_wp2_with fail
    refine (rbit_any x 0 _ h0 H1.out).mono ?_
    rintro e w1 ⟨rfl, d1⟩
    obtain ⟨x0, rfl⟩ := Wb.start d1
    clear d1
    rw [b0]
    go_wp2
    refine bodyPost_ret (v := dv GrD.zero) (by simp [results, Try.results62, go_sem, dv, GrD.zero, *]) rfl ⟨rfl, ?_⟩
    repeat' (first | (with_reducible exact KB.out x0) | (with_reducible refine Below.setCell ?_ ?_ _) | (simp; done))
  · go_enter Try.func62, Try.ntmps62
    go_wp2_with fail
    refine (rbit_any x 0 _ h0 H1.out).mono ?_
    rintro e w1 ⟨rfl, d1⟩
    obtain ⟨x0, rfl⟩ := Wb.start d1
    clear d1
    rw [b0]
    go_wp2_with fail
    refine (rget_any x 47 32 _ h0 H1.out).mono ?_
    rintro e w1 ⟨rfl, d1⟩
    obtain ⟨x1, rfl⟩ := Wb.next d1
    clear d1
    go_wp2
    refine bodyPost_ret (v := dv GrD.zero) (by simp [results, Try.results62, go_sem, dv, GrD.zero, *]) rfl ⟨rfl, ?_⟩
    repeat' (first | (with_reducible exact KB.out x1) | (with_reducible refine Below.setCell ?_ ?_ _) | (simp; done))

set_option maxHeartbeats 3200000 in
theorem rdecode_table (x : Int) (w : World) (h0 : 0 ≤ x) (h1 : x < 18446744073709551616) (b0 : GrF.bitB x 0 = true) (b47 : (GrF.get x 47 32 != 0) = false) (b1 : GrF.bitB x 1 = true) :
    Calls Try.prog 62 #[.int .u64 x, .int .i64 1] w fun e w' => e = .returned (dv ⟨true, true, GrF.get x 31 12 * 4096, false, false, false, false⟩) ∧ Below w.heap.size w w' := by
  have H1 := Lib.hid h1
  clear h1
  obtain ⟨t1, t2, t3, t4⟩ := two_words h0
  obtain ⟨k0, k1, k2, k3, k4, k5, k6, kb⟩ := box7 w false false 0 false false false false _ rfl
  have f0 := box7f w false false 0 false false false false _ rfl 0
  have f1 := box7f w false false 0 false false false false _ rfl 1
  have f2 := box7f w false false 0 false false false false _ rfl 2
  have f3 := box7f w false false 0 false false false false _ rfl 3
  have f4 := box7f w false false 0 false false false false _ rfl 4
  have f5 := box7f w false false 0 false false false false _ rfl 5
  have f6 := box7f w false false 0 false false false false _ rfl 6
  have KB := Lib.hid kb
  clear kb
  go_enter Try.func62, Try.ntmps62
  go_wp2_with fail
  refine (rbit_any x 0 _ h0 H1.out).mono ?_
  rintro e w1 ⟨rfl, d1⟩
  obtain ⟨x0, rfl⟩ := Wb.start d1
  clear d1
  rw [b0]
  go_wp2_with fail
  refine (rget_any x 47 32 _ h0 H1.out).mono ?_
  rintro e w1 ⟨rfl, d1⟩
  obtain ⟨x1, rfl⟩ := Wb.next d1
  clear d1
  go_wp2_with fail
  refine (rbit_any x 10 _ h0 H1.out).mono ?_
  rintro e w1 ⟨rfl, d1⟩
  obtain ⟨x2, rfl⟩ := Wb.next d1
  clear d1
  go_wp2_with fail
  refine (rbit_any x 7 _ h0 H1.out).mono ?_
  rintro e w1 ⟨rfl, d1⟩
  obtain ⟨x3, rfl⟩ := Wb.next d1
  clear d1
  go_wp2_with fail
  refine (rbit_any x 6 _ h0 H1.out).mono ?_
  rintro e w1 ⟨rfl, d1⟩
  obtain ⟨x4, rfl⟩ := Wb.next d1
  clear d1
  go_wp2_with fail
  refine (rbit_any x 11 _ h0 H1.out).mono ?_
  rintro e w1 ⟨rfl, d1⟩
  obtain ⟨x5, rfl⟩ := Wb.next d1
  clear d1
  obtain ⟨m0, m1, m2, m3, m4, m5, m6, mb⟩ := box7 x5.at true false 0 (GrF.bitB x 10) (GrF.bitB x 7) (GrF.bitB x 6) (GrF.bitB x 11) _ rfl
  have g2 := box7f x5.at true false 0 (GrF.bitB x 10) (GrF.bitB x 7) (GrF.bitB x 6) (GrF.bitB x 11) _ rfl 2
  have lt5 : w.heap.size < x5.at.heap.size := by have := x5.size; simp at this; omega
  have o0 : ∀ y : Wb (x5.at.alloc (.cells #[.bool true, .bool false, .int .u64 0, .bool (GrF.bitB x 10), .bool (GrF.bitB x 7), .bool (GrF.bitB x 6), .bool (GrF.bitB x 11)] 66)), y.at.cell? ⟨w.heap.size, 0, none⟩ = some (.bool false) := fun y => (y.old _ lt5).trans (k0 x5)
  have q0 : ∀ y : Wb (x5.at.alloc (.cells #[.bool true, .bool false, .int .u64 0, .bool (GrF.bitB x 10), .bool (GrF.bitB x 7), .bool (GrF.bitB x 6), .bool (GrF.bitB x 11)] 66)), y.at.frozen? ⟨w.heap.size, 0, none⟩ = false := fun y => (y.oldf _ lt5).trans (f0 x5)
  have o1 : ∀ y : Wb (x5.at.alloc (.cells #[.bool true, .bool false, .int .u64 0, .bool (GrF.bitB x 10), .bool (GrF.bitB x 7), .bool (GrF.bitB x 6), .bool (GrF.bitB x 11)] 66)), y.at.cell? ⟨w.heap.size, 1, none⟩ = some (.bool false) := fun y => (y.old _ lt5).trans (k1 x5)
  have q1 : ∀ y : Wb (x5.at.alloc (.cells #[.bool true, .bool false, .int .u64 0, .bool (GrF.bitB x 10), .bool (GrF.bitB x 7), .bool (GrF.bitB x 6), .bool (GrF.bitB x 11)] 66)), y.at.frozen? ⟨w.heap.size, 1, none⟩ = false := fun y => (y.oldf _ lt5).trans (f1 x5)
  have o2 : ∀ y : Wb (x5.at.alloc (.cells #[.bool true, .bool false, .int .u64 0, .bool (GrF.bitB x 10), .bool (GrF.bitB x 7), .bool (GrF.bitB x 6), .bool (GrF.bitB x 11)] 66)), y.at.cell? ⟨w.heap.size, 2, none⟩ = some (.int .u64 0) := fun y => (y.old _ lt5).trans (k2 x5)
  have q2 : ∀ y : Wb (x5.at.alloc (.cells #[.bool true, .bool false, .int .u64 0, .bool (GrF.bitB x 10), .bool (GrF.bitB x 7), .bool (GrF.bitB x 6), .bool (GrF.bitB x 11)] 66)), y.at.frozen? ⟨w.heap.size, 2, none⟩ = false := fun y => (y.oldf _ lt5).trans (f2 x5)
  have o3 : ∀ y : Wb (x5.at.alloc (.cells #[.bool true, .bool false, .int .u64 0, .bool (GrF.bitB x 10), .bool (GrF.bitB x 7), .bool (GrF.bitB x 6), .bool (GrF.bitB x 11)] 66)), y.at.cell? ⟨w.heap.size, 3, none⟩ = some (.bool false) := fun y => (y.old _ lt5).trans (k3 x5)
  have q3 : ∀ y : Wb (x5.at.alloc (.cells #[.bool true, .bool false, .int .u64 0, .bool (GrF.bitB x 10), .bool (GrF.bitB x 7), .bool (GrF.bitB x 6), .bool (GrF.bitB x 11)] 66)), y.at.frozen? ⟨w.heap.size, 3, none⟩ = false := fun y => (y.oldf _ lt5).trans (f3 x5)
  have o4 : ∀ y : Wb (x5.at.alloc (.cells #[.bool true, .bool false, .int .u64 0, .bool (GrF.bitB x 10), .bool (GrF.bitB x 7), .bool (GrF.bitB x 6), .bool (GrF.bitB x 11)] 66)), y.at.cell? ⟨w.heap.size, 4, none⟩ = some (.bool false) := fun y => (y.old _ lt5).trans (k4 x5)
  have q4 : ∀ y : Wb (x5.at.alloc (.cells #[.bool true, .bool false, .int .u64 0, .bool (GrF.bitB x 10), .bool (GrF.bitB x 7), .bool (GrF.bitB x 6), .bool (GrF.bitB x 11)] 66)), y.at.frozen? ⟨w.heap.size, 4, none⟩ = false := fun y => (y.oldf _ lt5).trans (f4 x5)
  have o5 : ∀ y : Wb (x5.at.alloc (.cells #[.bool true, .bool false, .int .u64 0, .bool (GrF.bitB x 10), .bool (GrF.bitB x 7), .bool (GrF.bitB x 6), .bool (GrF.bitB x 11)] 66)), y.at.cell? ⟨w.heap.size, 5, none⟩ = some (.bool false) := fun y => (y.old _ lt5).trans (k5 x5)
  have q5 : ∀ y : Wb (x5.at.alloc (.cells #[.bool true, .bool false, .int .u64 0, .bool (GrF.bitB x 10), .bool (GrF.bitB x 7), .bool (GrF.bitB x 6), .bool (GrF.bitB x 11)] 66)), y.at.frozen? ⟨w.heap.size, 5, none⟩ = false := fun y => (y.oldf _ lt5).trans (f5 x5)
  have o6 : ∀ y : Wb (x5.at.alloc (.cells #[.bool true, .bool false, .int .u64 0, .bool (GrF.bitB x 10), .bool (GrF.bitB x 7), .bool (GrF.bitB x 6), .bool (GrF.bitB x 11)] 66)), y.at.cell? ⟨w.heap.size, 6, none⟩ = some (.bool false) := fun y => (y.old _ lt5).trans (k6 x5)
  have q6 : ∀ y : Wb (x5.at.alloc (.cells #[.bool true, .bool false, .int .u64 0, .bool (GrF.bitB x 10), .bool (GrF.bitB x 7), .bool (GrF.bitB x 6), .bool (GrF.bitB x 11)] 66)), y.at.frozen? ⟨w.heap.size, 6, none⟩ = false := fun y => (y.oldf _ lt5).trans (f6 x5)
  have MB : ∀ y : Wb (x5.at.alloc (.cells #[.bool true, .bool false, .int .u64 0, .bool (GrF.bitB x 10), .bool (GrF.bitB x 7), .bool (GrF.bitB x 6), .bool (GrF.bitB x 11)] 66)), Below w.heap.size w y.at := fun y => (KB.out x5).trans ((mb y).mono (by omega))
  have MB' := Lib.hid MB
  have NE : (x5.at.heap.size == w.heap.size) = false := by simp; omega
  have NE2 : x5.at.heap.size ≠ w.heap.size := by omega
  have NE3 : w.heap.size ≠ x5.at.heap.size := by omega
  clear mb MB
  go_wp2_with fail
  refine (rbit_any x 1 _ h0 H1.out).mono ?_
  rintro e w1 ⟨rfl, d1⟩
  obtain ⟨y0, rfl⟩ := Wb.start d1
  clear d1
  rw [b1]
  go_wp2_with fail
  refine (rget_any x 31 12 _ h0 H1.out).mono ?_
  rintro e w1 ⟨rfl, d1⟩
  obtain ⟨y1, rfl⟩ := Wb.next d1
  clear d1
  go_wp2
  refine bodyPost_ret (v := dv ⟨true, true, GrF.get x 31 12 * 4096, false, false, false, false⟩) (by simp [results, Try.results62, go_sem, dv, GrD.zero, *]) rfl ⟨rfl, ?_⟩
  repeat' (first | (with_reducible exact MB'.out y1) | (with_reducible refine Below.setCell ?_ ?_ _) | (simp; done) | (simp; omega))

set_option maxHeartbeats 3200000 in
theorem rdecode_block (x : Int) (w : World) (h0 : 0 ≤ x) (h1 : x < 18446744073709551616) (b0 : GrF.bitB x 0 = true) (b47 : (GrF.get x 47 32 != 0) = false) (b1 : GrF.bitB x 1 = false) :
    Calls Try.prog 62 #[.int .u64 x, .int .i64 1] w fun e w' => e = .returned (dv ⟨true, false, GrF.get x 31 21 * 2097152, GrF.bitB x 10, GrF.bitB x 7, GrF.bitB x 6, GrF.bitB x 11⟩) ∧ Below w.heap.size w w' := by
  have H1 := Lib.hid h1
  clear h1
  obtain ⟨t1, t2, t3, t4⟩ := two_words h0
  obtain ⟨k0, k1, k2, k3, k4, k5, k6, kb⟩ := box7 w false false 0 false false false false _ rfl
  have f0 := box7f w false false 0 false false false false _ rfl 0
  have f1 := box7f w false false 0 false false false false _ rfl 1
  have f2 := box7f w false false 0 false false false false _ rfl 2
  have f3 := box7f w false false 0 false false false false _ rfl 3
  have f4 := box7f w false false 0 false false false false _ rfl 4
  have f5 := box7f w false false 0 false false false false _ rfl 5
  have f6 := box7f w false false 0 false false false false _ rfl 6
  have KB := Lib.hid kb
  clear kb
  go_enter Try.func62, Try.ntmps62
  go_wp2_with fail
  refine (rbit_any x 0 _ h0 H1.out).mono ?_
  rintro e w1 ⟨rfl, d1⟩
  obtain ⟨x0, rfl⟩ := Wb.start d1
  clear d1
  rw [b0]
  go_wp2_with fail
  refine (rget_any x 47 32 _ h0 H1.out).mono ?_
  rintro e w1 ⟨rfl, d1⟩
  obtain ⟨x1, rfl⟩ := Wb.next d1
  clear d1
  go_wp2_with fail
  refine (rbit_any x 10 _ h0 H1.out).mono ?_
  rintro e w1 ⟨rfl, d1⟩
  obtain ⟨x2, rfl⟩ := Wb.next d1
  clear d1
  go_wp2_with fail
  refine (rbit_any x 7 _ h0 H1.out).mono ?_
  rintro e w1 ⟨rfl, d1⟩
  obtain ⟨x3, rfl⟩ := Wb.next d1
  clear d1
  go_wp2_with fail
  refine (rbit_any x 6 _ h0 H1.out).mono ?_
  rintro e w1 ⟨rfl, d1⟩
  obtain ⟨x4, rfl⟩ := Wb.next d1
  clear d1
  go_wp2_with fail
  refine (rbit_any x 11 _ h0 H1.out).mono ?_
  rintro e w1 ⟨rfl, d1⟩
  obtain ⟨x5, rfl⟩ := Wb.next d1
  clear d1
  obtain ⟨m0, m1, m2, m3, m4, m5, m6, mb⟩ := box7 x5.at true false 0 (GrF.bitB x 10) (GrF.bitB x 7) (GrF.bitB x 6) (GrF.bitB x 11) _ rfl
  have g2 := box7f x5.at true false 0 (GrF.bitB x 10) (GrF.bitB x 7) (GrF.bitB x 6) (GrF.bitB x 11) _ rfl 2
  have lt5 : w.heap.size < x5.at.heap.size := by have := x5.size; simp at this; omega
  have o0 : ∀ y : Wb (x5.at.alloc (.cells #[.bool true, .bool false, .int .u64 0, .bool (GrF.bitB x 10), .bool (GrF.bitB x 7), .bool (GrF.bitB x 6), .bool (GrF.bitB x 11)] 66)), y.at.cell? ⟨w.heap.size, 0, none⟩ = some (.bool false) := fun y => (y.old _ lt5).trans (k0 x5)
  have q0 : ∀ y : Wb (x5.at.alloc (.cells #[.bool true, .bool false, .int .u64 0, .bool (GrF.bitB x 10), .bool (GrF.bitB x 7), .bool (GrF.bitB x 6), .bool (GrF.bitB x 11)] 66)), y.at.frozen? ⟨w.heap.size, 0, none⟩ = false := fun y => (y.oldf _ lt5).trans (f0 x5)
  have o1 : ∀ y : Wb (x5.at.alloc (.cells #[.bool true, .bool false, .int .u64 0, .bool (GrF.bitB x 10), .bool (GrF.bitB x 7), .bool (GrF.bitB x 6), .bool (GrF.bitB x 11)] 66)), y.at.cell? ⟨w.heap.size, 1, none⟩ = some (.bool false) := fun y => (y.old _ lt5).trans (k1 x5)
  have q1 : ∀ y : Wb (x5.at.alloc (.cells #[.bool true, .bool false, .int .u64 0, .bool (GrF.bitB x 10), .bool (GrF.bitB x 7), .bool (GrF.bitB x 6), .bool (GrF.bitB x 11)] 66)), y.at.frozen? ⟨w.heap.size, 1, none⟩ = false := fun y => (y.oldf _ lt5).trans (f1 x5)
  have o2 : ∀ y : Wb (x5.at.alloc (.cells #[.bool true, .bool false, .int .u64 0, .bool (GrF.bitB x 10), .bool (GrF.bitB x 7), .bool (GrF.bitB x 6), .bool (GrF.bitB x 11)] 66)), y.at.cell? ⟨w.heap.size, 2, none⟩ = some (.int .u64 0) := fun y => (y.old _ lt5).trans (k2 x5)
  have q2 : ∀ y : Wb (x5.at.alloc (.cells #[.bool true, .bool false, .int .u64 0, .bool (GrF.bitB x 10), .bool (GrF.bitB x 7), .bool (GrF.bitB x 6), .bool (GrF.bitB x 11)] 66)), y.at.frozen? ⟨w.heap.size, 2, none⟩ = false := fun y => (y.oldf _ lt5).trans (f2 x5)
  have o3 : ∀ y : Wb (x5.at.alloc (.cells #[.bool true, .bool false, .int .u64 0, .bool (GrF.bitB x 10), .bool (GrF.bitB x 7), .bool (GrF.bitB x 6), .bool (GrF.bitB x 11)] 66)), y.at.cell? ⟨w.heap.size, 3, none⟩ = some (.bool false) := fun y => (y.old _ lt5).trans (k3 x5)
  have q3 : ∀ y : Wb (x5.at.alloc (.cells #[.bool true, .bool false, .int .u64 0, .bool (GrF.bitB x 10), .bool (GrF.bitB x 7), .bool (GrF.bitB x 6), .bool (GrF.bitB x 11)] 66)), y.at.frozen? ⟨w.heap.size, 3, none⟩ = false := fun y => (y.oldf _ lt5).trans (f3 x5)
  have o4 : ∀ y : Wb (x5.at.alloc (.cells #[.bool true, .bool false, .int .u64 0, .bool (GrF.bitB x 10), .bool (GrF.bitB x 7), .bool (GrF.bitB x 6), .bool (GrF.bitB x 11)] 66)), y.at.cell? ⟨w.heap.size, 4, none⟩ = some (.bool false) := fun y => (y.old _ lt5).trans (k4 x5)
  have q4 : ∀ y : Wb (x5.at.alloc (.cells #[.bool true, .bool false, .int .u64 0, .bool (GrF.bitB x 10), .bool (GrF.bitB x 7), .bool (GrF.bitB x 6), .bool (GrF.bitB x 11)] 66)), y.at.frozen? ⟨w.heap.size, 4, none⟩ = false := fun y => (y.oldf _ lt5).trans (f4 x5)
  have o5 : ∀ y : Wb (x5.at.alloc (.cells #[.bool true, .bool false, .int .u64 0, .bool (GrF.bitB x 10), .bool (GrF.bitB x 7), .bool (GrF.bitB x 6), .bool (GrF.bitB x 11)] 66)), y.at.cell? ⟨w.heap.size, 5, none⟩ = some (.bool false) := fun y => (y.old _ lt5).trans (k5 x5)
  have q5 : ∀ y : Wb (x5.at.alloc (.cells #[.bool true, .bool false, .int .u64 0, .bool (GrF.bitB x 10), .bool (GrF.bitB x 7), .bool (GrF.bitB x 6), .bool (GrF.bitB x 11)] 66)), y.at.frozen? ⟨w.heap.size, 5, none⟩ = false := fun y => (y.oldf _ lt5).trans (f5 x5)
  have o6 : ∀ y : Wb (x5.at.alloc (.cells #[.bool true, .bool false, .int .u64 0, .bool (GrF.bitB x 10), .bool (GrF.bitB x 7), .bool (GrF.bitB x 6), .bool (GrF.bitB x 11)] 66)), y.at.cell? ⟨w.heap.size, 6, none⟩ = some (.bool false) := fun y => (y.old _ lt5).trans (k6 x5)
  have q6 : ∀ y : Wb (x5.at.alloc (.cells #[.bool true, .bool false, .int .u64 0, .bool (GrF.bitB x 10), .bool (GrF.bitB x 7), .bool (GrF.bitB x 6), .bool (GrF.bitB x 11)] 66)), y.at.frozen? ⟨w.heap.size, 6, none⟩ = false := fun y => (y.oldf _ lt5).trans (f6 x5)
  have MB : ∀ y : Wb (x5.at.alloc (.cells #[.bool true, .bool false, .int .u64 0, .bool (GrF.bitB x 10), .bool (GrF.bitB x 7), .bool (GrF.bitB x 6), .bool (GrF.bitB x 11)] 66)), Below w.heap.size w y.at := fun y => (KB.out x5).trans ((mb y).mono (by omega))
  have MB' := Lib.hid MB
  have NE : (x5.at.heap.size == w.heap.size) = false := by simp; omega
  have NE2 : x5.at.heap.size ≠ w.heap.size := by omega
  have NE3 : w.heap.size ≠ x5.at.heap.size := by omega
  clear mb MB
  go_wp2_with fail
  refine (rbit_any x 1 _ h0 H1.out).mono ?_
  rintro e w1 ⟨rfl, d1⟩
  obtain ⟨y0, rfl⟩ := Wb.start d1
  clear d1
  rw [b1]
  go_wp2_with fail
  refine (rget_any x 31 21 _ h0 H1.out).mono ?_
  rintro e w1 ⟨rfl, d1⟩
  obtain ⟨y1, rfl⟩ := Wb.next d1
  clear d1
  go_wp2
  refine bodyPost_ret (v := dv ⟨true, false, GrF.get x 31 21 * 2097152, GrF.bitB x 10, GrF.bitB x 7, GrF.bitB x 6, GrF.bitB x 11⟩) (by simp [results, Try.results62, go_sem, dv, GrD.zero, *]) rfl ⟨rfl, ?_⟩
  repeat' (first | (with_reducible exact MB'.out y1) | (with_reducible refine Below.setCell ?_ ?_ _) | (simp; done) | (simp; omega))

set_option maxHeartbeats 3200000 in
theorem rdecode_page (x : Int) (w : World) (h0 : 0 ≤ x) (h1 : x < 18446744073709551616) (b0 : GrF.bitB x 0 = true) (b47 : (GrF.get x 47 32 != 0) = false) (b1 : GrF.bitB x 1 = true) :
    Calls Try.prog 62 #[.int .u64 x, .int .i64 2] w fun e w' => e = .returned (dv ⟨true, false, GrF.get x 31 12 * 4096, GrF.bitB x 10, GrF.bitB x 7, GrF.bitB x 6, GrF.bitB x 11⟩) ∧ Below w.heap.size w w' := by
  have H1 := Lib.hid h1
  clear h1
  obtain ⟨t1, t2, t3, t4⟩ := two_words h0
  obtain ⟨k0, k1, k2, k3, k4, k5, k6, kb⟩ := box7 w false false 0 false false false false _ rfl
  have f0 := box7f w false false 0 false false false false _ rfl 0
  have f1 := box7f w false false 0 false false false false _ rfl 1
  have f2 := box7f w false false 0 false false false false _ rfl 2
  have f3 := box7f w false false 0 false false false false _ rfl 3
  have f4 := box7f w false false 0 false false false false _ rfl 4
  have f5 := box7f w false false 0 false false false false _ rfl 5
  have f6 := box7f w false false 0 false false false false _ rfl 6
  have KB := Lib.hid kb
  clear kb
  go_enter Try.func62, Try.ntmps62
  go_wp2_with fail
  refine (rbit_any x 0 _ h0 H1.out).mono ?_
  rintro e w1 ⟨rfl, d1⟩
  obtain ⟨x0, rfl⟩ := Wb.start d1
  clear d1
  rw [b0]
  go_wp2_with fail
  refine (rget_any x 47 32 _ h0 H1.out).mono ?_
  rintro e w1 ⟨rfl, d1⟩
  obtain ⟨x1, rfl⟩ := Wb.next d1
  clear d1
  go_wp2_with fail
  refine (rbit_any x 10 _ h0 H1.out).mono ?_
  rintro e w1 ⟨rfl, d1⟩
  obtain ⟨x2, rfl⟩ := Wb.next d1
  clear d1
  go_wp2_with fail
  refine (rbit_any x 7 _ h0 H1.out).mono ?_
  rintro e w1 ⟨rfl, d1⟩
  obtain ⟨x3, rfl⟩ := Wb.next d1
  clear d1
  go_wp2_with fail
  refine (rbit_any x 6 _ h0 H1.out).mono ?_
  rintro e w1 ⟨rfl, d1⟩
  obtain ⟨x4, rfl⟩ := Wb.next d1
  clear d1
  go_wp2_with fail
  refine (rbit_any x 11 _ h0 H1.out).mono ?_
  rintro e w1 ⟨rfl, d1⟩
  obtain ⟨x5, rfl⟩ := Wb.next d1
  clear d1
  obtain ⟨m0, m1, m2, m3, m4, m5, m6, mb⟩ := box7 x5.at true false 0 (GrF.bitB x 10) (GrF.bitB x 7) (GrF.bitB x 6) (GrF.bitB x 11) _ rfl
  have g2 := box7f x5.at true false 0 (GrF.bitB x 10) (GrF.bitB x 7) (GrF.bitB x 6) (GrF.bitB x 11) _ rfl 2
  have lt5 : w.heap.size < x5.at.heap.size := by have := x5.size; simp at this; omega
  have o0 : ∀ y : Wb (x5.at.alloc (.cells #[.bool true, .bool false, .int .u64 0, .bool (GrF.bitB x 10), .bool (GrF.bitB x 7), .bool (GrF.bitB x 6), .bool (GrF.bitB x 11)] 66)), y.at.cell? ⟨w.heap.size, 0, none⟩ = some (.bool false) := fun y => (y.old _ lt5).trans (k0 x5)
  have q0 : ∀ y : Wb (x5.at.alloc (.cells #[.bool true, .bool false, .int .u64 0, .bool (GrF.bitB x 10), .bool (GrF.bitB x 7), .bool (GrF.bitB x 6), .bool (GrF.bitB x 11)] 66)), y.at.frozen? ⟨w.heap.size, 0, none⟩ = false := fun y => (y.oldf _ lt5).trans (f0 x5)
  have o1 : ∀ y : Wb (x5.at.alloc (.cells #[.bool true, .bool false, .int .u64 0, .bool (GrF.bitB x 10), .bool (GrF.bitB x 7), .bool (GrF.bitB x 6), .bool (GrF.bitB x 11)] 66)), y.at.cell? ⟨w.heap.size, 1, none⟩ = some (.bool false) := fun y => (y.old _ lt5).trans (k1 x5)
  have q1 : ∀ y : Wb (x5.at.alloc (.cells #[.bool true, .bool false, .int .u64 0, .bool (GrF.bitB x 10), .bool (GrF.bitB x 7), .bool (GrF.bitB x 6), .bool (GrF.bitB x 11)] 66)), y.at.frozen? ⟨w.heap.size, 1, none⟩ = false := fun y => (y.oldf _ lt5).trans (f1 x5)
  have o2 : ∀ y : Wb (x5.at.alloc (.cells #[.bool true, .bool false, .int .u64 0, .bool (GrF.bitB x 10), .bool (GrF.bitB x 7), .bool (GrF.bitB x 6), .bool (GrF.bitB x 11)] 66)), y.at.cell? ⟨w.heap.size, 2, none⟩ = some (.int .u64 0) := fun y => (y.old _ lt5).trans (k2 x5)
  have q2 : ∀ y : Wb (x5.at.alloc (.cells #[.bool true, .bool false, .int .u64 0, .bool (GrF.bitB x 10), .bool (GrF.bitB x 7), .bool (GrF.bitB x 6), .bool (GrF.bitB x 11)] 66)), y.at.frozen? ⟨w.heap.size, 2, none⟩ = false := fun y => (y.oldf _ lt5).trans (f2 x5)
  have o3 : ∀ y : Wb (x5.at.alloc (.cells #[.bool true, .bool false, .int .u64 0, .bool (GrF.bitB x 10), .bool (GrF.bitB x 7), .bool (GrF.bitB x 6), .bool (GrF.bitB x 11)] 66)), y.at.cell? ⟨w.heap.size, 3, none⟩ = some (.bool false) := fun y => (y.old _ lt5).trans (k3 x5)
  have q3 : ∀ y : Wb (x5.at.alloc (.cells #[.bool true, .bool false, .int .u64 0, .bool (GrF.bitB x 10), .bool (GrF.bitB x 7), .bool (GrF.bitB x 6), .bool (GrF.bitB x 11)] 66)), y.at.frozen? ⟨w.heap.size, 3, none⟩ = false := fun y => (y.oldf _ lt5).trans (f3 x5)
  have o4 : ∀ y : Wb (x5.at.alloc (.cells #[.bool true, .bool false, .int .u64 0, .bool (GrF.bitB x 10), .bool (GrF.bitB x 7), .bool (GrF.bitB x 6), .bool (GrF.bitB x 11)] 66)), y.at.cell? ⟨w.heap.size, 4, none⟩ = some (.bool false) := fun y => (y.old _ lt5).trans (k4 x5)
  have q4 : ∀ y : Wb (x5.at.alloc (.cells #[.bool true, .bool false, .int .u64 0, .bool (GrF.bitB x 10), .bool (GrF.bitB x 7), .bool (GrF.bitB x 6), .bool (GrF.bitB x 11)] 66)), y.at.frozen? ⟨w.heap.size, 4, none⟩ = false := fun y => (y.oldf _ lt5).trans (f4 x5)
  have o5 : ∀ y : Wb (x5.at.alloc (.cells #[.bool true, .bool false, .int .u64 0, .bool (GrF.bitB x 10), .bool (GrF.bitB x 7), .bool (GrF.bitB x 6), .bool (GrF.bitB x 11)] 66)), y.at.cell? ⟨w.heap.size, 5, none⟩ = some (.bool false) := fun y => (y.old _ lt5).trans (k5 x5)
  have q5 : ∀ y : Wb (x5.at.alloc (.cells #[.bool true, .bool false, .int .u64 0, .bool (GrF.bitB x 10), .bool (GrF.bitB x 7), .bool (GrF.bitB x 6), .bool (GrF.bitB x 11)] 66)), y.at.frozen? ⟨w.heap.size, 5, none⟩ = false := fun y => (y.oldf _ lt5).trans (f5 x5)
  have o6 : ∀ y : Wb (x5.at.alloc (.cells #[.bool true, .bool false, .int .u64 0, .bool (GrF.bitB x 10), .bool (GrF.bitB x 7), .bool (GrF.bitB x 6), .bool (GrF.bitB x 11)] 66)), y.at.cell? ⟨w.heap.size, 6, none⟩ = some (.bool false) := fun y => (y.old _ lt5).trans (k6 x5)
  have q6 : ∀ y : Wb (x5.at.alloc (.cells #[.bool true, .bool false, .int .u64 0, .bool (GrF.bitB x 10), .bool (GrF.bitB x 7), .bool (GrF.bitB x 6), .bool (GrF.bitB x 11)] 66)), y.at.frozen? ⟨w.heap.size, 6, none⟩ = false := fun y => (y.oldf _ lt5).trans (f6 x5)
  have MB : ∀ y : Wb (x5.at.alloc (.cells #[.bool true, .bool false, .int .u64 0, .bool (GrF.bitB x 10), .bool (GrF.bitB x 7), .bool (GrF.bitB x 6), .bool (GrF.bitB x 11)] 66)), Below w.heap.size w y.at := fun y => (KB.out x5).trans ((mb y).mono (by omega))
  have MB' := Lib.hid MB
  have NE : (x5.at.heap.size == w.heap.size) = false := by simp; omega
  have NE2 : x5.at.heap.size ≠ w.heap.size := by omega
  have NE3 : w.heap.size ≠ x5.at.heap.size := by omega
  clear mb MB
  go_wp2_with fail
  refine (rbit_any x 1 _ h0 H1.out).mono ?_
  rintro e w1 ⟨rfl, d1⟩
  obtain ⟨y0, rfl⟩ := Wb.start d1
  clear d1
  rw [b1]
  go_wp2_with fail
  refine (rget_any x 31 12 _ h0 H1.out).mono ?_
  rintro e w1 ⟨rfl, d1⟩
  obtain ⟨y1, rfl⟩ := Wb.next d1
  clear d1
  go_wp2
  refine bodyPost_ret (v := dv ⟨true, false, GrF.get x 31 12 * 4096, GrF.bitB x 10, GrF.bitB x 7, GrF.bitB x 6, GrF.bitB x 11⟩) (by simp [results, Try.results62, go_sem, dv, GrD.zero, *]) rfl ⟨rfl, ?_⟩
  repeat' (first | (with_reducible exact MB'.out y1) | (with_reducible refine Below.setCell ?_ ?_ _) | (simp; done) | (simp; omega))

set_option maxHeartbeats 3200000 in
theorem rdecode_n2 (x : Int) (w : World) (h0 : 0 ≤ x) (h1 : x < 18446744073709551616) (b0 : GrF.bitB x 0 = true) (b47 : (GrF.get x 47 32 != 0) = false) (b1 : GrF.bitB x 1 = false) :
    Calls Try.prog 62 #[.int .u64 x, .int .i64 2] w fun e w' => e = .returned (dv GrD.zero) ∧ Below w.heap.size w w' := by
  have H1 := Lib.hid h1
  clear h1
  obtain ⟨t1, t2, t3, t4⟩ := two_words h0
  obtain ⟨k0, k1, k2, k3, k4, k5, k6, kb⟩ := box7 w false false 0 false false false false _ rfl
  have f0 := box7f w false false 0 false false false false _ rfl 0
  have f1 := box7f w false false 0 false false false false _ rfl 1
  have f2 := box7f w false false 0 false false false false _ rfl 2
  have f3 := box7f w false false 0 false false false false _ rfl 3
  have f4 := box7f w false false 0 false false false false _ rfl 4
  have f5 := box7f w false false 0 false false false false _ rfl 5
  have f6 := box7f w false false 0 false false false false _ rfl 6
  have KB := Lib.hid kb
  clear kb
  go_enter Try.func62, Try.ntmps62
  go_wp2_with fail
  refine (rbit_any x 0 _ h0 H1.out).mono ?_
  rintro e w1 ⟨rfl, d1⟩
  obtain ⟨x0, rfl⟩ := Wb.start d1
  clear d1
  rw [b0]
  go_wp2_with fail
  refine (rget_any x 47 32 _ h0 H1.out).mono ?_
  rintro e w1 ⟨rfl, d1⟩
  obtain ⟨x1, rfl⟩ := Wb.next d1
  clear d1
  go_wp2_with fail
  refine (rbit_any x 10 _ h0 H1.out).mono ?_
  rintro e w1 ⟨rfl, d1⟩
  obtain ⟨x2, rfl⟩ := Wb.next d1
  clear d1
  go_wp2_with fail
  refine (rbit_any x 7 _ h0 H1.out).mono ?_
  rintro e w1 ⟨rfl, d1⟩
  obtain ⟨x3, rfl⟩ := Wb.next d1
  clear d1
  go_wp2_with fail
  refine (rbit_any x 6 _ h0 H1.out).mono ?_
  rintro e w1 ⟨rfl, d1⟩
  obtain ⟨x4, rfl⟩ := Wb.next d1
  clear d1
  go_wp2_with fail
  refine (rbit_any x 11 _ h0 H1.out).mono ?_
  rintro e w1 ⟨rfl, d1⟩
  obtain ⟨x5, rfl⟩ := Wb.next d1
  clear d1
  obtain ⟨m0, m1, m2, m3, m4, m5, m6, mb⟩ := box7 x5.at true false 0 (GrF.bitB x 10) (GrF.bitB x 7) (GrF.bitB x 6) (GrF.bitB x 11) _ rfl
  have g2 := box7f x5.at true false 0 (GrF.bitB x 10) (GrF.bitB x 7) (GrF.bitB x 6) (GrF.bitB x 11) _ rfl 2
  have lt5 : w.heap.size < x5.at.heap.size := by have := x5.size; simp at this; omega
  have o0 : ∀ y : Wb (x5.at.alloc (.cells #[.bool true, .bool false, .int .u64 0, .bool (GrF.bitB x 10), .bool (GrF.bitB x 7), .bool (GrF.bitB x 6), .bool (GrF.bitB x 11)] 66)), y.at.cell? ⟨w.heap.size, 0, none⟩ = some (.bool false) := fun y => (y.old _ lt5).trans (k0 x5)
  have q0 : ∀ y : Wb (x5.at.alloc (.cells #[.bool true, .bool false, .int .u64 0, .bool (GrF.bitB x 10), .bool (GrF.bitB x 7), .bool (GrF.bitB x 6), .bool (GrF.bitB x 11)] 66)), y.at.frozen? ⟨w.heap.size, 0, none⟩ = false := fun y => (y.oldf _ lt5).trans (f0 x5)
  have o1 : ∀ y : Wb (x5.at.alloc (.cells #[.bool true, .bool false, .int .u64 0, .bool (GrF.bitB x 10), .bool (GrF.bitB x 7), .bool (GrF.bitB x 6), .bool (GrF.bitB x 11)] 66)), y.at.cell? ⟨w.heap.size, 1, none⟩ = some (.bool false) := fun y => (y.old _ lt5).trans (k1 x5)
  have q1 : ∀ y : Wb (x5.at.alloc (.cells #[.bool true, .bool false, .int .u64 0, .bool (GrF.bitB x 10), .bool (GrF.bitB x 7), .bool (GrF.bitB x 6), .bool (GrF.bitB x 11)] 66)), y.at.frozen? ⟨w.heap.size, 1, none⟩ = false := fun y => (y.oldf _ lt5).trans (f1 x5)
  have o2 : ∀ y : Wb (x5.at.alloc (.cells #[.bool true, .bool false, .int .u64 0, .bool (GrF.bitB x 10), .bool (GrF.bitB x 7), .bool (GrF.bitB x 6), .bool (GrF.bitB x 11)] 66)), y.at.cell? ⟨w.heap.size, 2, none⟩ = some (.int .u64 0) := fun y => (y.old _ lt5).trans (k2 x5)
  have q2 : ∀ y : Wb (x5.at.alloc (.cells #[.bool true, .bool false, .int .u64 0, .bool (GrF.bitB x 10), .bool (GrF.bitB x 7), .bool (GrF.bitB x 6), .bool (GrF.bitB x 11)] 66)), y.at.frozen? ⟨w.heap.size, 2, none⟩ = false := fun y => (y.oldf _ lt5).trans (f2 x5)
  have o3 : ∀ y : Wb (x5.at.alloc (.cells #[.bool true, .bool false, .int .u64 0, .bool (GrF.bitB x 10), .bool (GrF.bitB x 7), .bool (GrF.bitB x 6), .bool (GrF.bitB x 11)] 66)), y.at.cell? ⟨w.heap.size, 3, none⟩ = some (.bool false) := fun y => (y.old _ lt5).trans (k3 x5)
  have q3 : ∀ y : Wb (x5.at.alloc (.cells #[.bool true, .bool false, .int .u64 0, .bool (GrF.bitB x 10), .bool (GrF.bitB x 7), .bool (GrF.bitB x 6), .bool (GrF.bitB x 11)] 66)), y.at.frozen? ⟨w.heap.size, 3, none⟩ = false := fun y => (y.oldf _ lt5).trans (f3 x5)
  have o4 : ∀ y : Wb (x5.at.alloc (.cells #[.bool true, .bool false, .int .u64 0, .bool (GrF.bitB x 10), .bool (GrF.bitB x 7), .bool (GrF.bitB x 6), .bool (GrF.bitB x 11)] 66)), y.at.cell? ⟨w.heap.size, 4, none⟩ = some (.bool false) := fun y => (y.old _ lt5).trans (k4 x5)
  have q4 : ∀ y : Wb (x5.at.alloc (.cells #[.bool true, .bool false, .int .u64 0, .bool (GrF.bitB x 10), .bool (GrF.bitB x 7), .bool (GrF.bitB x 6), .bool (GrF.bitB x 11)] 66)), y.at.frozen? ⟨w.heap.size, 4, none⟩ = false := fun y => (y.oldf _ lt5).trans (f4 x5)
  have o5 : ∀ y : Wb (x5.at.alloc (.cells #[.bool true, .bool false, .int .u64 0, .bool (GrF.bitB x 10), .bool (GrF.bitB x 7), .bool (GrF.bitB x 6), .bool (GrF.bitB x 11)] 66)), y.at.cell? ⟨w.heap.size, 5, none⟩ = some (.bool false) := fun y => (y.old _ lt5).trans (k5 x5)
  have q5 : ∀ y : Wb (x5.at.alloc (.cells #[.bool true, .bool false, .int .u64 0, .bool (GrF.bitB x 10), .bool (GrF.bitB x 7), .bool (GrF.bitB x 6), .bool (GrF.bitB x 11)] 66)), y.at.frozen? ⟨w.heap.size, 5, none⟩ = false := fun y => (y.oldf _ lt5).trans (f5 x5)
  have o6 : ∀ y : Wb (x5.at.alloc (.cells #[.bool true, .bool false, .int .u64 0, .bool (GrF.bitB x 10), .bool (GrF.bitB x 7), .bool (GrF.bitB x 6), .bool (GrF.bitB x 11)] 66)), y.at.cell? ⟨w.heap.size, 6, none⟩ = some (.bool false) := fun y => (y.old _ lt5).trans (k6 x5)
  have q6 : ∀ y : Wb (x5.at.alloc (.cells #[.bool true, .bool false, .int .u64 0, .bool (GrF.bitB x 10), .bool (GrF.bitB x 7), .bool (GrF.bitB x 6), .bool (GrF.bitB x 11)] 66)), y.at.frozen? ⟨w.heap.size, 6, none⟩ = false := fun y => (y.oldf _ lt5).trans (f6 x5)
  have MB : ∀ y : Wb (x5.at.alloc (.cells #[.bool true, .bool false, .int .u64 0, .bool (GrF.bitB x 10), .bool (GrF.bitB x 7), .bool (GrF.bitB x 6), .bool (GrF.bitB x 11)] 66)), Below w.heap.size w y.at := fun y => (KB.out x5).trans ((mb y).mono (by omega))
  have MB' := Lib.hid MB
  have NE : (x5.at.heap.size == w.heap.size) = false := by simp; omega
  have NE2 : x5.at.heap.size ≠ w.heap.size := by omega
  have NE3 : w.heap.size ≠ x5.at.heap.size := by omega
  clear mb MB
  go_wp2_with fail
  refine (rbit_any x 1 _ h0 H1.out).mono ?_
  rintro e w1 ⟨rfl, d1⟩
  obtain ⟨y0, rfl⟩ := Wb.start d1
  clear d1
  rw [b1]
  go_wp2
  refine bodyPost_ret (v := dv GrD.zero) (by simp [results, Try.results62, go_sem, dv, GrD.zero, *]) rfl ⟨rfl, ?_⟩
  repeat' (first | (with_reducible exact MB'.out y0) | (with_reducible refine Below.setCell ?_ ?_ _) | (simp; done) | (simp; omega))

end Go.Proofs.Yteiokenijmaloaa
