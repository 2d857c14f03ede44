/-
  Layer 7, the walks: the page's own Decode, whole.
-/
import Derived.Test.YteiokenijmaloaaDi
set_option linter.unusedSimpArgs false
set_option linter.unusedVariables false
namespace Go.Proofs.Yteiokenijmaloaa
open Go.RowKit

set_option maxHeartbeats 3200000 in
theorem rdecode_n (x l : Int) (w : World) (h0 : 0 ≤ x) (h1 : x < 18446744073709551616) (b0 : GrF.bitB x 0 = true) (b47 : (GrF.get x 47 32 != 0) = false) (n1 : (l == 1) = false) (n2 : (l == 2) = false) :
    Calls Try.prog 62 #[.int .u64 x, .int .i64 l] w fun e w' => e = .returned (dv GrD.zero) ∧ Below w.heap.size w w' := by
  have H1 := Lib.hid h1
  clear h1
  obtain ⟨t1, t2, t3, t4⟩ := two_words h0
  obtain ⟨k0, k1, k2, k3, k4, k5, k6, kb⟩ := box7 w false false 0 false false false false _ rfl
  have f0 := box7f w false false 0 false false false false _ rfl 0
  have f1 := box7f w false false 0 false false false false _ rfl 1
  have f2 := box7f w false false 0 false false false false _ rfl 2
  have f3 := box7f w false false 0 false false false false _ rfl 3
  have f4 := box7f w false false 0 false false false false _ rfl 4
  have f5 := box7f w false false 0 false false false false _ rfl 5
  have f6 := box7f w false false 0 false false false false _ rfl 6
  have KB := Lib.hid kb
  clear kb
  go_enter Try.func62, Try.ntmps62
  go_wp2_with fail
  refine (rbit_any x 0 _ h0 H1.out).mono ?_
  rintro e w1 ⟨rfl, d1⟩
  obtain ⟨x0, rfl⟩ := Wb.start d1
  clear d1
  rw [b0]
  go_wp2_with fail
  refine (rget_any x 47 32 _ h0 H1.out).mono ?_
  rintro e w1 ⟨rfl, d1⟩
  obtain ⟨x1, rfl⟩ := Wb.next d1
  clear d1
  go_wp2_with fail
  refine (rbit_any x 10 _ h0 H1.out).mono ?_
  rintro e w1 ⟨rfl, d1⟩
  obtain ⟨x2, rfl⟩ := Wb.next d1
  clear d1
  go_wp2_with fail
  refine (rbit_any x 7 _ h0 H1.out).mono ?_
  rintro e w1 ⟨rfl, d1⟩
  obtain ⟨x3, rfl⟩ := Wb.next d1
  clear d1
  go_wp2_with fail
  refine (rbit_any x 6 _ h0 H1.out).mono ?_
  rintro e w1 ⟨rfl, d1⟩
  obtain ⟨x4, rfl⟩ := Wb.next d1
  clear d1
  go_wp2_with fail
  refine (rbit_any x 11 _ h0 H1.out).mono ?_
  rintro e w1 ⟨rfl, d1⟩
  obtain ⟨x5, rfl⟩ := Wb.next d1
  clear d1
  obtain ⟨m0, m1, m2, m3, m4, m5, m6, mb⟩ := box7 x5.at true false 0 (GrF.bitB x 10) (GrF.bitB x 7) (GrF.bitB x 6) (GrF.bitB x 11) _ rfl
  have g2 := box7f x5.at true false 0 (GrF.bitB x 10) (GrF.bitB x 7) (GrF.bitB x 6) (GrF.bitB x 11) _ rfl 2
  have lt5 : w.heap.size < x5.at.heap.size := by have := x5.size; simp at this; omega
  have o0 : ∀ y : Wb (x5.at.alloc (.cells #[.bool true, .bool false, .int .u64 0, .bool (GrF.bitB x 10), .bool (GrF.bitB x 7), .bool (GrF.bitB x 6), .bool (GrF.bitB x 11)] 66)), y.at.cell? ⟨w.heap.size, 0, none⟩ = some (.bool false) := fun y => (y.old _ lt5).trans (k0 x5)
  have q0 : ∀ y : Wb (x5.at.alloc (.cells #[.bool true, .bool false, .int .u64 0, .bool (GrF.bitB x 10), .bool (GrF.bitB x 7), .bool (GrF.bitB x 6), .bool (GrF.bitB x 11)] 66)), y.at.frozen? ⟨w.heap.size, 0, none⟩ = false := fun y => (y.oldf _ lt5).trans (f0 x5)
  have o1 : ∀ y : Wb (x5.at.alloc (.cells #[.bool true, .bool false, .int .u64 0, .bool (GrF.bitB x 10), .bool (GrF.bitB x 7), .bool (GrF.bitB x 6), .bool (GrF.bitB x 11)] 66)), y.at.cell? ⟨w.heap.size, 1, none⟩ = some (.bool false) := fun y => (y.old _ lt5).trans (k1 x5)
  have q1 : ∀ y : Wb (x5.at.alloc (.cells #[.bool true, .bool false, .int .u64 0, .bool (GrF.bitB x 10), .bool (GrF.bitB x 7), .bool (GrF.bitB x 6), .bool (GrF.bitB x 11)] 66)), y.at.frozen? ⟨w.heap.size, 1, none⟩ = false := fun y => (y.oldf _ lt5).trans (f1 x5)
  have o2 : ∀ y : Wb (x5.at.alloc (.cells #[.bool true, .bool false, .int .u64 0, .bool (GrF.bitB x 10), .bool (GrF.bitB x 7), .bool (GrF.bitB x 6), .bool (GrF.bitB x 11)] 66)), y.at.cell? ⟨w.heap.size, 2, none⟩ = some (.int .u64 0) := fun y => (y.old _ lt5).trans (k2 x5)
  have q2 : ∀ y : Wb (x5.at.alloc (.cells #[.bool true, .bool false, .int .u64 0, .bool (GrF.bitB x 10), .bool (GrF.bitB x 7), .bool (GrF.bitB x 6), .bool (GrF.bitB x 11)] 66)), y.at.frozen? ⟨w.heap.size, 2, none⟩ = false := fun y => (y.oldf _ lt5).trans (f2 x5)
  have o3 : ∀ y : Wb (x5.at.alloc (.cells #[.bool true, .bool false, .int .u64 0, .bool (GrF.bitB x 10), .bool (GrF.bitB x 7), .bool (GrF.bitB x 6), .bool (GrF.bitB x 11)] 66)), y.at.cell? ⟨w.heap.size, 3, none⟩ = some (.bool false) := fun y => (y.old _ lt5).trans (k3 x5)
  have q3 : ∀ y : Wb (x5.at.alloc (.cells #[.bool true, .bool false, .int .u64 0, .bool (GrF.bitB x 10), .bool (GrF.bitB x 7), .bool (GrF.bitB x 6), .bool (GrF.bitB x 11)] 66)), y.at.frozen? ⟨w.heap.size, 3, none⟩ = false := fun y => (y.oldf _ lt5).trans (f3 x5)
  have o4 : ∀ y : Wb (x5.at.alloc (.cells #[.bool true, .bool false, .int .u64 0, .bool (GrF.bitB x 10), .bool (GrF.bitB x 7), .bool (GrF.bitB x 6), .bool (GrF.bitB x 11)] 66)), y.at.cell? ⟨w.heap.size, 4, none⟩ = some (.bool false) := fun y => (y.old _ lt5).trans (k4 x5)
  have q4 : ∀ y : Wb (x5.at.alloc (.cells #[.bool true, .bool false, .int .u64 0, .bool (GrF.bitB x 10), .bool (GrF.bitB x 7), .bool (GrF.bitB x 6), .bool (GrF.bitB x 11)] 66)), y.at.frozen? ⟨w.heap.size, 4, none⟩ = false := fun y => (y.oldf _ lt5).trans (f4 x5)
  have o5 : ∀ y : Wb (x5.at.alloc (.cells #[.bool true, .bool false, .int .u64 0, .bool (GrF.bitB x 10), .bool (GrF.bitB x 7), .bool (GrF.bitB x 6), .bool (GrF.bitB x 11)] 66)), y.at.cell? ⟨w.heap.size, 5, none⟩ = some (.bool false) := fun y => (y.old _ lt5).trans (k5 x5)
  have q5 : ∀ y : Wb (x5.at.alloc (.cells #[.bool true, .bool false, .int .u64 0, .bool (GrF.bitB x 10), .bool (GrF.bitB x 7), .bool (GrF.bitB x 6), .bool (GrF.bitB x 11)] 66)), y.at.frozen? ⟨w.heap.size, 5, none⟩ = false := fun y => (y.oldf _ lt5).trans (f5 x5)
  have o6 : ∀ y : Wb (x5.at.alloc (.cells #[.bool true, .bool false, .int .u64 0, .bool (GrF.bitB x 10), .bool (GrF.bitB x 7), .bool (GrF.bitB x 6), .bool (GrF.bitB x 11)] 66)), y.at.cell? ⟨w.heap.size, 6, none⟩ = some (.bool false) := fun y => (y.old _ lt5).trans (k6 x5)
  have q6 : ∀ y : Wb (x5.at.alloc (.cells #[.bool true, .bool false, .int .u64 0, .bool (GrF.bitB x 10), .bool (GrF.bitB x 7), .bool (GrF.bitB x 6), .bool (GrF.bitB x 11)] 66)), y.at.frozen? ⟨w.heap.size, 6, none⟩ = false := fun y => (y.oldf _ lt5).trans (f6 x5)
  have MB : ∀ y : Wb (x5.at.alloc (.cells #[.bool true, .bool false, .int .u64 0, .bool (GrF.bitB x 10), .bool (GrF.bitB x 7), .bool (GrF.bitB x 6), .bool (GrF.bitB x 11)] 66)), Below w.heap.size w y.at := fun y => (KB.out x5).trans ((mb y).mono (by omega))
  have MB' := Lib.hid MB
  have NE : (x5.at.heap.size == w.heap.size) = false := by simp; omega
  have NE2 : x5.at.heap.size ≠ w.heap.size := by omega
  have NE3 : w.heap.size ≠ x5.at.heap.size := by omega
  clear mb MB
  go_upto_region 9 with fail
  obtain ⟨y0, hy⟩ : ∃ y : Wb (x5.at.alloc (.cells #[.bool true, .bool false, .int .u64 0, .bool (GrF.bitB x 10), .bool (GrF.bitB x 7), .bool (GrF.bitB x 6), .bool (GrF.bitB x 11)] 66)), (x5.at.alloc (.cells #[.bool true, .bool false, .int .u64 0, .bool (GrF.bitB x 10), .bool (GrF.bitB x 7), .bool (GrF.bitB x 6), .bool (GrF.bitB x 11)] 66)) = y.at := ⟨⟨_, Below.refl _ _⟩, rfl⟩
  rw [hy]
  clear hy
  go_wp2
  refine bodyPost_ret (v := dv GrD.zero) (by simp [results, Try.results62, go_sem, dv, GrD.zero, *]) rfl ⟨rfl, ?_⟩
  repeat' (first | (with_reducible exact MB'.out y0) | (with_reducible refine Below.setCell ?_ ?_ _) | (simp; done) | (simp; omega))

theorem rdecode_any (x l : Int) (w : World) (h0 : 0 ≤ x) (h1 : x < 18446744073709551616) :
    Calls Try.prog 62 #[.int .u64 x, .int .i64 l] w fun e w' => e = .returned (dv (GrD.decode x l)) ∧ Below w.heap.size w w' := by
  by_cases b0 : GrF.bitB x 0 = true
  · by_cases b47 : GrF.get x 47 32 = 0
    · have c47 : (GrF.get x 47 32 != 0) = false := by simp [b47]
      by_cases l1 : l = 1
      · subst l1
        have hg : GrD.goodB x 1 = true := by simp [GrD.goodB, b0, b47, GrD.levelB]
        by_cases b1 : GrF.bitB x 1 = true
        · have ht : GrD.tableB x 1 = true := by simp [GrD.tableB, b1]
          rw [GrD.decode, if_pos hg, if_pos ht]
          exact rdecode_table x w h0 h1 b0 c47 b1
        · have b1' : GrF.bitB x 1 = false := by simpa using b1
          have ht : ¬ GrD.tableB x 1 = true := by simp [GrD.tableB, b1']
          rw [GrD.decode, if_pos hg, if_neg ht, if_pos rfl]
          exact rdecode_block x w h0 h1 b0 c47 b1'
      · by_cases l2 : l = 2
        · subst l2
          by_cases b1 : GrF.bitB x 1 = true
          · have hg : GrD.goodB x 2 = true := by simp [GrD.goodB, b0, b47, GrD.levelB, b1]
            have ht : ¬ GrD.tableB x 2 = true := by simp [GrD.tableB]
            rw [GrD.decode, if_pos hg, if_neg ht, if_neg (by decide)]
            exact rdecode_page x w h0 h1 b0 c47 b1
          · have b1' : GrF.bitB x 1 = false := by simpa using b1
            have hg : ¬ GrD.goodB x 2 = true := by simp [GrD.goodB, GrD.levelB, b1']
            rw [GrD.decode, if_neg hg]
            exact rdecode_n2 x w h0 h1 b0 c47 b1'
        · have hg : ¬ GrD.goodB x l = true := by simp [GrD.goodB, GrD.levelB, l1, l2]
          rw [GrD.decode, if_neg hg]
          exact rdecode_n x l w h0 h1 b0 c47 (by simpa using l1) (by simpa using l2)
    · have c47 : (GrF.get x 47 32 != 0) = true := by simp [b47]
      have hg : ¬ GrD.goodB x l = true := by simp [GrD.goodB, b47]
      rw [GrD.decode, if_neg hg]
      exact rdecode_no x l w h0 h1 (.inr ⟨b0, c47⟩)
  · have b0' : GrF.bitB x 0 = false := by simpa using b0
    have hg : ¬ GrD.goodB x l = true := by simp [GrD.goodB, b0']
    rw [GrD.decode, if_neg hg]
    exact rdecode_no x l w h0 h1 (.inl b0')

end Go.Proofs.Yteiokenijmaloaa
