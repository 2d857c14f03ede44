/-
  Layer 9, the walks: FlushOf; the laws TlbTakes, TlbOwn.
-/
import Derived.Test.YtkdbidnioalfkaaTf
set_option linter.unusedSimpArgs false
set_option linter.unusedVariables false
namespace Go.Proofs.Ytkdbidnioalfkaa
open Go.RowKit

theorem get_page (x : Int) (h : 0 ≤ x) : 0 ≤ GrF.get x 43 0 ∧ GrF.get x 43 0 ≤ 17592186044415 := by
  have := GrD.get_div x 43 0 h (by omega) (by omega)
  have e : GrF.get x 43 0 = x / 1 % 17592186044416 := this
  omega
theorem get_space (x : Int) (h : 0 ≤ x) : 0 ≤ GrF.get x 63 48 ∧ GrF.get x 63 48 ≤ 65535 := by
  have := GrD.get_div x 63 48 h (by omega) (by omega)
  have e : GrF.get x 63 48 = x / 281474976710656 % 65536 := this
  omega
/-- what an instruction asks for -/
def fpage (k x : Int) : Int := if k % 4 = 1 ∨ k % 4 = 2 then GrF.get x 43 0 * 4096 else 0
def fspace (k x : Int) : Int := if k % 4 = 1 ∨ k % 4 = 3 then GrF.get x 63 48 else 0
def fl (a b c : Int) : Value := .agg #[.int .i64 a, .int .u64 b, .int .i64 c]
theorem ret_v {a b : Value} (h : a = b) : Ending.returned a = .returned b := by rw [h]
theorem fl_eq {a b c a' b' c' : Int} (h1 : a = a') (h2 : b = b') (h3 : c = c') : fl a b c = fl a' b' c' := by rw [h1, h2, h3]

set_option maxRecDepth 100000 in
set_option maxHeartbeats 3200000 in
theorem flush_any (k x : Int) (hk0 : 0 ≤ k) (hx0 : 0 ≤ x) (hx1 : x < 18446744073709551616) (w : World) :
    Calls Try.prog 19 #[.int .i64 k, .int .u64 x] w fun e w' => e = .returned (fl (k % 4) (fpage k x) (fspace k x)) ∧ Below w.heap.size w w' := by
  obtain ⟨p0, p1⟩ := get_page x hx0
  obtain ⟨s0, s1⟩ := get_space x hx0
  have hk : k % 4 = 0 ∨ k % 4 = 1 ∨ k % 4 = 2 ∨ k % 4 = 3 := by omega
  have X1 := Lib.hid hx1
  clear hx1
  rcases hk with hk | hk | hk | hk
  · have EP := Lib.hid (show fpage k x = 0 by rw [fpage, hk]; rfl)
    have ESp := Lib.hid (show fspace k x = 0 by rw [fspace, hk]; rfl)
    have EK := Lib.hid hk
    go_enter Try.func19, Try.ntmps19
    go_wp2
    refine bodyPost_ret (v := fl 0 (0) (0)) (by simp [results, Try.results19, go_sem, fl, *]) rfl ⟨ret_v (fl_eq EK.out.symm EP.out.symm ESp.out.symm), ?_⟩
    repeat' (first | (with_reducible exact Below.refl _ _) | (with_reducible refine below_drewN ?_ _) | (with_reducible refine Below.setCell ?_ ?_ _) | (with_reducible refine Below.alloc ?_ ?_ _) | (with_reducible refine Below.drew ?_) | (simp [World.size_alloc]; done) | (simp [World.size_alloc]; omega))
  · have EP := Lib.hid (show fpage k x = GrF.get x 43 0 * 4096 by rw [fpage, hk]; rfl)
    have ESp := Lib.hid (show fspace k x = GrF.get x 63 48 by rw [fspace, hk]; rfl)
    have EK := Lib.hid hk
    go_enter Try.func19, Try.ntmps19
    go_wp2_with fail
    refine (get_any x 43 0 _ hx0 X1.out).mono ?_
    rintro e w1 ⟨rfl, ⟨m1, rfl⟩⟩
    go_wp2_with fail
    refine (get_any x 63 48 _ hx0 X1.out).mono ?_
    rintro e w1 ⟨rfl, ⟨m2, rfl⟩⟩
    go_wp2
    refine bodyPost_ret (v := fl 1 (GrF.get x 43 0 * 4096) (GrF.get x 63 48)) (by simp [results, Try.results19, go_sem, fl, *]) rfl ⟨ret_v (fl_eq EK.out.symm EP.out.symm ESp.out.symm), ?_⟩
    repeat' (first | (with_reducible exact Below.refl _ _) | (with_reducible refine below_drewN ?_ _) | (with_reducible refine Below.setCell ?_ ?_ _) | (with_reducible refine Below.alloc ?_ ?_ _) | (with_reducible refine Below.drew ?_) | (simp [World.size_alloc]; done) | (simp [World.size_alloc]; omega))
  · have EP := Lib.hid (show fpage k x = GrF.get x 43 0 * 4096 by rw [fpage, hk]; rfl)
    have ESp := Lib.hid (show fspace k x = 0 by rw [fspace, hk]; rfl)
    have EK := Lib.hid hk
    go_enter Try.func19, Try.ntmps19
    go_wp2_with fail
    refine (get_any x 43 0 _ hx0 X1.out).mono ?_
    rintro e w1 ⟨rfl, ⟨m1, rfl⟩⟩
    go_wp2
    refine bodyPost_ret (v := fl 2 (GrF.get x 43 0 * 4096) (0)) (by simp [results, Try.results19, go_sem, fl, *]) rfl ⟨ret_v (fl_eq EK.out.symm EP.out.symm ESp.out.symm), ?_⟩
    repeat' (first | (with_reducible exact Below.refl _ _) | (with_reducible refine below_drewN ?_ _) | (with_reducible refine Below.setCell ?_ ?_ _) | (with_reducible refine Below.alloc ?_ ?_ _) | (with_reducible refine Below.drew ?_) | (simp [World.size_alloc]; done) | (simp [World.size_alloc]; omega))
  · have EP := Lib.hid (show fpage k x = 0 by rw [fpage, hk]; rfl)
    have ESp := Lib.hid (show fspace k x = GrF.get x 63 48 by rw [fspace, hk]; rfl)
    have EK := Lib.hid hk
    go_enter Try.func19, Try.ntmps19
    go_wp2_with fail
    refine (get_any x 63 48 _ hx0 X1.out).mono ?_
    rintro e w1 ⟨rfl, ⟨m2, rfl⟩⟩
    go_wp2
    refine bodyPost_ret (v := fl 3 (0) (GrF.get x 63 48)) (by simp [results, Try.results19, go_sem, fl, *]) rfl ⟨ret_v (fl_eq EK.out.symm EP.out.symm ESp.out.symm), ?_⟩
    repeat' (first | (with_reducible exact Below.refl _ _) | (with_reducible refine below_drewN ?_ _) | (with_reducible refine Below.setCell ?_ ?_ _) | (with_reducible refine Below.alloc ?_ ?_ _) | (with_reducible refine Below.drew ?_) | (simp [World.size_alloc]; done) | (simp [World.size_alloc]; omega))

set_option maxRecDepth 100000 in
set_option maxHeartbeats 3200000 in
theorem rflush_any (k x : Int) (hk0 : 0 ≤ k) (hx0 : 0 ≤ x) (hx1 : x < 18446744073709551616) (w : World) :
    Calls Try.prog 20 #[.int .i64 k, .int .u64 x] w fun e w' => e = .returned (fl (k % 4) (fpage k x) (fspace k x)) ∧ Below w.heap.size w w' := by
  obtain ⟨p0, p1⟩ := get_page x hx0
  obtain ⟨s0, s1⟩ := get_space x hx0
  have hk : k % 4 = 0 ∨ k % 4 = 1 ∨ k % 4 = 2 ∨ k % 4 = 3 := by omega
  have X1 := Lib.hid hx1
  clear hx1
  rcases hk with hk | hk | hk | hk
  · have EP := Lib.hid (show fpage k x = 0 by rw [fpage, hk]; rfl)
    have ESp := Lib.hid (show fspace k x = 0 by rw [fspace, hk]; rfl)
    have EK := Lib.hid hk
    have a0 : ∀ z : Wb ((w.alloc (.cells #[.int .i64 0, .int .u64 0, .int .i64 0] 34)).alloc (.cells #[.int .i64 0, .int .u64 0, .int .i64 0] 34)), z.at.cell? ⟨w.heap.size, 0, none⟩ = some (.int .i64 0) := fun z => by rw [z.cell _ (by simp; omega)]; simp [World.cell?_alloc_new]
    have a1 : ∀ z : Wb ((w.alloc (.cells #[.int .i64 0, .int .u64 0, .int .i64 0] 34)).alloc (.cells #[.int .i64 0, .int .u64 0, .int .i64 0] 34)), z.at.cell? ⟨w.heap.size, 1, none⟩ = some (.int .u64 0) := fun z => by rw [z.cell _ (by simp; omega)]; simp [World.cell?_alloc_new]
    have a2 : ∀ z : Wb ((w.alloc (.cells #[.int .i64 0, .int .u64 0, .int .i64 0] 34)).alloc (.cells #[.int .i64 0, .int .u64 0, .int .i64 0] 34)), z.at.cell? ⟨w.heap.size, 2, none⟩ = some (.int .i64 0) := fun z => by rw [z.cell _ (by simp; omega)]; simp [World.cell?_alloc_new]
    have b0 : ∀ z : Wb ((w.alloc (.cells #[.int .i64 0, .int .u64 0, .int .i64 0] 34)).alloc (.cells #[.int .i64 0, .int .u64 0, .int .i64 0] 34)), z.at.cell? ⟨w.heap.size + 1, 0, none⟩ = some (.int .i64 0) := fun z => by rw [z.cell _ (by simp)]; simp [World.cell?_alloc_new]
    have b1 : ∀ z : Wb ((w.alloc (.cells #[.int .i64 0, .int .u64 0, .int .i64 0] 34)).alloc (.cells #[.int .i64 0, .int .u64 0, .int .i64 0] 34)), z.at.cell? ⟨w.heap.size + 1, 1, none⟩ = some (.int .u64 0) := fun z => by rw [z.cell _ (by simp)]; simp [World.cell?_alloc_new]
    have b2 : ∀ z : Wb ((w.alloc (.cells #[.int .i64 0, .int .u64 0, .int .i64 0] 34)).alloc (.cells #[.int .i64 0, .int .u64 0, .int .i64 0] 34)), z.at.cell? ⟨w.heap.size + 1, 2, none⟩ = some (.int .i64 0) := fun z => by rw [z.cell _ (by simp)]; simp [World.cell?_alloc_new]
    have c0 : ∀ z : Wb ((w.alloc (.cells #[.int .i64 0, .int .u64 0, .int .i64 0] 34)).alloc (.cells #[.int .i64 0, .int .u64 0, .int .i64 0] 34)), z.at.frozen? ⟨w.heap.size, 0, none⟩ = false := fun z => (z.prevf _ (by simp)).trans (frozen_new 0 ⟨(w.alloc (.cells #[.int .i64 0, .int .u64 0, .int .i64 0] 34)), Below.refl _ _⟩)
    have c1 : ∀ z : Wb ((w.alloc (.cells #[.int .i64 0, .int .u64 0, .int .i64 0] 34)).alloc (.cells #[.int .i64 0, .int .u64 0, .int .i64 0] 34)), z.at.frozen? ⟨w.heap.size, 1, none⟩ = false := fun z => (z.prevf _ (by simp)).trans (frozen_new 1 ⟨(w.alloc (.cells #[.int .i64 0, .int .u64 0, .int .i64 0] 34)), Below.refl _ _⟩)
    have c2 : ∀ z : Wb ((w.alloc (.cells #[.int .i64 0, .int .u64 0, .int .i64 0] 34)).alloc (.cells #[.int .i64 0, .int .u64 0, .int .i64 0] 34)), z.at.frozen? ⟨w.heap.size, 2, none⟩ = false := fun z => (z.prevf _ (by simp)).trans (frozen_new 2 ⟨(w.alloc (.cells #[.int .i64 0, .int .u64 0, .int .i64 0] 34)), Below.refl _ _⟩)
    have d0 : ∀ z : Wb ((w.alloc (.cells #[.int .i64 0, .int .u64 0, .int .i64 0] 34)).alloc (.cells #[.int .i64 0, .int .u64 0, .int .i64 0] 34)), z.at.frozen? ⟨w.heap.size + 1, 0, none⟩ = false := fun z => by have := frozen_new (w := (w.alloc (.cells #[.int .i64 0, .int .u64 0, .int .i64 0] 34))) 0 z; simpa using this
    have d1 : ∀ z : Wb ((w.alloc (.cells #[.int .i64 0, .int .u64 0, .int .i64 0] 34)).alloc (.cells #[.int .i64 0, .int .u64 0, .int .i64 0] 34)), z.at.frozen? ⟨w.heap.size + 1, 1, none⟩ = false := fun z => by have := frozen_new (w := (w.alloc (.cells #[.int .i64 0, .int .u64 0, .int .i64 0] 34))) 1 z; simpa using this
    have d2 : ∀ z : Wb ((w.alloc (.cells #[.int .i64 0, .int .u64 0, .int .i64 0] 34)).alloc (.cells #[.int .i64 0, .int .u64 0, .int .i64 0] 34)), z.at.frozen? ⟨w.heap.size + 1, 2, none⟩ = false := fun z => by have := frozen_new (w := (w.alloc (.cells #[.int .i64 0, .int .u64 0, .int .i64 0] 34))) 2 z; simpa using this
    have KB := Lib.hid (fun (z : Wb ((w.alloc (.cells #[.int .i64 0, .int .u64 0, .int .i64 0] 34)).alloc (.cells #[.int .i64 0, .int .u64 0, .int .i64 0] 34))) => ((((Below.refl _ _).alloc (Nat.le_refl _) _).alloc (by simp) _).trans (z.bel.mono (by simp; omega)) : Below w.heap.size w z.at))
    go_enter Try.func20, Try.ntmps20
    go_wp2_with fail
    refine (rget_any x 43 0 _ hx0 X1.out).mono ?_
    rintro e w1 ⟨rfl, g1⟩
    obtain ⟨y0, rfl⟩ := Wb.start g1
    clear g1
    go_wp2_with fail
    refine (rget_any x 63 48 _ hx0 X1.out).mono ?_
    rintro e w1 ⟨rfl, g1⟩
    obtain ⟨y1, rfl⟩ := Wb.next g1
    clear g1
    go_wp2
    refine bodyPost_ret (v := fl 0 (0) (0)) (by simp [results, Try.results20, go_sem, fl, *]) rfl ⟨ret_v (fl_eq EK.out.symm EP.out.symm ESp.out.symm), ?_⟩
    repeat' (first | (with_reducible exact KB.out y1) | (with_reducible refine Below.setCell ?_ ?_ _) | (simp; done) | (simp; omega))
  · have EP := Lib.hid (show fpage k x = GrF.get x 43 0 * 4096 by rw [fpage, hk]; rfl)
    have ESp := Lib.hid (show fspace k x = GrF.get x 63 48 by rw [fspace, hk]; rfl)
    have EK := Lib.hid hk
    have a0 : ∀ z : Wb ((w.alloc (.cells #[.int .i64 0, .int .u64 0, .int .i64 0] 34)).alloc (.cells #[.int .i64 1, .int .u64 0, .int .i64 0] 34)), z.at.cell? ⟨w.heap.size, 0, none⟩ = some (.int .i64 0) := fun z => by rw [z.cell _ (by simp; omega)]; simp [World.cell?_alloc_new]
    have a1 : ∀ z : Wb ((w.alloc (.cells #[.int .i64 0, .int .u64 0, .int .i64 0] 34)).alloc (.cells #[.int .i64 1, .int .u64 0, .int .i64 0] 34)), z.at.cell? ⟨w.heap.size, 1, none⟩ = some (.int .u64 0) := fun z => by rw [z.cell _ (by simp; omega)]; simp [World.cell?_alloc_new]
    have a2 : ∀ z : Wb ((w.alloc (.cells #[.int .i64 0, .int .u64 0, .int .i64 0] 34)).alloc (.cells #[.int .i64 1, .int .u64 0, .int .i64 0] 34)), z.at.cell? ⟨w.heap.size, 2, none⟩ = some (.int .i64 0) := fun z => by rw [z.cell _ (by simp; omega)]; simp [World.cell?_alloc_new]
    have b0 : ∀ z : Wb ((w.alloc (.cells #[.int .i64 0, .int .u64 0, .int .i64 0] 34)).alloc (.cells #[.int .i64 1, .int .u64 0, .int .i64 0] 34)), z.at.cell? ⟨w.heap.size + 1, 0, none⟩ = some (.int .i64 1) := fun z => by rw [z.cell _ (by simp)]; simp [World.cell?_alloc_new]
    have b1 : ∀ z : Wb ((w.alloc (.cells #[.int .i64 0, .int .u64 0, .int .i64 0] 34)).alloc (.cells #[.int .i64 1, .int .u64 0, .int .i64 0] 34)), z.at.cell? ⟨w.heap.size + 1, 1, none⟩ = some (.int .u64 0) := fun z => by rw [z.cell _ (by simp)]; simp [World.cell?_alloc_new]
    have b2 : ∀ z : Wb ((w.alloc (.cells #[.int .i64 0, .int .u64 0, .int .i64 0] 34)).alloc (.cells #[.int .i64 1, .int .u64 0, .int .i64 0] 34)), z.at.cell? ⟨w.heap.size + 1, 2, none⟩ = some (.int .i64 0) := fun z => by rw [z.cell _ (by simp)]; simp [World.cell?_alloc_new]
    have c0 : ∀ z : Wb ((w.alloc (.cells #[.int .i64 0, .int .u64 0, .int .i64 0] 34)).alloc (.cells #[.int .i64 1, .int .u64 0, .int .i64 0] 34)), z.at.frozen? ⟨w.heap.size, 0, none⟩ = false := fun z => (z.prevf _ (by simp)).trans (frozen_new 0 ⟨(w.alloc (.cells #[.int .i64 0, .int .u64 0, .int .i64 0] 34)), Below.refl _ _⟩)
    have c1 : ∀ z : Wb ((w.alloc (.cells #[.int .i64 0, .int .u64 0, .int .i64 0] 34)).alloc (.cells #[.int .i64 1, .int .u64 0, .int .i64 0] 34)), z.at.frozen? ⟨w.heap.size, 1, none⟩ = false := fun z => (z.prevf _ (by simp)).trans (frozen_new 1 ⟨(w.alloc (.cells #[.int .i64 0, .int .u64 0, .int .i64 0] 34)), Below.refl _ _⟩)
    have c2 : ∀ z : Wb ((w.alloc (.cells #[.int .i64 0, .int .u64 0, .int .i64 0] 34)).alloc (.cells #[.int .i64 1, .int .u64 0, .int .i64 0] 34)), z.at.frozen? ⟨w.heap.size, 2, none⟩ = false := fun z => (z.prevf _ (by simp)).trans (frozen_new 2 ⟨(w.alloc (.cells #[.int .i64 0, .int .u64 0, .int .i64 0] 34)), Below.refl _ _⟩)
    have d0 : ∀ z : Wb ((w.alloc (.cells #[.int .i64 0, .int .u64 0, .int .i64 0] 34)).alloc (.cells #[.int .i64 1, .int .u64 0, .int .i64 0] 34)), z.at.frozen? ⟨w.heap.size + 1, 0, none⟩ = false := fun z => by have := frozen_new (w := (w.alloc (.cells #[.int .i64 0, .int .u64 0, .int .i64 0] 34))) 0 z; simpa using this
    have d1 : ∀ z : Wb ((w.alloc (.cells #[.int .i64 0, .int .u64 0, .int .i64 0] 34)).alloc (.cells #[.int .i64 1, .int .u64 0, .int .i64 0] 34)), z.at.frozen? ⟨w.heap.size + 1, 1, none⟩ = false := fun z => by have := frozen_new (w := (w.alloc (.cells #[.int .i64 0, .int .u64 0, .int .i64 0] 34))) 1 z; simpa using this
    have d2 : ∀ z : Wb ((w.alloc (.cells #[.int .i64 0, .int .u64 0, .int .i64 0] 34)).alloc (.cells #[.int .i64 1, .int .u64 0, .int .i64 0] 34)), z.at.frozen? ⟨w.heap.size + 1, 2, none⟩ = false := fun z => by have := frozen_new (w := (w.alloc (.cells #[.int .i64 0, .int .u64 0, .int .i64 0] 34))) 2 z; simpa using this
    have KB := Lib.hid (fun (z : Wb ((w.alloc (.cells #[.int .i64 0, .int .u64 0, .int .i64 0] 34)).alloc (.cells #[.int .i64 1, .int .u64 0, .int .i64 0] 34))) => ((((Below.refl _ _).alloc (Nat.le_refl _) _).alloc (by simp) _).trans (z.bel.mono (by simp; omega)) : Below w.heap.size w z.at))
    go_enter Try.func20, Try.ntmps20
    go_wp2_with fail
    refine (rget_any x 43 0 _ hx0 X1.out).mono ?_
    rintro e w1 ⟨rfl, g1⟩
    obtain ⟨y0, rfl⟩ := Wb.start g1
    clear g1
    go_wp2_with fail
    refine (rget_any x 63 48 _ hx0 X1.out).mono ?_
    rintro e w1 ⟨rfl, g1⟩
    obtain ⟨y1, rfl⟩ := Wb.next g1
    clear g1
    go_wp2
    refine bodyPost_ret (v := fl 1 (GrF.get x 43 0 * 4096) (GrF.get x 63 48)) (by simp [results, Try.results20, go_sem, fl, *]) rfl ⟨ret_v (fl_eq EK.out.symm EP.out.symm ESp.out.symm), ?_⟩
    repeat' (first | (with_reducible exact KB.out y1) | (with_reducible refine Below.setCell ?_ ?_ _) | (simp; done) | (simp; omega))
  · have EP := Lib.hid (show fpage k x = GrF.get x 43 0 * 4096 by rw [fpage, hk]; rfl)
    have ESp := Lib.hid (show fspace k x = 0 by rw [fspace, hk]; rfl)
    have EK := Lib.hid hk
    have a0 : ∀ z : Wb ((w.alloc (.cells #[.int .i64 0, .int .u64 0, .int .i64 0] 34)).alloc (.cells #[.int .i64 2, .int .u64 0, .int .i64 0] 34)), z.at.cell? ⟨w.heap.size, 0, none⟩ = some (.int .i64 0) := fun z => by rw [z.cell _ (by simp; omega)]; simp [World.cell?_alloc_new]
    have a1 : ∀ z : Wb ((w.alloc (.cells #[.int .i64 0, .int .u64 0, .int .i64 0] 34)).alloc (.cells #[.int .i64 2, .int .u64 0, .int .i64 0] 34)), z.at.cell? ⟨w.heap.size, 1, none⟩ = some (.int .u64 0) := fun z => by rw [z.cell _ (by simp; omega)]; simp [World.cell?_alloc_new]
    have a2 : ∀ z : Wb ((w.alloc (.cells #[.int .i64 0, .int .u64 0, .int .i64 0] 34)).alloc (.cells #[.int .i64 2, .int .u64 0, .int .i64 0] 34)), z.at.cell? ⟨w.heap.size, 2, none⟩ = some (.int .i64 0) := fun z => by rw [z.cell _ (by simp; omega)]; simp [World.cell?_alloc_new]
    have b0 : ∀ z : Wb ((w.alloc (.cells #[.int .i64 0, .int .u64 0, .int .i64 0] 34)).alloc (.cells #[.int .i64 2, .int .u64 0, .int .i64 0] 34)), z.at.cell? ⟨w.heap.size + 1, 0, none⟩ = some (.int .i64 2) := fun z => by rw [z.cell _ (by simp)]; simp [World.cell?_alloc_new]
    have b1 : ∀ z : Wb ((w.alloc (.cells #[.int .i64 0, .int .u64 0, .int .i64 0] 34)).alloc (.cells #[.int .i64 2, .int .u64 0, .int .i64 0] 34)), z.at.cell? ⟨w.heap.size + 1, 1, none⟩ = some (.int .u64 0) := fun z => by rw [z.cell _ (by simp)]; simp [World.cell?_alloc_new]
    have b2 : ∀ z : Wb ((w.alloc (.cells #[.int .i64 0, .int .u64 0, .int .i64 0] 34)).alloc (.cells #[.int .i64 2, .int .u64 0, .int .i64 0] 34)), z.at.cell? ⟨w.heap.size + 1, 2, none⟩ = some (.int .i64 0) := fun z => by rw [z.cell _ (by simp)]; simp [World.cell?_alloc_new]
    have c0 : ∀ z : Wb ((w.alloc (.cells #[.int .i64 0, .int .u64 0, .int .i64 0] 34)).alloc (.cells #[.int .i64 2, .int .u64 0, .int .i64 0] 34)), z.at.frozen? ⟨w.heap.size, 0, none⟩ = false := fun z => (z.prevf _ (by simp)).trans (frozen_new 0 ⟨(w.alloc (.cells #[.int .i64 0, .int .u64 0, .int .i64 0] 34)), Below.refl _ _⟩)
    have c1 : ∀ z : Wb ((w.alloc (.cells #[.int .i64 0, .int .u64 0, .int .i64 0] 34)).alloc (.cells #[.int .i64 2, .int .u64 0, .int .i64 0] 34)), z.at.frozen? ⟨w.heap.size, 1, none⟩ = false := fun z => (z.prevf _ (by simp)).trans (frozen_new 1 ⟨(w.alloc (.cells #[.int .i64 0, .int .u64 0, .int .i64 0] 34)), Below.refl _ _⟩)
    have c2 : ∀ z : Wb ((w.alloc (.cells #[.int .i64 0, .int .u64 0, .int .i64 0] 34)).alloc (.cells #[.int .i64 2, .int .u64 0, .int .i64 0] 34)), z.at.frozen? ⟨w.heap.size, 2, none⟩ = false := fun z => (z.prevf _ (by simp)).trans (frozen_new 2 ⟨(w.alloc (.cells #[.int .i64 0, .int .u64 0, .int .i64 0] 34)), Below.refl _ _⟩)
    have d0 : ∀ z : Wb ((w.alloc (.cells #[.int .i64 0, .int .u64 0, .int .i64 0] 34)).alloc (.cells #[.int .i64 2, .int .u64 0, .int .i64 0] 34)), z.at.frozen? ⟨w.heap.size + 1, 0, none⟩ = false := fun z => by have := frozen_new (w := (w.alloc (.cells #[.int .i64 0, .int .u64 0, .int .i64 0] 34))) 0 z; simpa using this
    have d1 : ∀ z : Wb ((w.alloc (.cells #[.int .i64 0, .int .u64 0, .int .i64 0] 34)).alloc (.cells #[.int .i64 2, .int .u64 0, .int .i64 0] 34)), z.at.frozen? ⟨w.heap.size + 1, 1, none⟩ = false := fun z => by have := frozen_new (w := (w.alloc (.cells #[.int .i64 0, .int .u64 0, .int .i64 0] 34))) 1 z; simpa using this
    have d2 : ∀ z : Wb ((w.alloc (.cells #[.int .i64 0, .int .u64 0, .int .i64 0] 34)).alloc (.cells #[.int .i64 2, .int .u64 0, .int .i64 0] 34)), z.at.frozen? ⟨w.heap.size + 1, 2, none⟩ = false := fun z => by have := frozen_new (w := (w.alloc (.cells #[.int .i64 0, .int .u64 0, .int .i64 0] 34))) 2 z; simpa using this
    have KB := Lib.hid (fun (z : Wb ((w.alloc (.cells #[.int .i64 0, .int .u64 0, .int .i64 0] 34)).alloc (.cells #[.int .i64 2, .int .u64 0, .int .i64 0] 34))) => ((((Below.refl _ _).alloc (Nat.le_refl _) _).alloc (by simp) _).trans (z.bel.mono (by simp; omega)) : Below w.heap.size w z.at))
    go_enter Try.func20, Try.ntmps20
    go_wp2_with fail
    refine (rget_any x 43 0 _ hx0 X1.out).mono ?_
    rintro e w1 ⟨rfl, g1⟩
    obtain ⟨y0, rfl⟩ := Wb.start g1
    clear g1
    go_wp2_with fail
    refine (rget_any x 63 48 _ hx0 X1.out).mono ?_
    rintro e w1 ⟨rfl, g1⟩
    obtain ⟨y1, rfl⟩ := Wb.next g1
    clear g1
    go_wp2
    refine bodyPost_ret (v := fl 2 (GrF.get x 43 0 * 4096) (0)) (by simp [results, Try.results20, go_sem, fl, *]) rfl ⟨ret_v (fl_eq EK.out.symm EP.out.symm ESp.out.symm), ?_⟩
    repeat' (first | (with_reducible exact KB.out y1) | (with_reducible refine Below.setCell ?_ ?_ _) | (simp; done) | (simp; omega))
  · have EP := Lib.hid (show fpage k x = 0 by rw [fpage, hk]; rfl)
    have ESp := Lib.hid (show fspace k x = GrF.get x 63 48 by rw [fspace, hk]; rfl)
    have EK := Lib.hid hk
    have a0 : ∀ z : Wb ((w.alloc (.cells #[.int .i64 0, .int .u64 0, .int .i64 0] 34)).alloc (.cells #[.int .i64 3, .int .u64 0, .int .i64 0] 34)), z.at.cell? ⟨w.heap.size, 0, none⟩ = some (.int .i64 0) := fun z => by rw [z.cell _ (by simp; omega)]; simp [World.cell?_alloc_new]
    have a1 : ∀ z : Wb ((w.alloc (.cells #[.int .i64 0, .int .u64 0, .int .i64 0] 34)).alloc (.cells #[.int .i64 3, .int .u64 0, .int .i64 0] 34)), z.at.cell? ⟨w.heap.size, 1, none⟩ = some (.int .u64 0) := fun z => by rw [z.cell _ (by simp; omega)]; simp [World.cell?_alloc_new]
    have a2 : ∀ z : Wb ((w.alloc (.cells #[.int .i64 0, .int .u64 0, .int .i64 0] 34)).alloc (.cells #[.int .i64 3, .int .u64 0, .int .i64 0] 34)), z.at.cell? ⟨w.heap.size, 2, none⟩ = some (.int .i64 0) := fun z => by rw [z.cell _ (by simp; omega)]; simp [World.cell?_alloc_new]
    have b0 : ∀ z : Wb ((w.alloc (.cells #[.int .i64 0, .int .u64 0, .int .i64 0] 34)).alloc (.cells #[.int .i64 3, .int .u64 0, .int .i64 0] 34)), z.at.cell? ⟨w.heap.size + 1, 0, none⟩ = some (.int .i64 3) := fun z => by rw [z.cell _ (by simp)]; simp [World.cell?_alloc_new]
    have b1 : ∀ z : Wb ((w.alloc (.cells #[.int .i64 0, .int .u64 0, .int .i64 0] 34)).alloc (.cells #[.int .i64 3, .int .u64 0, .int .i64 0] 34)), z.at.cell? ⟨w.heap.size + 1, 1, none⟩ = some (.int .u64 0) := fun z => by rw [z.cell _ (by simp)]; simp [World.cell?_alloc_new]
    have b2 : ∀ z : Wb ((w.alloc (.cells #[.int .i64 0, .int .u64 0, .int .i64 0] 34)).alloc (.cells #[.int .i64 3, .int .u64 0, .int .i64 0] 34)), z.at.cell? ⟨w.heap.size + 1, 2, none⟩ = some (.int .i64 0) := fun z => by rw [z.cell _ (by simp)]; simp [World.cell?_alloc_new]
    have c0 : ∀ z : Wb ((w.alloc (.cells #[.int .i64 0, .int .u64 0, .int .i64 0] 34)).alloc (.cells #[.int .i64 3, .int .u64 0, .int .i64 0] 34)), z.at.frozen? ⟨w.heap.size, 0, none⟩ = false := fun z => (z.prevf _ (by simp)).trans (frozen_new 0 ⟨(w.alloc (.cells #[.int .i64 0, .int .u64 0, .int .i64 0] 34)), Below.refl _ _⟩)
    have c1 : ∀ z : Wb ((w.alloc (.cells #[.int .i64 0, .int .u64 0, .int .i64 0] 34)).alloc (.cells #[.int .i64 3, .int .u64 0, .int .i64 0] 34)), z.at.frozen? ⟨w.heap.size, 1, none⟩ = false := fun z => (z.prevf _ (by simp)).trans (frozen_new 1 ⟨(w.alloc (.cells #[.int .i64 0, .int .u64 0, .int .i64 0] 34)), Below.refl _ _⟩)
    have c2 : ∀ z : Wb ((w.alloc (.cells #[.int .i64 0, .int .u64 0, .int .i64 0] 34)).alloc (.cells #[.int .i64 3, .int .u64 0, .int .i64 0] 34)), z.at.frozen? ⟨w.heap.size, 2, none⟩ = false := fun z => (z.prevf _ (by simp)).trans (frozen_new 2 ⟨(w.alloc (.cells #[.int .i64 0, .int .u64 0, .int .i64 0] 34)), Below.refl _ _⟩)
    have d0 : ∀ z : Wb ((w.alloc (.cells #[.int .i64 0, .int .u64 0, .int .i64 0] 34)).alloc (.cells #[.int .i64 3, .int .u64 0, .int .i64 0] 34)), z.at.frozen? ⟨w.heap.size + 1, 0, none⟩ = false := fun z => by have := frozen_new (w := (w.alloc (.cells #[.int .i64 0, .int .u64 0, .int .i64 0] 34))) 0 z; simpa using this
    have d1 : ∀ z : Wb ((w.alloc (.cells #[.int .i64 0, .int .u64 0, .int .i64 0] 34)).alloc (.cells #[.int .i64 3, .int .u64 0, .int .i64 0] 34)), z.at.frozen? ⟨w.heap.size + 1, 1, none⟩ = false := fun z => by have := frozen_new (w := (w.alloc (.cells #[.int .i64 0, .int .u64 0, .int .i64 0] 34))) 1 z; simpa using this
    have d2 : ∀ z : Wb ((w.alloc (.cells #[.int .i64 0, .int .u64 0, .int .i64 0] 34)).alloc (.cells #[.int .i64 3, .int .u64 0, .int .i64 0] 34)), z.at.frozen? ⟨w.heap.size + 1, 2, none⟩ = false := fun z => by have := frozen_new (w := (w.alloc (.cells #[.int .i64 0, .int .u64 0, .int .i64 0] 34))) 2 z; simpa using this
    have KB := Lib.hid (fun (z : Wb ((w.alloc (.cells #[.int .i64 0, .int .u64 0, .int .i64 0] 34)).alloc (.cells #[.int .i64 3, .int .u64 0, .int .i64 0] 34))) => ((((Below.refl _ _).alloc (Nat.le_refl _) _).alloc (by simp) _).trans (z.bel.mono (by simp; omega)) : Below w.heap.size w z.at))
    go_enter Try.func20, Try.ntmps20
    go_wp2_with fail
    refine (rget_any x 43 0 _ hx0 X1.out).mono ?_
    rintro e w1 ⟨rfl, g1⟩
    obtain ⟨y0, rfl⟩ := Wb.start g1
    clear g1
    go_wp2_with fail
    refine (rget_any x 63 48 _ hx0 X1.out).mono ?_
    rintro e w1 ⟨rfl, g1⟩
    obtain ⟨y1, rfl⟩ := Wb.next g1
    clear g1
    go_wp2
    refine bodyPost_ret (v := fl 3 (0) (GrF.get x 63 48)) (by simp [results, Try.results20, go_sem, fl, *]) rfl ⟨ret_v (fl_eq EK.out.symm EP.out.symm ESp.out.symm), ?_⟩
    repeat' (first | (with_reducible exact KB.out y1) | (with_reducible refine Below.setCell ?_ ?_ _) | (simp; done) | (simp; omega))

set_option maxRecDepth 100000 in
set_option maxHeartbeats 3200000 in
theorem ttakes_walk (k p n sp pg f l x : Int) (hf0 : 0 ≤ f) (hf1 : f < 18446744073709551616) (hl0 : 0 ≤ l) (hl1 : l < 18446744073709551616) (hp0 : 0 ≤ p) (hp1 : p < 18446744073709551616) (hx0 : 0 ≤ x) (hx1 : x < 18446744073709551616) (w : World) :
    Calls Try.prog 5 #[.agg #[.int .i64 k, .int .u64 p, .int .i64 n], .agg #[.int .i64 sp, .int .u64 pg, .int .u64 f, .int .u64 l], .int .u64 x] w fun e w' => e = .returned (.bool true) ∧ Below w.heap.size w w' := by
  have T1 := Lib.hid (fun w => takes_any k p n sp pg f l hf0 hf1 hl0 hl1 hp0 hp1 w)
  have T2 := Lib.hid (fun w => rtakes_any k p n sp pg f l hf0 hf1 hl0 hl1 hp0 hp1 w)
  obtain ⟨X, hX⟩ : ∃ X, X = GrT.takes k p n ⟨sp, pg, f, l⟩ := ⟨_, rfl⟩
  rw [← hX] at T1 T2
  have AW := Lib.hid (fun w => tawake_any w)
  clear hX hf0 hf1 hl0 hl1 hp0 hp1
  have a0 : ∀ z : Wb ((w.alloc (.cells #[.int .i64 k, .int .u64 p, .int .i64 n] 34)).alloc (.cells #[.int .i64 sp, .int .u64 pg, .int .u64 f, .int .u64 l] 27)), z.at.cell? ⟨w.heap.size, 0, none⟩ = some (.int .i64 k) := fun z => by rw [z.cell _ (by simp; omega)]; simp [World.cell?_alloc_new]
  have a1 : ∀ z : Wb ((w.alloc (.cells #[.int .i64 k, .int .u64 p, .int .i64 n] 34)).alloc (.cells #[.int .i64 sp, .int .u64 pg, .int .u64 f, .int .u64 l] 27)), z.at.cell? ⟨w.heap.size, 1, none⟩ = some (.int .u64 p) := fun z => by rw [z.cell _ (by simp; omega)]; simp [World.cell?_alloc_new]
  have a2 : ∀ z : Wb ((w.alloc (.cells #[.int .i64 k, .int .u64 p, .int .i64 n] 34)).alloc (.cells #[.int .i64 sp, .int .u64 pg, .int .u64 f, .int .u64 l] 27)), z.at.cell? ⟨w.heap.size, 2, none⟩ = some (.int .i64 n) := fun z => by rw [z.cell _ (by simp; omega)]; simp [World.cell?_alloc_new]
  have b0 : ∀ z : Wb ((w.alloc (.cells #[.int .i64 k, .int .u64 p, .int .i64 n] 34)).alloc (.cells #[.int .i64 sp, .int .u64 pg, .int .u64 f, .int .u64 l] 27)), z.at.cell? ⟨w.heap.size + 1, 0, none⟩ = some (.int .i64 sp) := fun z => by rw [z.cell _ (by simp)]; simp [World.cell?_alloc_new]
  have b1 : ∀ z : Wb ((w.alloc (.cells #[.int .i64 k, .int .u64 p, .int .i64 n] 34)).alloc (.cells #[.int .i64 sp, .int .u64 pg, .int .u64 f, .int .u64 l] 27)), z.at.cell? ⟨w.heap.size + 1, 1, none⟩ = some (.int .u64 pg) := fun z => by rw [z.cell _ (by simp)]; simp [World.cell?_alloc_new]
  have b2 : ∀ z : Wb ((w.alloc (.cells #[.int .i64 k, .int .u64 p, .int .i64 n] 34)).alloc (.cells #[.int .i64 sp, .int .u64 pg, .int .u64 f, .int .u64 l] 27)), z.at.cell? ⟨w.heap.size + 1, 2, none⟩ = some (.int .u64 f) := fun z => by rw [z.cell _ (by simp)]; simp [World.cell?_alloc_new]
  have b3 : ∀ z : Wb ((w.alloc (.cells #[.int .i64 k, .int .u64 p, .int .i64 n] 34)).alloc (.cells #[.int .i64 sp, .int .u64 pg, .int .u64 f, .int .u64 l] 27)), z.at.cell? ⟨w.heap.size + 1, 3, none⟩ = some (.int .u64 l) := fun z => by rw [z.cell _ (by simp)]; simp [World.cell?_alloc_new]
  have KB := Lib.hid (fun (z : Wb ((w.alloc (.cells #[.int .i64 k, .int .u64 p, .int .i64 n] 34)).alloc (.cells #[.int .i64 sp, .int .u64 pg, .int .u64 f, .int .u64 l] 27))) => ((((Below.refl _ _).alloc (Nat.le_refl _) _).alloc (by simp) _).trans (z.bel.mono (by simp; omega)) : Below w.heap.size w z.at))
  cases c0 : decide (k < 0) with
  | true =>
    go_enter Try.func5, Try.ntmps5
    go_wp2_with fail
    refine (AW.out _).mono ?_
    rintro e w1 ⟨rfl, g1⟩
    obtain ⟨x0, rfl⟩ := Wb.start g1
    clear g1
    go_wp2_with fail
    have i0 := x0.lift a0
    have i1 := x0.lift a1
    have i2 := x0.lift a2
    have j0 := x0.lift b0
    have j1 := x0.lift b1
    have j2 := x0.lift b2
    have j3 := x0.lift b3
    refine wp_region_wb (by kernel_rfl) (by kernel_rfl) ?_
    repeat (go_big_quiet_step (first | (go_at_call 17; exact Calls.wb (T1.out _)) | (go_at_call 18; exact Calls.wb (T2.out _))))
    refine wpQuiet_nil ?_
    rintro _ ⟨x1, rfl⟩
    obtain ⟨x2, hx2⟩ := Wb.next (x := x0) x1.bel
    rw [hx2]
    clear i0 i1 i2 j0 j1 j2 j3
    go_wp2_with fail
    have i0 := x2.lift a0
    refine wp_region_wb (by kernel_rfl) (by kernel_rfl) ?_
    repeat (go_big_quiet_step (fail))
    refine wpQuiet_nil ?_
    rintro _ ⟨x3, rfl⟩
    go_wp2
    go_ret
    exact ⟨ret_bool' (by simp), (KB.out x2).trans (x3.bel.mono (by have := x2.size; simp at this; omega))⟩
  | false =>
    have hk0 : 0 ≤ k := by simpa using c0
    have F1 := Lib.hid (fun w => flush_any k x hk0 hx0 hx1 w)
    have F2 := Lib.hid (fun w => rflush_any k x hk0 hx0 hx1 w)
    obtain ⟨A1, hA1⟩ : ∃ A, A = k % 4 := ⟨_, rfl⟩
    obtain ⟨A2, hA2⟩ : ∃ A, A = fpage k x := ⟨_, rfl⟩
    obtain ⟨A3, hA3⟩ : ∃ A, A = fspace k x := ⟨_, rfl⟩
    rw [← hA1, ← hA2, ← hA3] at F1 F2
    unfold fl at F1 F2
    clear hA1 hA2 hA3 hk0
    go_enter Try.func5, Try.ntmps5
    go_wp2_with fail
    refine (AW.out _).mono ?_
    rintro e w1 ⟨rfl, g1⟩
    obtain ⟨x0, rfl⟩ := Wb.start g1
    clear g1
    go_wp2_with fail
    have i0 := x0.lift a0
    have i1 := x0.lift a1
    have i2 := x0.lift a2
    have j0 := x0.lift b0
    have j1 := x0.lift b1
    have j2 := x0.lift b2
    have j3 := x0.lift b3
    refine wp_region_wb (by kernel_rfl) (by kernel_rfl) ?_
    repeat (go_big_quiet_step (first | (go_at_call 17; exact Calls.wb (T1.out _)) | (go_at_call 18; exact Calls.wb (T2.out _))))
    refine wpQuiet_nil ?_
    rintro _ ⟨x1, rfl⟩
    obtain ⟨x2, hx2⟩ := Wb.next (x := x0) x1.bel
    rw [hx2]
    clear i0 i1 i2 j0 j1 j2 j3
    go_wp2_with fail
    have i0 := x2.lift a0
    refine wp_region_wb (by kernel_rfl) (by kernel_rfl) ?_
    repeat (go_big_quiet_step (first | (go_at_call 19; exact Calls.wb (F1.out _)) | (go_at_call 20; exact Calls.wb (F2.out _))))
    refine wpQuiet_nil ?_
    rintro _ ⟨x3, rfl⟩
    go_wp2
    go_ret
    exact ⟨ret_bool' (by simp), (KB.out x2).trans (x3.bel.mono (by have := x2.size; simp at this; omega))⟩

theorem own_nums (s va f l r : Int) (hv0 : 0 ≤ va) (hv1 : va < 18446744073709551616) (h : GrT.fillOk f l = true) (r0 : 0 ≤ r) (r1 : r < 4096) :
    (GrT.fillE s va f l).space = s ∧ (GrT.fillE s va f l).first = f ∧ 0 ≤ (GrT.fillE s va f l).page ∧ (GrT.fillE s va f l).page + r < 18446744073709551616 ∧ GrT.covers (GrT.fillE s va f l) va = true ∧ GrT.covers (GrT.fillE s va f l) ((GrT.fillE s va f l).page + r) = true ∧ ((GrT.fillE s va f l).last = 0 ∨ (GrT.fillE s va f l).last = l) := by
  have hk := GrT.kept_level h
  rw [GrT.fillE, if_pos h]
  have d12 : GrF.down va 12 = va - va % 4096 := GrD.down_mod va 12 (by omega) hv0 hv1
  have d21 : GrF.down va 21 = va - va % 2097152 := GrD.down_mod va 21 (by omega) hv0 hv1
  by_cases c : GrT.leafL f = 1
  · rw [if_pos c]
    have sz : GrT.size f = 21 := by rw [GrT.size, if_pos (hk.1 c)]
    have e : GrF.down (GrF.down va 21 + r) 21 = GrF.down va 21 + r - (GrF.down va 21 + r) % 2097152 := GrD.down_mod _ 21 (by omega) (by omega) (by omega)
    refine ⟨rfl, rfl, by show 0 ≤ GrF.down va 21; omega, by show GrF.down va 21 + r < _; omega, ?_, ?_, .inl rfl⟩
    · simp [GrT.covers, sz]
    · simp only [GrT.covers, sz]
      rw [e]
      simp
      omega
  · rw [if_neg c]
    have sz : GrT.size f = 12 := by rw [GrT.size, if_neg (fun x => c (hk.2 x))]
    have e : GrF.down (GrF.down va 12 + r) 12 = GrF.down va 12 + r - (GrF.down va 12 + r) % 4096 := GrD.down_mod _ 12 (by omega) (by omega) (by omega)
    refine ⟨rfl, rfl, by show 0 ≤ GrF.down va 12; omega, by show GrF.down va 12 + r < _; omega, ?_, ?_, .inr rfl⟩
    · simp [GrT.covers, sz]
    · simp only [GrT.covers, sz]
      rw [e]
      simp
      omega

set_option maxRecDepth 100000 in
set_option maxHeartbeats 3200000 in
theorem town_walk (sp va f l off : Int) (hf0 : 0 ≤ f) (hf1 : f < 18446744073709551616) (hl0 : 0 ≤ l) (hl1 : l < 18446744073709551616) (hv0 : 0 ≤ va) (hv1 : va < 18446744073709551616) (ho0 : 0 ≤ off) (w : World) :
    Calls Try.prog 6 #[.agg #[.int .i64 sp, .int .u64 va, .int .u64 f, .int .u64 l], .int .u64 off] w fun e w' => e = .returned (.bool true) ∧ Below w.heap.size w w' := by
  have F1 := Lib.hid (fun w => fill_any sp va f l hf0 hf1 hl0 hl1 hv0 hv1 w)
  have k0 : ∀ z : Wb (w.alloc (.cells #[.int .i64 sp, .int .u64 va, .int .u64 f, .int .u64 l] 24)), z.at.cell? ⟨w.heap.size, 0, none⟩ = some (.int .i64 sp) := fun z => by rw [z.cell _ (by simp)]; simp [World.cell?_alloc_new]
  have k1 : ∀ z : Wb (w.alloc (.cells #[.int .i64 sp, .int .u64 va, .int .u64 f, .int .u64 l] 24)), z.at.cell? ⟨w.heap.size, 1, none⟩ = some (.int .u64 va) := fun z => by rw [z.cell _ (by simp)]; simp [World.cell?_alloc_new]
  have k2 : ∀ z : Wb (w.alloc (.cells #[.int .i64 sp, .int .u64 va, .int .u64 f, .int .u64 l] 24)), z.at.cell? ⟨w.heap.size, 2, none⟩ = some (.int .u64 f) := fun z => by rw [z.cell _ (by simp)]; simp [World.cell?_alloc_new]
  have k3 : ∀ z : Wb (w.alloc (.cells #[.int .i64 sp, .int .u64 va, .int .u64 f, .int .u64 l] 24)), z.at.cell? ⟨w.heap.size, 3, none⟩ = some (.int .u64 l) := fun z => by rw [z.cell _ (by simp)]; simp [World.cell?_alloc_new]
  have KB := Lib.hid (fun (z : Wb (w.alloc (.cells #[.int .i64 sp, .int .u64 va, .int .u64 f, .int .u64 l] 24))) => (((Below.refl _ _).alloc (Nat.le_refl _) _).trans (z.bel.mono (by simp)) : Below w.heap.size w z.at))
  cases ho : GrT.fillOk f l with
  | false =>
    rw [ho, show GrT.fillE sp va f l = ⟨0, 0, 0, 0⟩ by rw [GrT.fillE, ho]; rfl] at F1
    unfold ev at F1
    clear ho hf0 hf1 hl0 hl1 hv0 hv1
    go_enter Try.func6, Try.ntmps6
    go_wp2_with fail
    refine (tawake_any _).mono ?_
    rintro e w1 ⟨rfl, g1⟩
    obtain ⟨x0, rfl⟩ := Wb.start g1
    clear g1
    go_wp2_with fail
    refine (F1.out _).mono ?_
    rintro e w1 ⟨rfl, g1⟩
    obtain ⟨x1, rfl⟩ := Wb.next g1
    clear g1
    have lt1 : w.heap.size < x1.at.heap.size := by have := x1.size; simp at this; omega
    go_wp2
    go_ret
    exact ⟨ret_bool' (by simp), (KB.out x1).alloc (by omega) _⟩
  | true =>
    have r0 : 0 ≤ off % 4096 := by omega
    have r1 : off % 4096 < 4096 := by omega
    obtain ⟨n1, n2, n3, n4, n5, n6, n7⟩ := own_nums sp va f l (off % 4096) hv0 hv1 ho r0 r1
    rw [ho] at F1
    obtain ⟨X, hX⟩ : ∃ X, X = GrT.fillE sp va f l := ⟨_, rfl⟩
    rw [← hX] at F1 n1 n2 n3 n4 n5 n6 n7
    clear hX ho
    obtain ⟨es, ep, ef, el⟩ := X
    simp only at n1 n2 n3 n4 n5 n6 n7
    subst n1 n2
    have el0 : 0 ≤ el ∧ el < 18446744073709551616 := by rcases n7 with rfl | rfl <;> omega
    have ep1 : ep < 18446744073709551616 := by omega
    have sv : ∀ a, GrT.covers ⟨es, ep, ef, el⟩ a = true → GrT.serves ⟨es, ep, ef, el⟩ es a = true := fun a h => by simp [GrT.serves, h]
    have S1 := Lib.hid (fun w => serves_any es ep ef el es va hf0 hf1 el0.1 el0.2 hv0 hv1 w)
    have S2 := Lib.hid (fun w => serves_any es ep ef el es (ep + off % 4096) hf0 hf1 el0.1 el0.2 (by omega) n4 w)
    have T1 := Lib.hid (fun w => takes_any 1 va es es ep ef el hf0 hf1 el0.1 el0.2 hv0 hv1 w)
    have T2 := Lib.hid (fun w => takes_any 2 va 0 es ep ef el hf0 hf1 el0.1 el0.2 hv0 hv1 w)
    have T0 := Lib.hid (fun w => takes_any 0 0 0 es ep ef el hf0 hf1 el0.1 el0.2 (by omega) (by omega) w)
    rw [sv _ n5] at S1
    rw [sv _ n6] at S2
    rw [show GrT.takes 1 va es ⟨es, ep, ef, el⟩ = true by rw [GrT.takes, if_neg (by decide), if_pos rfl]; exact sv _ n5] at T1
    rw [show GrT.takes 2 va 0 ⟨es, ep, ef, el⟩ = true by rw [GrT.takes, if_neg (by decide), if_neg (by decide), if_pos rfl]; exact n5] at T2
    rw [show GrT.takes 0 0 0 ⟨es, ep, ef, el⟩ = true by rw [GrT.takes, if_pos rfl]] at T0
    unfold ev at F1
    have N4 := n4
    clear sv n5 n6 n7 hf0 hf1 hl0 hl1 hv1 ep1 el0
    go_enter Try.func6, Try.ntmps6
    go_wp2_with fail
    refine (tawake_any _).mono ?_
    rintro e w1 ⟨rfl, g1⟩
    obtain ⟨x0, rfl⟩ := Wb.start g1
    clear g1
    go_wp2_with fail
    refine (F1.out _).mono ?_
    rintro e w1 ⟨rfl, g1⟩
    obtain ⟨x1, rfl⟩ := Wb.next g1
    clear g1
    have lt1 : w.heap.size < x1.at.heap.size := by have := x1.size; simp at this; omega
    have m0 : ∀ z : Wb (x1.at.alloc (.cells #[.int .i64 es, .int .u64 ep, .int .u64 ef, .int .u64 el] 27)), z.at.cell? ⟨x1.at.heap.size, 0, none⟩ = some (.int .i64 es) := fun z => by rw [z.cell _ (by simp)]; simp [World.cell?_alloc_new]
    have m1 : ∀ z : Wb (x1.at.alloc (.cells #[.int .i64 es, .int .u64 ep, .int .u64 ef, .int .u64 el] 27)), z.at.cell? ⟨x1.at.heap.size, 1, none⟩ = some (.int .u64 ep) := fun z => by rw [z.cell _ (by simp)]; simp [World.cell?_alloc_new]
    have m2 : ∀ z : Wb (x1.at.alloc (.cells #[.int .i64 es, .int .u64 ep, .int .u64 ef, .int .u64 el] 27)), z.at.cell? ⟨x1.at.heap.size, 2, none⟩ = some (.int .u64 ef) := fun z => by rw [z.cell _ (by simp)]; simp [World.cell?_alloc_new]
    have m3 : ∀ z : Wb (x1.at.alloc (.cells #[.int .i64 es, .int .u64 ep, .int .u64 ef, .int .u64 el] 27)), z.at.cell? ⟨x1.at.heap.size, 3, none⟩ = some (.int .u64 el) := fun z => by rw [z.cell _ (by simp)]; simp [World.cell?_alloc_new]
    have p0 : ∀ z : Wb (x1.at.alloc (.cells #[.int .i64 es, .int .u64 ep, .int .u64 ef, .int .u64 el] 27)), z.at.cell? ⟨w.heap.size, 0, none⟩ = some (.int .i64 es) := fun z => (z.prev _ lt1).trans (k0 x1)
    have p1 : ∀ z : Wb (x1.at.alloc (.cells #[.int .i64 es, .int .u64 ep, .int .u64 ef, .int .u64 el] 27)), z.at.cell? ⟨w.heap.size, 1, none⟩ = some (.int .u64 va) := fun z => (z.prev _ lt1).trans (k1 x1)
    have p2 : ∀ z : Wb (x1.at.alloc (.cells #[.int .i64 es, .int .u64 ep, .int .u64 ef, .int .u64 el] 27)), z.at.cell? ⟨w.heap.size, 2, none⟩ = some (.int .u64 ef) := fun z => (z.prev _ lt1).trans (k2 x1)
    have p3 : ∀ z : Wb (x1.at.alloc (.cells #[.int .i64 es, .int .u64 ep, .int .u64 ef, .int .u64 el] 27)), z.at.cell? ⟨w.heap.size, 3, none⟩ = some (.int .u64 l) := fun z => (z.prev _ lt1).trans (k3 x1)
    have MB := Lib.hid (fun (z : Wb (x1.at.alloc (.cells #[.int .i64 es, .int .u64 ep, .int .u64 ef, .int .u64 el] 27))) => ((KB.out x1).trans ((((Below.refl _ _).alloc (Nat.le_refl _) _).trans (z.bel.mono (by simp))).mono (by omega)) : Below w.heap.size w z.at))
    go_upto_region 6 with fail
    obtain ⟨y0, hy⟩ : ∃ y : Wb (x1.at.alloc (.cells #[.int .i64 es, .int .u64 ep, .int .u64 ef, .int .u64 el] 27)), (x1.at.alloc (.cells #[.int .i64 es, .int .u64 ep, .int .u64 ef, .int .u64 el] 27)) = y.at := ⟨⟨_, Below.refl _ _⟩, rfl⟩
    rw [hy]
    clear hy
    go_wp2_with fail
    refine (S1.out _).mono ?_
    rintro e w1 ⟨rfl, g1⟩
    obtain ⟨y1, rfl⟩ := Wb.next g1
    clear g1
    go_wp2_with fail
    refine (S2.out _).mono ?_
    rintro e w1 ⟨rfl, g1⟩
    obtain ⟨y2, rfl⟩ := Wb.next g1
    clear g1
    go_wp2_with fail
    refine (T1.out _).mono ?_
    rintro e w1 ⟨rfl, g1⟩
    obtain ⟨y3, rfl⟩ := Wb.next g1
    clear g1
    go_wp2_with fail
    refine (T2.out _).mono ?_
    rintro e w1 ⟨rfl, g1⟩
    obtain ⟨y4, rfl⟩ := Wb.next g1
    clear g1
    go_wp2_with fail
    refine (T0.out _).mono ?_
    rintro e w1 ⟨rfl, g1⟩
    obtain ⟨y5, rfl⟩ := Wb.next g1
    clear g1
    go_wp2
    go_ret
    exact ⟨ret_bool' (by simp), MB.out y5⟩

end Go.Proofs.Ytkdbidnioalfkaa
