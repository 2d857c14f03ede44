/-
  Layer 8, the laws' walks: WalkSyndromes, WalkFirst.
-/
import Derived.Test.YtjmkkidlaebpmaaWa
import Derived.Test.YtjmkkidlaebpmaaWc
import Derived.Test.YtjmkkidlaebpmaaWd
set_option linter.unusedSimpArgs false
set_option linter.unusedVariables false
namespace Go.Proofs.Ytjmkkidlaebpmaa
open Go.RowKit

set_option maxHeartbeats 3200000 in
theorem WalkSyndromes_walk (k l : Int) (b : Bool) (w : World) (l0 : -9223372036854775808 ≤ l) (l1 : l ≤ 9223372036854775807) :
    Calls Try.prog 8 #[.agg #[.int .i64 k, .int .i64 l, .bool b]] w fun e w' => e = .returned (.bool true) ∧ Below w.heap.size w w' := by
  have AW := Lib.hid (fun w => wawake_any w)
  have S1 := Lib.hid (fun w => syn_any k l b w l0 l1)
  have S2 := Lib.hid (fun w => rsyn_any k l b w l0 l1)
  obtain ⟨S, hS⟩ : ∃ S, S = GrW.syn k l b := ⟨_, rfl⟩
  rw [← hS] at S1 S2
  clear hS l0 l1
  have q0 : ∀ z : Wb (w.alloc (.cells #[.int .i64 k, .int .i64 l, .bool b] 36)), z.at.cell? ⟨w.heap.size, 0, none⟩ = some (.int .i64 k) := fun z => by rw [z.cell _ (by simp)]; simp [World.cell?_alloc_new]
  have q1 : ∀ z : Wb (w.alloc (.cells #[.int .i64 k, .int .i64 l, .bool b] 36)), z.at.cell? ⟨w.heap.size, 1, none⟩ = some (.int .i64 l) := fun z => by rw [z.cell _ (by simp)]; simp [World.cell?_alloc_new]
  have q2 : ∀ z : Wb (w.alloc (.cells #[.int .i64 k, .int .i64 l, .bool b] 36)), z.at.cell? ⟨w.heap.size, 2, none⟩ = some (.bool b) := fun z => by rw [z.cell _ (by simp)]; simp [World.cell?_alloc_new]
  have KB := Lib.hid (fun (z : Wb (w.alloc (.cells #[.int .i64 k, .int .i64 l, .bool b] 36))) => (((Below.refl _ _).alloc (Nat.le_refl _) _).trans (z.bel.mono (by simp)) : Below w.heap.size w z.at))
  go_enter Try.func8, Try.ntmps8
  go_wp2_with fail
  refine wp_region_wb (by kernel_rfl) (by kernel_rfl) ?_
  repeat (go_big_quiet_step (first | (go_at_call 15; exact Calls.wb (AW.out _)) | (go_at_call 32; exact Calls.wb (S1.out _)) | (go_at_call 33; exact Calls.wb (S2.out _))))
  refine wpQuiet_nil ?_
  rintro _ ⟨x, rfl⟩
  go_wp2
  go_ret
  exact ⟨by simp, KB.out x⟩

set_option maxRecDepth 100000 in
set_option maxHeartbeats 3200000 in
theorem WalkFirst_walk (f va : Int) (w : World) (hf0 : 0 ≤ f) (hf1 : f < 18446744073709551616) (h0 : 0 ≤ va) (h1 : va < 18446744073709551616) :
    Calls Try.prog 5 #[.int .u64 f, .int .u64 va] w fun e w' => e = .returned (.bool true) ∧ Below w.heap.size w w' := by
  have AW := Lib.hid (fun w => wawake_any w)
  have F1 := Lib.hid (fun w => first_any f va w hf0 hf1 h0 h1)
  have F2 := Lib.hid (fun w => second_any f va w hf0 hf1 h0 h1)
  have RD := Lib.hid (fun w => rdecode_any f 1 w hf0 hf1)
  have e0 : GrW.firstV f = if (GrD.decode f 1).valid = true then GrW.fv 0 0 false else GrW.fv 3 1 false := rfl
  rw [e0] at F1
  obtain ⟨a, ha⟩ : ∃ a, a = GrW.secondA f va := ⟨_, rfl⟩
  obtain ⟨g, hg⟩ : ∃ g, g = GrW.isTable f := ⟨_, rfl⟩
  obtain ⟨D1, hD1⟩ : ∃ D, D = GrD.decode f 1 := ⟨_, rfl⟩
  rw [← ha, ← hg] at F1 F2
  rw [← hD1] at F1 RD
  clear e0 ha hg hD1 hf0 hf1 h0 h1
  have t1 : (a != a) = false := by simp
  have t2 : (g != g) = false := by simp
  obtain ⟨v, t, o, u, r, s, q⟩ := D1
  unfold dv at RD
  cases v with
  | false =>
    have fl := fun w => field0 false t o u r s q w
    simp only [if_true, Bool.false_eq_true, if_false] at F1
    unfold GrW.fv at F1
    go_enter Try.func5, Try.ntmps5
    go_wp2_with fail
    refine (AW.out _).mono ?_
    rintro e w1 ⟨rfl, b⟩
    obtain ⟨x0, rfl⟩ := Wb.start b
    clear b
    go_wp2_with fail
    refine (F1.out _).mono ?_
    rintro e w1 ⟨rfl, b⟩
    obtain ⟨x1, rfl⟩ := Wb.next b
    clear b
    have m0 : ∀ z : Wb (x1.at.alloc (.cells #[.int .i64 3, .int .i64 1, .bool false] 36)), z.at.cell? ⟨x1.at.heap.size, 0, none⟩ = some (.int .i64 3) := fun z => by rw [z.cell _ (by simp)]; simp [World.cell?_alloc_new]
    have m1 : ∀ z : Wb (x1.at.alloc (.cells #[.int .i64 3, .int .i64 1, .bool false] 36)), z.at.cell? ⟨x1.at.heap.size, 1, none⟩ = some (.int .i64 1) := fun z => by rw [z.cell _ (by simp)]; simp [World.cell?_alloc_new]
    have m2 : ∀ z : Wb (x1.at.alloc (.cells #[.int .i64 3, .int .i64 1, .bool false] 36)), z.at.cell? ⟨x1.at.heap.size, 2, none⟩ = some (.bool false) := fun z => by rw [z.cell _ (by simp)]; simp [World.cell?_alloc_new]
    have KB := Lib.hid (fun (z : Wb (x1.at.alloc (.cells #[.int .i64 3, .int .i64 1, .bool false] 36))) => (x1.bel.trans ((((Below.refl _ _).alloc (Nat.le_refl _) _).trans (z.bel.mono (by simp))).mono x1.size) : Below w.heap.size w z.at))
    go_upto_region 4 with fail
    obtain ⟨y0, hy⟩ : ∃ y : Wb (x1.at.alloc (.cells #[.int .i64 3, .int .i64 1, .bool false] 36)), x1.at.alloc (.cells #[.int .i64 3, .int .i64 1, .bool false] 36) = y.at := ⟨⟨_, Below.refl _ _⟩, rfl⟩
    rw [hy]
    clear hy
    go_wp2_with fail
    refine (F2.out _).mono ?_
    rintro e w1 ⟨rfl, b⟩
    obtain ⟨y1, rfl⟩ := Wb.next b
    clear b
    go_wp2_with fail
    refine (RD.out _).mono ?_
    rintro e w1 ⟨rfl, b⟩
    obtain ⟨y2, rfl⟩ := Wb.next b
    clear b
    go_wp2
    go_ret
    exact ⟨by first | rfl | simp, KB.out y2⟩
  | true =>
    have fl := fun w => field0 true t o u r s q w
    simp only [if_true, Bool.false_eq_true, if_false] at F1
    unfold GrW.fv at F1
    go_enter Try.func5, Try.ntmps5
    go_wp2_with fail
    refine (AW.out _).mono ?_
    rintro e w1 ⟨rfl, b⟩
    obtain ⟨x0, rfl⟩ := Wb.start b
    clear b
    go_wp2_with fail
    refine (F1.out _).mono ?_
    rintro e w1 ⟨rfl, b⟩
    obtain ⟨x1, rfl⟩ := Wb.next b
    clear b
    have m0 : ∀ z : Wb (x1.at.alloc (.cells #[.int .i64 0, .int .i64 0, .bool false] 36)), z.at.cell? ⟨x1.at.heap.size, 0, none⟩ = some (.int .i64 0) := fun z => by rw [z.cell _ (by simp)]; simp [World.cell?_alloc_new]
    have m1 : ∀ z : Wb (x1.at.alloc (.cells #[.int .i64 0, .int .i64 0, .bool false] 36)), z.at.cell? ⟨x1.at.heap.size, 1, none⟩ = some (.int .i64 0) := fun z => by rw [z.cell _ (by simp)]; simp [World.cell?_alloc_new]
    have m2 : ∀ z : Wb (x1.at.alloc (.cells #[.int .i64 0, .int .i64 0, .bool false] 36)), z.at.cell? ⟨x1.at.heap.size, 2, none⟩ = some (.bool false) := fun z => by rw [z.cell _ (by simp)]; simp [World.cell?_alloc_new]
    have KB := Lib.hid (fun (z : Wb (x1.at.alloc (.cells #[.int .i64 0, .int .i64 0, .bool false] 36))) => (x1.bel.trans ((((Below.refl _ _).alloc (Nat.le_refl _) _).trans (z.bel.mono (by simp))).mono x1.size) : Below w.heap.size w z.at))
    go_upto_region 4 with fail
    obtain ⟨y0, hy⟩ : ∃ y : Wb (x1.at.alloc (.cells #[.int .i64 0, .int .i64 0, .bool false] 36)), x1.at.alloc (.cells #[.int .i64 0, .int .i64 0, .bool false] 36) = y.at := ⟨⟨_, Below.refl _ _⟩, rfl⟩
    rw [hy]
    clear hy
    go_wp2_with fail
    refine (F2.out _).mono ?_
    rintro e w1 ⟨rfl, b⟩
    obtain ⟨y1, rfl⟩ := Wb.next b
    clear b
    go_wp2_with fail
    refine (RD.out _).mono ?_
    rintro e w1 ⟨rfl, b⟩
    obtain ⟨y2, rfl⟩ := Wb.next b
    clear b
    go_wp2
    go_ret
    exact ⟨by first | rfl | simp, KB.out y2⟩
end Go.Proofs.Ytjmkkidlaebpmaa
