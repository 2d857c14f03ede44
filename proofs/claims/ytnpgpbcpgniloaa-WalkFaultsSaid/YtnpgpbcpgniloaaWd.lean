/-
  Layer 8, the walks: Syndrome, and the page's.
-/
import Derived.Test.YtnpgpbcpgniloaaWb
set_option linter.unusedSimpArgs false
set_option linter.unusedVariables false
namespace GrW
open Go
def synB (b : Bool) : Int := if b = true then 2516582464 else 2516582400
def synC (k l : Int) : Int := if k = 2 then 4 else if k = 3 then (4 + l) % 64 else if k = 4 then (8 + l) % 64 else if k = 5 then (12 + l) % 64 else 33
def syn (k l : Int) (b : Bool) : Int := if k = 0 then 0 else synB b + synC k l
end GrW
namespace Go.Proofs.Ytnpgpbcpgniloaa
open Go.RowKit

theorem put_below (x hi lo v : Int) (w : World) (h0 : 0 ≤ x) (h1 : x < 18446744073709551616) (h5 : 0 ≤ v) :
    Calls Try.prog 47 #[.int .u64 x, .int .i64 hi, .int .i64 lo, .int .u64 v] w fun e w' => e = .returned (.int .u64 (GrF.put x hi lo v)) ∧ Below w.heap.size w w' :=
  (put_any x hi lo v w h0 h1 h5).mono fun _ _ h => ⟨h.1, h.2.below _⟩
theorem rsyn_eq (B c l : Int) (hB : 0 ≤ B) (hB2 : B ≤ 2516582464) (hc : 0 ≤ c) (hc2 : c ≤ 12) : IntKind.u64.wrap (B + (IntKind.u64.wrap (c + (IntKind.u64.wrap ((IntKind.u64.wrap l).tmod 64 + 64)).tmod 64)).tmod 64) = B + (c + l) % 64 := by
  have w0 : ∀ x : Int, 0 ≤ IntKind.u64.wrap x := fun x => by rw [IntKind.wrap_u64]; omega
  rw [Int.tmod_eq_emod_of_nonneg (w0 l), Int.tmod_eq_emod_of_nonneg (w0 _), Int.tmod_eq_emod_of_nonneg (w0 _)]
  simp only [IntKind.wrap_u64]
  omega
set_option maxHeartbeats 1600000 in
theorem syn_0_false (l : Int) (w : World) (l0 : -9223372036854775808 ≤ l) (l1 : l ≤ 9223372036854775807) :
    Calls Try.prog 17 #[.agg #[.int .i64 0, .int .i64 l, .bool false]] w fun e w' => e = .returned (.int .u64 (GrW.syn 0 l false)) ∧ Below w.heap.size w w' := by
  have E : GrW.syn 0 l false = 0 := by simp [GrW.syn, GrW.synB, GrW.synC]
  rw [E]
  clear E
  go_enter Try.func17, Try.ntmps17
  go_wp2
  go_ret
  refine ⟨ret_u64 (by first | rfl | exact rsyn_eq _ _ _ (by omega) (by omega) (by omega) (by omega) | (simp [IntKind.wrap_u64]; done) | (simp [IntKind.wrap_u64]; omega) | omega), ?_⟩
  exact (Below.refl w.heap.size w).alloc (Nat.le_refl _) _

set_option maxHeartbeats 1600000 in
theorem syn_0_true (l : Int) (w : World) (l0 : -9223372036854775808 ≤ l) (l1 : l ≤ 9223372036854775807) :
    Calls Try.prog 17 #[.agg #[.int .i64 0, .int .i64 l, .bool true]] w fun e w' => e = .returned (.int .u64 (GrW.syn 0 l true)) ∧ Below w.heap.size w w' := by
  have E : GrW.syn 0 l true = 0 := by simp [GrW.syn, GrW.synB, GrW.synC]
  rw [E]
  clear E
  go_enter Try.func17, Try.ntmps17
  go_wp2
  go_ret
  refine ⟨ret_u64 (by first | rfl | exact rsyn_eq _ _ _ (by omega) (by omega) (by omega) (by omega) | (simp [IntKind.wrap_u64]; done) | (simp [IntKind.wrap_u64]; omega) | omega), ?_⟩
  exact (Below.refl w.heap.size w).alloc (Nat.le_refl _) _

set_option maxHeartbeats 1600000 in
theorem syn_2_false (l : Int) (w : World) (l0 : -9223372036854775808 ≤ l) (l1 : l ≤ 9223372036854775807) :
    Calls Try.prog 17 #[.agg #[.int .i64 2, .int .i64 l, .bool false]] w fun e w' => e = .returned (.int .u64 (GrW.syn 2 l false)) ∧ Below w.heap.size w w' := by
  have E : GrW.syn 2 l false = 2516582400 + 4 := by simp [GrW.syn, GrW.synB, GrW.synC]
  rw [E]
  clear E
  have P1 := Lib.hid (fun w => put_below 33554432 31 26 37 w (by omega) (by omega) (by omega))
  rw [show GrF.put 33554432 31 26 37 = 2516582400 by decide +kernel] at P1
  have cb : (0 : Int) ≤ (4 : Int) := by omega
  have P3 := Lib.hid (fun w => put_below 2516582400 5 0 (4 : Int) w (by omega) (by omega) cb)
  rw [show GrF.put 2516582400 5 0 (4 : Int) = 2516582400 + 4 from (GrD.put_low 2516582400 (4 : Int) 5 (by omega) (by omega) (by omega) cb).trans (by decide)] at P3
  clear cb l0 l1
  have k0 : ∀ z : Wb (w.alloc (.cells #[.int .i64 2, .int .i64 l, .bool false] 28)), z.at.cell? ⟨w.heap.size, 0, none⟩ = some (.int .i64 2) := fun z => by rw [z.cell _ (by simp)]; simp [World.cell?_alloc_new]
  have k1 : ∀ z : Wb (w.alloc (.cells #[.int .i64 2, .int .i64 l, .bool false] 28)), z.at.cell? ⟨w.heap.size, 1, none⟩ = some (.int .i64 l) := fun z => by rw [z.cell _ (by simp)]; simp [World.cell?_alloc_new]
  have k2 : ∀ z : Wb (w.alloc (.cells #[.int .i64 2, .int .i64 l, .bool false] 28)), z.at.cell? ⟨w.heap.size, 2, none⟩ = some (.bool false) := fun z => by rw [z.cell _ (by simp)]; simp [World.cell?_alloc_new]
  have KB := Lib.hid (fun (z : Wb (w.alloc (.cells #[.int .i64 2, .int .i64 l, .bool false] 28))) => (((Below.refl _ _).alloc (Nat.le_refl _) _).trans (z.bel.mono (by simp)) : Below w.heap.size w z.at))
  go_enter Try.func17, Try.ntmps17
  go_wp2_with fail
  refine (P1.out _).mono ?_
  rintro e w1 ⟨rfl, g⟩
  obtain ⟨x0, rfl⟩ := Wb.start g
  clear g
  go_wp2_with fail
  refine (P3.out _).mono ?_
  rintro e w1 ⟨rfl, g⟩
  obtain ⟨x1, rfl⟩ := Wb.next g
  clear g
  go_wp2
  go_ret
  exact ⟨rfl, KB.out x1⟩

set_option maxHeartbeats 1600000 in
theorem syn_2_true (l : Int) (w : World) (l0 : -9223372036854775808 ≤ l) (l1 : l ≤ 9223372036854775807) :
    Calls Try.prog 17 #[.agg #[.int .i64 2, .int .i64 l, .bool true]] w fun e w' => e = .returned (.int .u64 (GrW.syn 2 l true)) ∧ Below w.heap.size w w' := by
  have E : GrW.syn 2 l true = 2516582464 + 4 := by simp [GrW.syn, GrW.synB, GrW.synC]
  rw [E]
  clear E
  have P1 := Lib.hid (fun w => put_below 33554432 31 26 37 w (by omega) (by omega) (by omega))
  rw [show GrF.put 33554432 31 26 37 = 2516582400 by decide +kernel] at P1
  have P2 := Lib.hid (fun w => put_below 2516582400 6 6 1 w (by omega) (by omega) (by omega))
  rw [show GrF.put 2516582400 6 6 1 = 2516582464 by decide +kernel] at P2
  have cb : (0 : Int) ≤ (4 : Int) := by omega
  have P3 := Lib.hid (fun w => put_below 2516582464 5 0 (4 : Int) w (by omega) (by omega) cb)
  rw [show GrF.put 2516582464 5 0 (4 : Int) = 2516582464 + 4 from (GrD.put_low 2516582464 (4 : Int) 5 (by omega) (by omega) (by omega) cb).trans (by decide)] at P3
  clear cb l0 l1
  have k0 : ∀ z : Wb (w.alloc (.cells #[.int .i64 2, .int .i64 l, .bool true] 28)), z.at.cell? ⟨w.heap.size, 0, none⟩ = some (.int .i64 2) := fun z => by rw [z.cell _ (by simp)]; simp [World.cell?_alloc_new]
  have k1 : ∀ z : Wb (w.alloc (.cells #[.int .i64 2, .int .i64 l, .bool true] 28)), z.at.cell? ⟨w.heap.size, 1, none⟩ = some (.int .i64 l) := fun z => by rw [z.cell _ (by simp)]; simp [World.cell?_alloc_new]
  have k2 : ∀ z : Wb (w.alloc (.cells #[.int .i64 2, .int .i64 l, .bool true] 28)), z.at.cell? ⟨w.heap.size, 2, none⟩ = some (.bool true) := fun z => by rw [z.cell _ (by simp)]; simp [World.cell?_alloc_new]
  have KB := Lib.hid (fun (z : Wb (w.alloc (.cells #[.int .i64 2, .int .i64 l, .bool true] 28))) => (((Below.refl _ _).alloc (Nat.le_refl _) _).trans (z.bel.mono (by simp)) : Below w.heap.size w z.at))
  go_enter Try.func17, Try.ntmps17
  go_wp2_with fail
  refine (P1.out _).mono ?_
  rintro e w1 ⟨rfl, g⟩
  obtain ⟨x0, rfl⟩ := Wb.start g
  clear g
  go_wp2_with fail
  refine (P2.out _).mono ?_
  rintro e w1 ⟨rfl, g⟩
  obtain ⟨x1, rfl⟩ := Wb.next g
  clear g
  go_wp2_with fail
  refine (P3.out _).mono ?_
  rintro e w1 ⟨rfl, g⟩
  obtain ⟨x2, rfl⟩ := Wb.next g
  clear g
  go_wp2
  go_ret
  exact ⟨rfl, KB.out x2⟩

set_option maxHeartbeats 1600000 in
theorem syn_3_false (l : Int) (w : World) (l0 : -9223372036854775808 ≤ l) (l1 : l ≤ 9223372036854775807) :
    Calls Try.prog 17 #[.agg #[.int .i64 3, .int .i64 l, .bool false]] w fun e w' => e = .returned (.int .u64 (GrW.syn 3 l false)) ∧ Below w.heap.size w w' := by
  have E : GrW.syn 3 l false = 2516582400 + (4 + l) % 64 := by simp [GrW.syn, GrW.synB, GrW.synC]
  rw [E]
  clear E
  have P1 := Lib.hid (fun w => put_below 33554432 31 26 37 w (by omega) (by omega) (by omega))
  rw [show GrF.put 33554432 31 26 37 = 2516582400 by decide +kernel] at P1
  have cb : (0 : Int) ≤ (IntKind.u64.wrap (wrap64 (4 + l))) := by rw [IntKind.wrap_u64]; omega
  have P3 := Lib.hid (fun w => put_below 2516582400 5 0 (IntKind.u64.wrap (wrap64 (4 + l))) w (by omega) (by omega) cb)
  rw [show GrF.put 2516582400 5 0 (IntKind.u64.wrap (wrap64 (4 + l))) = 2516582400 + (4 + l) % 64 from (GrD.put_low 2516582400 (IntKind.u64.wrap (wrap64 (4 + l))) 5 (by omega) (by omega) (by omega) cb).trans (by rw [IntKind.wrap_u64]; unfold wrap64; simp only [Nat.reducePow, Nat.reduceAdd]; omega)] at P3
  clear cb l0 l1
  have k0 : ∀ z : Wb (w.alloc (.cells #[.int .i64 3, .int .i64 l, .bool false] 28)), z.at.cell? ⟨w.heap.size, 0, none⟩ = some (.int .i64 3) := fun z => by rw [z.cell _ (by simp)]; simp [World.cell?_alloc_new]
  have k1 : ∀ z : Wb (w.alloc (.cells #[.int .i64 3, .int .i64 l, .bool false] 28)), z.at.cell? ⟨w.heap.size, 1, none⟩ = some (.int .i64 l) := fun z => by rw [z.cell _ (by simp)]; simp [World.cell?_alloc_new]
  have k2 : ∀ z : Wb (w.alloc (.cells #[.int .i64 3, .int .i64 l, .bool false] 28)), z.at.cell? ⟨w.heap.size, 2, none⟩ = some (.bool false) := fun z => by rw [z.cell _ (by simp)]; simp [World.cell?_alloc_new]
  have KB := Lib.hid (fun (z : Wb (w.alloc (.cells #[.int .i64 3, .int .i64 l, .bool false] 28))) => (((Below.refl _ _).alloc (Nat.le_refl _) _).trans (z.bel.mono (by simp)) : Below w.heap.size w z.at))
  go_enter Try.func17, Try.ntmps17
  go_wp2_with fail
  refine (P1.out _).mono ?_
  rintro e w1 ⟨rfl, g⟩
  obtain ⟨x0, rfl⟩ := Wb.start g
  clear g
  go_wp2_with fail
  refine (P3.out _).mono ?_
  rintro e w1 ⟨rfl, g⟩
  obtain ⟨x1, rfl⟩ := Wb.next g
  clear g
  go_wp2
  go_ret
  exact ⟨rfl, KB.out x1⟩

set_option maxHeartbeats 1600000 in
theorem syn_3_true (l : Int) (w : World) (l0 : -9223372036854775808 ≤ l) (l1 : l ≤ 9223372036854775807) :
    Calls Try.prog 17 #[.agg #[.int .i64 3, .int .i64 l, .bool true]] w fun e w' => e = .returned (.int .u64 (GrW.syn 3 l true)) ∧ Below w.heap.size w w' := by
  have E : GrW.syn 3 l true = 2516582464 + (4 + l) % 64 := by simp [GrW.syn, GrW.synB, GrW.synC]
  rw [E]
  clear E
  have P1 := Lib.hid (fun w => put_below 33554432 31 26 37 w (by omega) (by omega) (by omega))
  rw [show GrF.put 33554432 31 26 37 = 2516582400 by decide +kernel] at P1
  have P2 := Lib.hid (fun w => put_below 2516582400 6 6 1 w (by omega) (by omega) (by omega))
  rw [show GrF.put 2516582400 6 6 1 = 2516582464 by decide +kernel] at P2
  have cb : (0 : Int) ≤ (IntKind.u64.wrap (wrap64 (4 + l))) := by rw [IntKind.wrap_u64]; omega
  have P3 := Lib.hid (fun w => put_below 2516582464 5 0 (IntKind.u64.wrap (wrap64 (4 + l))) w (by omega) (by omega) cb)
  rw [show GrF.put 2516582464 5 0 (IntKind.u64.wrap (wrap64 (4 + l))) = 2516582464 + (4 + l) % 64 from (GrD.put_low 2516582464 (IntKind.u64.wrap (wrap64 (4 + l))) 5 (by omega) (by omega) (by omega) cb).trans (by rw [IntKind.wrap_u64]; unfold wrap64; simp only [Nat.reducePow, Nat.reduceAdd]; omega)] at P3
  clear cb l0 l1
  have k0 : ∀ z : Wb (w.alloc (.cells #[.int .i64 3, .int .i64 l, .bool true] 28)), z.at.cell? ⟨w.heap.size, 0, none⟩ = some (.int .i64 3) := fun z => by rw [z.cell _ (by simp)]; simp [World.cell?_alloc_new]
  have k1 : ∀ z : Wb (w.alloc (.cells #[.int .i64 3, .int .i64 l, .bool true] 28)), z.at.cell? ⟨w.heap.size, 1, none⟩ = some (.int .i64 l) := fun z => by rw [z.cell _ (by simp)]; simp [World.cell?_alloc_new]
  have k2 : ∀ z : Wb (w.alloc (.cells #[.int .i64 3, .int .i64 l, .bool true] 28)), z.at.cell? ⟨w.heap.size, 2, none⟩ = some (.bool true) := fun z => by rw [z.cell _ (by simp)]; simp [World.cell?_alloc_new]
  have KB := Lib.hid (fun (z : Wb (w.alloc (.cells #[.int .i64 3, .int .i64 l, .bool true] 28))) => (((Below.refl _ _).alloc (Nat.le_refl _) _).trans (z.bel.mono (by simp)) : Below w.heap.size w z.at))
  go_enter Try.func17, Try.ntmps17
  go_wp2_with fail
  refine (P1.out _).mono ?_
  rintro e w1 ⟨rfl, g⟩
  obtain ⟨x0, rfl⟩ := Wb.start g
  clear g
  go_wp2_with fail
  refine (P2.out _).mono ?_
  rintro e w1 ⟨rfl, g⟩
  obtain ⟨x1, rfl⟩ := Wb.next g
  clear g
  go_wp2_with fail
  refine (P3.out _).mono ?_
  rintro e w1 ⟨rfl, g⟩
  obtain ⟨x2, rfl⟩ := Wb.next g
  clear g
  go_wp2
  go_ret
  exact ⟨rfl, KB.out x2⟩

set_option maxHeartbeats 1600000 in
theorem syn_4_false (l : Int) (w : World) (l0 : -9223372036854775808 ≤ l) (l1 : l ≤ 9223372036854775807) :
    Calls Try.prog 17 #[.agg #[.int .i64 4, .int .i64 l, .bool false]] w fun e w' => e = .returned (.int .u64 (GrW.syn 4 l false)) ∧ Below w.heap.size w w' := by
  have E : GrW.syn 4 l false = 2516582400 + (8 + l) % 64 := by simp [GrW.syn, GrW.synB, GrW.synC]
  rw [E]
  clear E
  have P1 := Lib.hid (fun w => put_below 33554432 31 26 37 w (by omega) (by omega) (by omega))
  rw [show GrF.put 33554432 31 26 37 = 2516582400 by decide +kernel] at P1
  have cb : (0 : Int) ≤ (IntKind.u64.wrap (wrap64 (8 + l))) := by rw [IntKind.wrap_u64]; omega
  have P3 := Lib.hid (fun w => put_below 2516582400 5 0 (IntKind.u64.wrap (wrap64 (8 + l))) w (by omega) (by omega) cb)
  rw [show GrF.put 2516582400 5 0 (IntKind.u64.wrap (wrap64 (8 + l))) = 2516582400 + (8 + l) % 64 from (GrD.put_low 2516582400 (IntKind.u64.wrap (wrap64 (8 + l))) 5 (by omega) (by omega) (by omega) cb).trans (by rw [IntKind.wrap_u64]; unfold wrap64; simp only [Nat.reducePow, Nat.reduceAdd]; omega)] at P3
  clear cb l0 l1
  have k0 : ∀ z : Wb (w.alloc (.cells #[.int .i64 4, .int .i64 l, .bool false] 28)), z.at.cell? ⟨w.heap.size, 0, none⟩ = some (.int .i64 4) := fun z => by rw [z.cell _ (by simp)]; simp [World.cell?_alloc_new]
  have k1 : ∀ z : Wb (w.alloc (.cells #[.int .i64 4, .int .i64 l, .bool false] 28)), z.at.cell? ⟨w.heap.size, 1, none⟩ = some (.int .i64 l) := fun z => by rw [z.cell _ (by simp)]; simp [World.cell?_alloc_new]
  have k2 : ∀ z : Wb (w.alloc (.cells #[.int .i64 4, .int .i64 l, .bool false] 28)), z.at.cell? ⟨w.heap.size, 2, none⟩ = some (.bool false) := fun z => by rw [z.cell _ (by simp)]; simp [World.cell?_alloc_new]
  have KB := Lib.hid (fun (z : Wb (w.alloc (.cells #[.int .i64 4, .int .i64 l, .bool false] 28))) => (((Below.refl _ _).alloc (Nat.le_refl _) _).trans (z.bel.mono (by simp)) : Below w.heap.size w z.at))
  go_enter Try.func17, Try.ntmps17
  go_wp2_with fail
  refine (P1.out _).mono ?_
  rintro e w1 ⟨rfl, g⟩
  obtain ⟨x0, rfl⟩ := Wb.start g
  clear g
  go_wp2_with fail
  refine (P3.out _).mono ?_
  rintro e w1 ⟨rfl, g⟩
  obtain ⟨x1, rfl⟩ := Wb.next g
  clear g
  go_wp2
  go_ret
  exact ⟨rfl, KB.out x1⟩

set_option maxHeartbeats 1600000 in
theorem syn_4_true (l : Int) (w : World) (l0 : -9223372036854775808 ≤ l) (l1 : l ≤ 9223372036854775807) :
    Calls Try.prog 17 #[.agg #[.int .i64 4, .int .i64 l, .bool true]] w fun e w' => e = .returned (.int .u64 (GrW.syn 4 l true)) ∧ Below w.heap.size w w' := by
  have E : GrW.syn 4 l true = 2516582464 + (8 + l) % 64 := by simp [GrW.syn, GrW.synB, GrW.synC]
  rw [E]
  clear E
  have P1 := Lib.hid (fun w => put_below 33554432 31 26 37 w (by omega) (by omega) (by omega))
  rw [show GrF.put 33554432 31 26 37 = 2516582400 by decide +kernel] at P1
  have P2 := Lib.hid (fun w => put_below 2516582400 6 6 1 w (by omega) (by omega) (by omega))
  rw [show GrF.put 2516582400 6 6 1 = 2516582464 by decide +kernel] at P2
  have cb : (0 : Int) ≤ (IntKind.u64.wrap (wrap64 (8 + l))) := by rw [IntKind.wrap_u64]; omega
  have P3 := Lib.hid (fun w => put_below 2516582464 5 0 (IntKind.u64.wrap (wrap64 (8 + l))) w (by omega) (by omega) cb)
  rw [show GrF.put 2516582464 5 0 (IntKind.u64.wrap (wrap64 (8 + l))) = 2516582464 + (8 + l) % 64 from (GrD.put_low 2516582464 (IntKind.u64.wrap (wrap64 (8 + l))) 5 (by omega) (by omega) (by omega) cb).trans (by rw [IntKind.wrap_u64]; unfold wrap64; simp only [Nat.reducePow, Nat.reduceAdd]; omega)] at P3
  clear cb l0 l1
  have k0 : ∀ z : Wb (w.alloc (.cells #[.int .i64 4, .int .i64 l, .bool true] 28)), z.at.cell? ⟨w.heap.size, 0, none⟩ = some (.int .i64 4) := fun z => by rw [z.cell _ (by simp)]; simp [World.cell?_alloc_new]
  have k1 : ∀ z : Wb (w.alloc (.cells #[.int .i64 4, .int .i64 l, .bool true] 28)), z.at.cell? ⟨w.heap.size, 1, none⟩ = some (.int .i64 l) := fun z => by rw [z.cell _ (by simp)]; simp [World.cell?_alloc_new]
  have k2 : ∀ z : Wb (w.alloc (.cells #[.int .i64 4, .int .i64 l, .bool true] 28)), z.at.cell? ⟨w.heap.size, 2, none⟩ = some (.bool true) := fun z => by rw [z.cell _ (by simp)]; simp [World.cell?_alloc_new]
  have KB := Lib.hid (fun (z : Wb (w.alloc (.cells #[.int .i64 4, .int .i64 l, .bool true] 28))) => (((Below.refl _ _).alloc (Nat.le_refl _) _).trans (z.bel.mono (by simp)) : Below w.heap.size w z.at))
  go_enter Try.func17, Try.ntmps17
  go_wp2_with fail
  refine (P1.out _).mono ?_
  rintro e w1 ⟨rfl, g⟩
  obtain ⟨x0, rfl⟩ := Wb.start g
  clear g
  go_wp2_with fail
  refine (P2.out _).mono ?_
  rintro e w1 ⟨rfl, g⟩
  obtain ⟨x1, rfl⟩ := Wb.next g
  clear g
  go_wp2_with fail
  refine (P3.out _).mono ?_
  rintro e w1 ⟨rfl, g⟩
  obtain ⟨x2, rfl⟩ := Wb.next g
  clear g
  go_wp2
  go_ret
  exact ⟨rfl, KB.out x2⟩

set_option maxHeartbeats 1600000 in
theorem syn_5_false (l : Int) (w : World) (l0 : -9223372036854775808 ≤ l) (l1 : l ≤ 9223372036854775807) :
    Calls Try.prog 17 #[.agg #[.int .i64 5, .int .i64 l, .bool false]] w fun e w' => e = .returned (.int .u64 (GrW.syn 5 l false)) ∧ Below w.heap.size w w' := by
  have E : GrW.syn 5 l false = 2516582400 + (12 + l) % 64 := by simp [GrW.syn, GrW.synB, GrW.synC]
  rw [E]
  clear E
  have P1 := Lib.hid (fun w => put_below 33554432 31 26 37 w (by omega) (by omega) (by omega))
  rw [show GrF.put 33554432 31 26 37 = 2516582400 by decide +kernel] at P1
  have cb : (0 : Int) ≤ (IntKind.u64.wrap (wrap64 (12 + l))) := by rw [IntKind.wrap_u64]; omega
  have P3 := Lib.hid (fun w => put_below 2516582400 5 0 (IntKind.u64.wrap (wrap64 (12 + l))) w (by omega) (by omega) cb)
  rw [show GrF.put 2516582400 5 0 (IntKind.u64.wrap (wrap64 (12 + l))) = 2516582400 + (12 + l) % 64 from (GrD.put_low 2516582400 (IntKind.u64.wrap (wrap64 (12 + l))) 5 (by omega) (by omega) (by omega) cb).trans (by rw [IntKind.wrap_u64]; unfold wrap64; simp only [Nat.reducePow, Nat.reduceAdd]; omega)] at P3
  clear cb l0 l1
  have k0 : ∀ z : Wb (w.alloc (.cells #[.int .i64 5, .int .i64 l, .bool false] 28)), z.at.cell? ⟨w.heap.size, 0, none⟩ = some (.int .i64 5) := fun z => by rw [z.cell _ (by simp)]; simp [World.cell?_alloc_new]
  have k1 : ∀ z : Wb (w.alloc (.cells #[.int .i64 5, .int .i64 l, .bool false] 28)), z.at.cell? ⟨w.heap.size, 1, none⟩ = some (.int .i64 l) := fun z => by rw [z.cell _ (by simp)]; simp [World.cell?_alloc_new]
  have k2 : ∀ z : Wb (w.alloc (.cells #[.int .i64 5, .int .i64 l, .bool false] 28)), z.at.cell? ⟨w.heap.size, 2, none⟩ = some (.bool false) := fun z => by rw [z.cell _ (by simp)]; simp [World.cell?_alloc_new]
  have KB := Lib.hid (fun (z : Wb (w.alloc (.cells #[.int .i64 5, .int .i64 l, .bool false] 28))) => (((Below.refl _ _).alloc (Nat.le_refl _) _).trans (z.bel.mono (by simp)) : Below w.heap.size w z.at))
  go_enter Try.func17, Try.ntmps17
  go_wp2_with fail
  refine (P1.out _).mono ?_
  rintro e w1 ⟨rfl, g⟩
  obtain ⟨x0, rfl⟩ := Wb.start g
  clear g
  go_wp2_with fail
  refine (P3.out _).mono ?_
  rintro e w1 ⟨rfl, g⟩
  obtain ⟨x1, rfl⟩ := Wb.next g
  clear g
  go_wp2
  go_ret
  exact ⟨rfl, KB.out x1⟩

set_option maxHeartbeats 1600000 in
theorem syn_5_true (l : Int) (w : World) (l0 : -9223372036854775808 ≤ l) (l1 : l ≤ 9223372036854775807) :
    Calls Try.prog 17 #[.agg #[.int .i64 5, .int .i64 l, .bool true]] w fun e w' => e = .returned (.int .u64 (GrW.syn 5 l true)) ∧ Below w.heap.size w w' := by
  have E : GrW.syn 5 l true = 2516582464 + (12 + l) % 64 := by simp [GrW.syn, GrW.synB, GrW.synC]
  rw [E]
  clear E
  have P1 := Lib.hid (fun w => put_below 33554432 31 26 37 w (by omega) (by omega) (by omega))
  rw [show GrF.put 33554432 31 26 37 = 2516582400 by decide +kernel] at P1
  have P2 := Lib.hid (fun w => put_below 2516582400 6 6 1 w (by omega) (by omega) (by omega))
  rw [show GrF.put 2516582400 6 6 1 = 2516582464 by decide +kernel] at P2
  have cb : (0 : Int) ≤ (IntKind.u64.wrap (wrap64 (12 + l))) := by rw [IntKind.wrap_u64]; omega
  have P3 := Lib.hid (fun w => put_below 2516582464 5 0 (IntKind.u64.wrap (wrap64 (12 + l))) w (by omega) (by omega) cb)
  rw [show GrF.put 2516582464 5 0 (IntKind.u64.wrap (wrap64 (12 + l))) = 2516582464 + (12 + l) % 64 from (GrD.put_low 2516582464 (IntKind.u64.wrap (wrap64 (12 + l))) 5 (by omega) (by omega) (by omega) cb).trans (by rw [IntKind.wrap_u64]; unfold wrap64; simp only [Nat.reducePow, Nat.reduceAdd]; omega)] at P3
  clear cb l0 l1
  have k0 : ∀ z : Wb (w.alloc (.cells #[.int .i64 5, .int .i64 l, .bool true] 28)), z.at.cell? ⟨w.heap.size, 0, none⟩ = some (.int .i64 5) := fun z => by rw [z.cell _ (by simp)]; simp [World.cell?_alloc_new]
  have k1 : ∀ z : Wb (w.alloc (.cells #[.int .i64 5, .int .i64 l, .bool true] 28)), z.at.cell? ⟨w.heap.size, 1, none⟩ = some (.int .i64 l) := fun z => by rw [z.cell _ (by simp)]; simp [World.cell?_alloc_new]
  have k2 : ∀ z : Wb (w.alloc (.cells #[.int .i64 5, .int .i64 l, .bool true] 28)), z.at.cell? ⟨w.heap.size, 2, none⟩ = some (.bool true) := fun z => by rw [z.cell _ (by simp)]; simp [World.cell?_alloc_new]
  have KB := Lib.hid (fun (z : Wb (w.alloc (.cells #[.int .i64 5, .int .i64 l, .bool true] 28))) => (((Below.refl _ _).alloc (Nat.le_refl _) _).trans (z.bel.mono (by simp)) : Below w.heap.size w z.at))
  go_enter Try.func17, Try.ntmps17
  go_wp2_with fail
  refine (P1.out _).mono ?_
  rintro e w1 ⟨rfl, g⟩
  obtain ⟨x0, rfl⟩ := Wb.start g
  clear g
  go_wp2_with fail
  refine (P2.out _).mono ?_
  rintro e w1 ⟨rfl, g⟩
  obtain ⟨x1, rfl⟩ := Wb.next g
  clear g
  go_wp2_with fail
  refine (P3.out _).mono ?_
  rintro e w1 ⟨rfl, g⟩
  obtain ⟨x2, rfl⟩ := Wb.next g
  clear g
  go_wp2
  go_ret
  exact ⟨rfl, KB.out x2⟩

set_option maxHeartbeats 1600000 in
theorem syn_k_false (k l : Int) (w : World) (n0 : k ≠ 0) (n2 : k ≠ 2) (n3 : k ≠ 3) (n4 : k ≠ 4) (n5 : k ≠ 5) (l0 : -9223372036854775808 ≤ l) (l1 : l ≤ 9223372036854775807) :
    Calls Try.prog 17 #[.agg #[.int .i64 k, .int .i64 l, .bool false]] w fun e w' => e = .returned (.int .u64 (GrW.syn k l false)) ∧ Below w.heap.size w w' := by
  have m0 : (k == 0) = false := by simpa using n0
  have m2 : (k == 2) = false := by simpa using n2
  have m3 : (k == 3) = false := by simpa using n3
  have m4 : (k == 4) = false := by simpa using n4
  have m5 : (k == 5) = false := by simpa using n5
  have E : GrW.syn k l false = 2516582400 + 33 := by simp [GrW.syn, GrW.synB, GrW.synC, n0, n2, n3, n4, n5]
  rw [E]
  clear E n0 n2 n3 n4 n5
  have P1 := Lib.hid (fun w => put_below 33554432 31 26 37 w (by omega) (by omega) (by omega))
  rw [show GrF.put 33554432 31 26 37 = 2516582400 by decide +kernel] at P1
  have cb : (0 : Int) ≤ (33 : Int) := by omega
  have P3 := Lib.hid (fun w => put_below 2516582400 5 0 (33 : Int) w (by omega) (by omega) cb)
  rw [show GrF.put 2516582400 5 0 (33 : Int) = 2516582400 + 33 from (GrD.put_low 2516582400 (33 : Int) 5 (by omega) (by omega) (by omega) cb).trans (by decide)] at P3
  clear cb l0 l1
  have k0 : ∀ z : Wb (w.alloc (.cells #[.int .i64 k, .int .i64 l, .bool false] 28)), z.at.cell? ⟨w.heap.size, 0, none⟩ = some (.int .i64 k) := fun z => by rw [z.cell _ (by simp)]; simp [World.cell?_alloc_new]
  have k1 : ∀ z : Wb (w.alloc (.cells #[.int .i64 k, .int .i64 l, .bool false] 28)), z.at.cell? ⟨w.heap.size, 1, none⟩ = some (.int .i64 l) := fun z => by rw [z.cell _ (by simp)]; simp [World.cell?_alloc_new]
  have k2 : ∀ z : Wb (w.alloc (.cells #[.int .i64 k, .int .i64 l, .bool false] 28)), z.at.cell? ⟨w.heap.size, 2, none⟩ = some (.bool false) := fun z => by rw [z.cell _ (by simp)]; simp [World.cell?_alloc_new]
  have KB := Lib.hid (fun (z : Wb (w.alloc (.cells #[.int .i64 k, .int .i64 l, .bool false] 28))) => (((Below.refl _ _).alloc (Nat.le_refl _) _).trans (z.bel.mono (by simp)) : Below w.heap.size w z.at))
  go_enter Try.func17, Try.ntmps17
  go_wp2_with fail
  refine (P1.out _).mono ?_
  rintro e w1 ⟨rfl, g⟩
  obtain ⟨x0, rfl⟩ := Wb.start g
  clear g
  go_wp2_with fail
  refine (P3.out _).mono ?_
  rintro e w1 ⟨rfl, g⟩
  obtain ⟨x1, rfl⟩ := Wb.next g
  clear g
  go_wp2
  go_ret
  exact ⟨rfl, KB.out x1⟩

set_option maxHeartbeats 1600000 in
theorem syn_k_true (k l : Int) (w : World) (n0 : k ≠ 0) (n2 : k ≠ 2) (n3 : k ≠ 3) (n4 : k ≠ 4) (n5 : k ≠ 5) (l0 : -9223372036854775808 ≤ l) (l1 : l ≤ 9223372036854775807) :
    Calls Try.prog 17 #[.agg #[.int .i64 k, .int .i64 l, .bool true]] w fun e w' => e = .returned (.int .u64 (GrW.syn k l true)) ∧ Below w.heap.size w w' := by
  have m0 : (k == 0) = false := by simpa using n0
  have m2 : (k == 2) = false := by simpa using n2
  have m3 : (k == 3) = false := by simpa using n3
  have m4 : (k == 4) = false := by simpa using n4
  have m5 : (k == 5) = false := by simpa using n5
  have E : GrW.syn k l true = 2516582464 + 33 := by simp [GrW.syn, GrW.synB, GrW.synC, n0, n2, n3, n4, n5]
  rw [E]
  clear E n0 n2 n3 n4 n5
  have P1 := Lib.hid (fun w => put_below 33554432 31 26 37 w (by omega) (by omega) (by omega))
  rw [show GrF.put 33554432 31 26 37 = 2516582400 by decide +kernel] at P1
  have P2 := Lib.hid (fun w => put_below 2516582400 6 6 1 w (by omega) (by omega) (by omega))
  rw [show GrF.put 2516582400 6 6 1 = 2516582464 by decide +kernel] at P2
  have cb : (0 : Int) ≤ (33 : Int) := by omega
  have P3 := Lib.hid (fun w => put_below 2516582464 5 0 (33 : Int) w (by omega) (by omega) cb)
  rw [show GrF.put 2516582464 5 0 (33 : Int) = 2516582464 + 33 from (GrD.put_low 2516582464 (33 : Int) 5 (by omega) (by omega) (by omega) cb).trans (by decide)] at P3
  clear cb l0 l1
  have k0 : ∀ z : Wb (w.alloc (.cells #[.int .i64 k, .int .i64 l, .bool true] 28)), z.at.cell? ⟨w.heap.size, 0, none⟩ = some (.int .i64 k) := fun z => by rw [z.cell _ (by simp)]; simp [World.cell?_alloc_new]
  have k1 : ∀ z : Wb (w.alloc (.cells #[.int .i64 k, .int .i64 l, .bool true] 28)), z.at.cell? ⟨w.heap.size, 1, none⟩ = some (.int .i64 l) := fun z => by rw [z.cell _ (by simp)]; simp [World.cell?_alloc_new]
  have k2 : ∀ z : Wb (w.alloc (.cells #[.int .i64 k, .int .i64 l, .bool true] 28)), z.at.cell? ⟨w.heap.size, 2, none⟩ = some (.bool true) := fun z => by rw [z.cell _ (by simp)]; simp [World.cell?_alloc_new]
  have KB := Lib.hid (fun (z : Wb (w.alloc (.cells #[.int .i64 k, .int .i64 l, .bool true] 28))) => (((Below.refl _ _).alloc (Nat.le_refl _) _).trans (z.bel.mono (by simp)) : Below w.heap.size w z.at))
  go_enter Try.func17, Try.ntmps17
  go_wp2_with fail
  refine (P1.out _).mono ?_
  rintro e w1 ⟨rfl, g⟩
  obtain ⟨x0, rfl⟩ := Wb.start g
  clear g
  go_wp2_with fail
  refine (P2.out _).mono ?_
  rintro e w1 ⟨rfl, g⟩
  obtain ⟨x1, rfl⟩ := Wb.next g
  clear g
  go_wp2_with fail
  refine (P3.out _).mono ?_
  rintro e w1 ⟨rfl, g⟩
  obtain ⟨x2, rfl⟩ := Wb.next g
  clear g
  go_wp2
  go_ret
  exact ⟨rfl, KB.out x2⟩

theorem syn_any (k l : Int) (b : Bool) (w : World) (l0 : -9223372036854775808 ≤ l) (l1 : l ≤ 9223372036854775807) :
    Calls Try.prog 17 #[.agg #[.int .i64 k, .int .i64 l, .bool b]] w fun e w' => e = .returned (.int .u64 (GrW.syn k l b)) ∧ Below w.heap.size w w' := by
  by_cases n0 : k = 0
  · subst n0; cases b
    · exact syn_0_false l w l0 l1
    · exact syn_0_true l w l0 l1
  by_cases n2 : k = 2
  · subst n2; cases b
    · exact syn_2_false l w l0 l1
    · exact syn_2_true l w l0 l1
  by_cases n3 : k = 3
  · subst n3; cases b
    · exact syn_3_false l w l0 l1
    · exact syn_3_true l w l0 l1
  by_cases n4 : k = 4
  · subst n4; cases b
    · exact syn_4_false l w l0 l1
    · exact syn_4_true l w l0 l1
  by_cases n5 : k = 5
  · subst n5; cases b
    · exact syn_5_false l w l0 l1
    · exact syn_5_true l w l0 l1
  cases b
  · exact syn_k_false k l w n0 n2 n3 n4 n5 l0 l1
  · exact syn_k_true k l w n0 n2 n3 n4 n5 l0 l1

set_option maxHeartbeats 1600000 in
theorem rsyn_0_false (l : Int) (w : World) (l0 : -9223372036854775808 ≤ l) (l1 : l ≤ 9223372036854775807) :
    Calls Try.prog 14 #[.agg #[.int .i64 0, .int .i64 l, .bool false]] w fun e w' => e = .returned (.int .u64 (GrW.syn 0 l false)) ∧ Below w.heap.size w w' := by
  have E : GrW.syn 0 l false = 0 := by simp [GrW.syn, GrW.synB, GrW.synC]
  rw [E]
  clear E
  go_enter Try.func14, Try.ntmps14
  go_wp2
  go_ret
  refine ⟨ret_u64 (by first | rfl | exact rsyn_eq _ _ _ (by omega) (by omega) (by omega) (by omega) | (simp [IntKind.wrap_u64]; done) | (simp [IntKind.wrap_u64]; omega) | omega), ?_⟩
  exact (Below.refl w.heap.size w).alloc (Nat.le_refl _) _

set_option maxHeartbeats 1600000 in
theorem rsyn_0_true (l : Int) (w : World) (l0 : -9223372036854775808 ≤ l) (l1 : l ≤ 9223372036854775807) :
    Calls Try.prog 14 #[.agg #[.int .i64 0, .int .i64 l, .bool true]] w fun e w' => e = .returned (.int .u64 (GrW.syn 0 l true)) ∧ Below w.heap.size w w' := by
  have E : GrW.syn 0 l true = 0 := by simp [GrW.syn, GrW.synB, GrW.synC]
  rw [E]
  clear E
  go_enter Try.func14, Try.ntmps14
  go_wp2
  go_ret
  refine ⟨ret_u64 (by first | rfl | exact rsyn_eq _ _ _ (by omega) (by omega) (by omega) (by omega) | (simp [IntKind.wrap_u64]; done) | (simp [IntKind.wrap_u64]; omega) | omega), ?_⟩
  exact (Below.refl w.heap.size w).alloc (Nat.le_refl _) _

set_option maxHeartbeats 1600000 in
theorem rsyn_2_false (l : Int) (w : World) (l0 : -9223372036854775808 ≤ l) (l1 : l ≤ 9223372036854775807) :
    Calls Try.prog 14 #[.agg #[.int .i64 2, .int .i64 l, .bool false]] w fun e w' => e = .returned (.int .u64 (GrW.syn 2 l false)) ∧ Below w.heap.size w w' := by
  have E : GrW.syn 2 l false = 2516582400 + 4 := by simp [GrW.syn, GrW.synB, GrW.synC]
  rw [E]
  clear E
  go_enter Try.func14, Try.ntmps14
  go_wp2
  go_ret
  refine ⟨ret_u64 (by first | rfl | exact rsyn_eq _ _ _ (by omega) (by omega) (by omega) (by omega) | (simp [IntKind.wrap_u64]; done) | (simp [IntKind.wrap_u64]; omega) | omega), ?_⟩
  exact (Below.refl w.heap.size w).alloc (Nat.le_refl _) _

set_option maxHeartbeats 1600000 in
theorem rsyn_2_true (l : Int) (w : World) (l0 : -9223372036854775808 ≤ l) (l1 : l ≤ 9223372036854775807) :
    Calls Try.prog 14 #[.agg #[.int .i64 2, .int .i64 l, .bool true]] w fun e w' => e = .returned (.int .u64 (GrW.syn 2 l true)) ∧ Below w.heap.size w w' := by
  have E : GrW.syn 2 l true = 2516582464 + 4 := by simp [GrW.syn, GrW.synB, GrW.synC]
  rw [E]
  clear E
  go_enter Try.func14, Try.ntmps14
  go_wp2
  go_ret
  refine ⟨ret_u64 (by first | rfl | exact rsyn_eq _ _ _ (by omega) (by omega) (by omega) (by omega) | (simp [IntKind.wrap_u64]; done) | (simp [IntKind.wrap_u64]; omega) | omega), ?_⟩
  exact (Below.refl w.heap.size w).alloc (Nat.le_refl _) _

set_option maxHeartbeats 1600000 in
theorem rsyn_3_false (l : Int) (w : World) (l0 : -9223372036854775808 ≤ l) (l1 : l ≤ 9223372036854775807) :
    Calls Try.prog 14 #[.agg #[.int .i64 3, .int .i64 l, .bool false]] w fun e w' => e = .returned (.int .u64 (GrW.syn 3 l false)) ∧ Below w.heap.size w w' := by
  have E : GrW.syn 3 l false = 2516582400 + (4 + l) % 64 := by simp [GrW.syn, GrW.synB, GrW.synC]
  rw [E]
  clear E
  go_enter Try.func14, Try.ntmps14
  go_wp2
  go_ret
  refine ⟨ret_u64 (by first | rfl | exact rsyn_eq _ _ _ (by omega) (by omega) (by omega) (by omega) | (simp [IntKind.wrap_u64]; done) | (simp [IntKind.wrap_u64]; omega) | omega), ?_⟩
  exact (Below.refl w.heap.size w).alloc (Nat.le_refl _) _

set_option maxHeartbeats 1600000 in
theorem rsyn_3_true (l : Int) (w : World) (l0 : -9223372036854775808 ≤ l) (l1 : l ≤ 9223372036854775807) :
    Calls Try.prog 14 #[.agg #[.int .i64 3, .int .i64 l, .bool true]] w fun e w' => e = .returned (.int .u64 (GrW.syn 3 l true)) ∧ Below w.heap.size w w' := by
  have E : GrW.syn 3 l true = 2516582464 + (4 + l) % 64 := by simp [GrW.syn, GrW.synB, GrW.synC]
  rw [E]
  clear E
  go_enter Try.func14, Try.ntmps14
  go_wp2
  go_ret
  refine ⟨ret_u64 (by first | rfl | exact rsyn_eq _ _ _ (by omega) (by omega) (by omega) (by omega) | (simp [IntKind.wrap_u64]; done) | (simp [IntKind.wrap_u64]; omega) | omega), ?_⟩
  exact (Below.refl w.heap.size w).alloc (Nat.le_refl _) _

set_option maxHeartbeats 1600000 in
theorem rsyn_4_false (l : Int) (w : World) (l0 : -9223372036854775808 ≤ l) (l1 : l ≤ 9223372036854775807) :
    Calls Try.prog 14 #[.agg #[.int .i64 4, .int .i64 l, .bool false]] w fun e w' => e = .returned (.int .u64 (GrW.syn 4 l false)) ∧ Below w.heap.size w w' := by
  have E : GrW.syn 4 l false = 2516582400 + (8 + l) % 64 := by simp [GrW.syn, GrW.synB, GrW.synC]
  rw [E]
  clear E
  go_enter Try.func14, Try.ntmps14
  go_wp2
  go_ret
  refine ⟨ret_u64 (by first | rfl | exact rsyn_eq _ _ _ (by omega) (by omega) (by omega) (by omega) | (simp [IntKind.wrap_u64]; done) | (simp [IntKind.wrap_u64]; omega) | omega), ?_⟩
  exact (Below.refl w.heap.size w).alloc (Nat.le_refl _) _

set_option maxHeartbeats 1600000 in
theorem rsyn_4_true (l : Int) (w : World) (l0 : -9223372036854775808 ≤ l) (l1 : l ≤ 9223372036854775807) :
    Calls Try.prog 14 #[.agg #[.int .i64 4, .int .i64 l, .bool true]] w fun e w' => e = .returned (.int .u64 (GrW.syn 4 l true)) ∧ Below w.heap.size w w' := by
  have E : GrW.syn 4 l true = 2516582464 + (8 + l) % 64 := by simp [GrW.syn, GrW.synB, GrW.synC]
  rw [E]
  clear E
  go_enter Try.func14, Try.ntmps14
  go_wp2
  go_ret
  refine ⟨ret_u64 (by first | rfl | exact rsyn_eq _ _ _ (by omega) (by omega) (by omega) (by omega) | (simp [IntKind.wrap_u64]; done) | (simp [IntKind.wrap_u64]; omega) | omega), ?_⟩
  exact (Below.refl w.heap.size w).alloc (Nat.le_refl _) _

set_option maxHeartbeats 1600000 in
theorem rsyn_5_false (l : Int) (w : World) (l0 : -9223372036854775808 ≤ l) (l1 : l ≤ 9223372036854775807) :
    Calls Try.prog 14 #[.agg #[.int .i64 5, .int .i64 l, .bool false]] w fun e w' => e = .returned (.int .u64 (GrW.syn 5 l false)) ∧ Below w.heap.size w w' := by
  have E : GrW.syn 5 l false = 2516582400 + (12 + l) % 64 := by simp [GrW.syn, GrW.synB, GrW.synC]
  rw [E]
  clear E
  go_enter Try.func14, Try.ntmps14
  go_wp2
  go_ret
  refine ⟨ret_u64 (by first | rfl | exact rsyn_eq _ _ _ (by omega) (by omega) (by omega) (by omega) | (simp [IntKind.wrap_u64]; done) | (simp [IntKind.wrap_u64]; omega) | omega), ?_⟩
  exact (Below.refl w.heap.size w).alloc (Nat.le_refl _) _

set_option maxHeartbeats 1600000 in
theorem rsyn_5_true (l : Int) (w : World) (l0 : -9223372036854775808 ≤ l) (l1 : l ≤ 9223372036854775807) :
    Calls Try.prog 14 #[.agg #[.int .i64 5, .int .i64 l, .bool true]] w fun e w' => e = .returned (.int .u64 (GrW.syn 5 l true)) ∧ Below w.heap.size w w' := by
  have E : GrW.syn 5 l true = 2516582464 + (12 + l) % 64 := by simp [GrW.syn, GrW.synB, GrW.synC]
  rw [E]
  clear E
  go_enter Try.func14, Try.ntmps14
  go_wp2
  go_ret
  refine ⟨ret_u64 (by first | rfl | exact rsyn_eq _ _ _ (by omega) (by omega) (by omega) (by omega) | (simp [IntKind.wrap_u64]; done) | (simp [IntKind.wrap_u64]; omega) | omega), ?_⟩
  exact (Below.refl w.heap.size w).alloc (Nat.le_refl _) _

set_option maxHeartbeats 1600000 in
theorem rsyn_k_false (k l : Int) (w : World) (n0 : k ≠ 0) (n2 : k ≠ 2) (n3 : k ≠ 3) (n4 : k ≠ 4) (n5 : k ≠ 5) (l0 : -9223372036854775808 ≤ l) (l1 : l ≤ 9223372036854775807) :
    Calls Try.prog 14 #[.agg #[.int .i64 k, .int .i64 l, .bool false]] w fun e w' => e = .returned (.int .u64 (GrW.syn k l false)) ∧ Below w.heap.size w w' := by
  have m0 : (k == 0) = false := by simpa using n0
  have m2 : (k == 2) = false := by simpa using n2
  have m3 : (k == 3) = false := by simpa using n3
  have m4 : (k == 4) = false := by simpa using n4
  have m5 : (k == 5) = false := by simpa using n5
  have E : GrW.syn k l false = 2516582400 + 33 := by simp [GrW.syn, GrW.synB, GrW.synC, n0, n2, n3, n4, n5]
  rw [E]
  clear E n0 n2 n3 n4 n5
  go_enter Try.func14, Try.ntmps14
  go_wp2
  go_ret
  refine ⟨ret_u64 (by first | rfl | exact rsyn_eq _ _ _ (by omega) (by omega) (by omega) (by omega) | (simp [IntKind.wrap_u64]; done) | (simp [IntKind.wrap_u64]; omega) | omega), ?_⟩
  exact (Below.refl w.heap.size w).alloc (Nat.le_refl _) _

set_option maxHeartbeats 1600000 in
theorem rsyn_k_true (k l : Int) (w : World) (n0 : k ≠ 0) (n2 : k ≠ 2) (n3 : k ≠ 3) (n4 : k ≠ 4) (n5 : k ≠ 5) (l0 : -9223372036854775808 ≤ l) (l1 : l ≤ 9223372036854775807) :
    Calls Try.prog 14 #[.agg #[.int .i64 k, .int .i64 l, .bool true]] w fun e w' => e = .returned (.int .u64 (GrW.syn k l true)) ∧ Below w.heap.size w w' := by
  have m0 : (k == 0) = false := by simpa using n0
  have m2 : (k == 2) = false := by simpa using n2
  have m3 : (k == 3) = false := by simpa using n3
  have m4 : (k == 4) = false := by simpa using n4
  have m5 : (k == 5) = false := by simpa using n5
  have E : GrW.syn k l true = 2516582464 + 33 := by simp [GrW.syn, GrW.synB, GrW.synC, n0, n2, n3, n4, n5]
  rw [E]
  clear E n0 n2 n3 n4 n5
  go_enter Try.func14, Try.ntmps14
  go_wp2
  go_ret
  refine ⟨ret_u64 (by first | rfl | exact rsyn_eq _ _ _ (by omega) (by omega) (by omega) (by omega) | (simp [IntKind.wrap_u64]; done) | (simp [IntKind.wrap_u64]; omega) | omega), ?_⟩
  exact (Below.refl w.heap.size w).alloc (Nat.le_refl _) _

theorem rsyn_any (k l : Int) (b : Bool) (w : World) (l0 : -9223372036854775808 ≤ l) (l1 : l ≤ 9223372036854775807) :
    Calls Try.prog 14 #[.agg #[.int .i64 k, .int .i64 l, .bool b]] w fun e w' => e = .returned (.int .u64 (GrW.syn k l b)) ∧ Below w.heap.size w w' := by
  by_cases n0 : k = 0
  · subst n0; cases b
    · exact rsyn_0_false l w l0 l1
    · exact rsyn_0_true l w l0 l1
  by_cases n2 : k = 2
  · subst n2; cases b
    · exact rsyn_2_false l w l0 l1
    · exact rsyn_2_true l w l0 l1
  by_cases n3 : k = 3
  · subst n3; cases b
    · exact rsyn_3_false l w l0 l1
    · exact rsyn_3_true l w l0 l1
  by_cases n4 : k = 4
  · subst n4; cases b
    · exact rsyn_4_false l w l0 l1
    · exact rsyn_4_true l w l0 l1
  by_cases n5 : k = 5
  · subst n5; cases b
    · exact rsyn_5_false l w l0 l1
    · exact rsyn_5_true l w l0 l1
  cases b
  · exact rsyn_k_false k l w n0 n2 n3 n4 n5 l0 l1
  · exact rsyn_k_true k l w n0 n2 n3 n4 n5 l0 l1

end Go.Proofs.Ytnpgpbcpgniloaa
