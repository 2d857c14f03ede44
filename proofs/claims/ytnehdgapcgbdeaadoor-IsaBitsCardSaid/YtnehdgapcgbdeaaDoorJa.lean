/-
  Layer 3, the code's walks: register, number, kind.
-/
import Derived.Test.YtnehdgapcgbdeaaDoorRi
import Derived.Test.YtnehdgapcgbdeaaDoorFx
set_option linter.unusedSimpArgs false
set_option linter.unusedVariables false
namespace GrI
def regB (has : Bool) (n : Int) : Bool := (n == 0) || (has && decide (0 < n) && decide (n ≤ 31))
def numB (imm by_ v : Int) : Bool := if imm = 0 then v == 0 else if imm < 0 then GrF.fitsB v (-imm) else decide (0 ≤ v) && (v % by_ == 0) && decide (v / by_ < (2 ^ imm.toNat : Nat))
def kindB (op d kind kinds : Int) : Bool :=
  if op = 18 ∨ op = 19 then decide (9 ≤ kind) && decide (kind ≤ 15) && (kind != 12)
  else if op = 21 then decide (0 ≤ kind) && decide (kind < kinds) && ((kind % 4 != 0) || (d == 31))
  else (kind == 0) || (decide (0 < kind) && decide (kind < kinds))
end GrI
namespace Go.Proofs.YtnehdgapcgbdeaaDoor
open Go.RowKit

set_option maxHeartbeats 800000 in
theorem register_any (has : Bool) (n : Int) (w : World) :
    Calls Tryd.prog 22 #[.bool has, .int .i64 n] w fun e w' => e = .returned (.bool (GrI.regB has n)) ∧ w = w' := by
  have E := Lib.hid (show GrI.regB has n = ((n == 0) || (has && decide (0 < n) && decide (n ≤ 31))) from rfl)
  by_cases z : n = 0
  · subst z
    go_enter Tryd.func22, Tryd.ntmps22
    go_wp2
    go_ret
    exact ⟨ret_b (by rw [E.out]; simp), rfl⟩
  · have z1 : (n == 0) = false := by simpa using z
    cases has with
    | false =>
      go_enter Tryd.func22, Tryd.ntmps22
      go_wp2
      go_ret
      exact ⟨ret_b (by rw [E.out]; simp [z1]), rfl⟩
    | true =>
      cases h : decide (0 < n) with
      | false =>
        clear z
        go_enter Tryd.func22, Tryd.ntmps22
        go_wp2
        go_ret
        exact ⟨ret_b (by rw [E.out, h, z1]; simp), rfl⟩
      | true =>
        clear z
        go_enter Tryd.func22, Tryd.ntmps22
        go_wp2
        go_ret
        exact ⟨ret_b (by rw [E.out, h, z1]; simp), rfl⟩

set_option maxHeartbeats 1600000 in
theorem number_0_0 (wd : Int) (d n m : Bool) (a k ka v : Int) (w : World) (h0 : -9223372036854775808 ≤ v) (h1 : v ≤ 9223372036854775807) :
    Calls Tryd.prog 23 #[.agg #[.int .u32 wd, .bool d, .bool n, .bool m, .int .i64 0, .int .i64 a, .int .i64 0, .int .i64 k, .int .i64 ka], .int .i64 v] w fun e w' => e = .returned (.bool (GrI.numB 0 0 v)) ∧ Below w.heap.size w w' := by
  have E := Lib.hid (show GrI.numB 0 0 v = (v == 0) from rfl)
  go_enter Tryd.func23, Tryd.ntmps23
  go_wp2
  go_ret
  exact ⟨ret_b (by rw [E.out]), ((Below.refl _ _).alloc (Nat.le_refl _) _)⟩

set_option maxHeartbeats 1600000 in
theorem number_n26_1 (wd : Int) (d n m : Bool) (a k ka v : Int) (w : World) (h0 : -9223372036854775808 ≤ v) (h1 : v ≤ 9223372036854775807) :
    Calls Tryd.prog 23 #[.agg #[.int .u32 wd, .bool d, .bool n, .bool m, .int .i64 (-26), .int .i64 a, .int .i64 1, .int .i64 k, .int .i64 ka], .int .i64 v] w fun e w' => e = .returned (.bool (GrI.numB (-26) 1 v)) ∧ Below w.heap.size w w' := by
  have E := Lib.hid (show GrI.numB (-26) 1 v = GrF.fitsB v 26 from rfl)
  have FT := Lib.hid (fun w => fits_any v 26 w h0 h1 (by omega) (by omega))
  clear h0 h1
  go_enter Tryd.func23, Tryd.ntmps23
  go_wp2_with fail
  refine (FT.out _).mono ?_
  rintro e w1 ⟨rfl, d1⟩
  go_wp2
  go_ret
  exact ⟨ret_b (by rw [E.out]), ((Below.refl _ _).alloc (Nat.le_refl _) _).trans (d1.below _)⟩

set_option maxHeartbeats 1600000 in
theorem number_n19_1 (wd : Int) (d n m : Bool) (a k ka v : Int) (w : World) (h0 : -9223372036854775808 ≤ v) (h1 : v ≤ 9223372036854775807) :
    Calls Tryd.prog 23 #[.agg #[.int .u32 wd, .bool d, .bool n, .bool m, .int .i64 (-19), .int .i64 a, .int .i64 1, .int .i64 k, .int .i64 ka], .int .i64 v] w fun e w' => e = .returned (.bool (GrI.numB (-19) 1 v)) ∧ Below w.heap.size w w' := by
  have E := Lib.hid (show GrI.numB (-19) 1 v = GrF.fitsB v 19 from rfl)
  have FT := Lib.hid (fun w => fits_any v 19 w h0 h1 (by omega) (by omega))
  clear h0 h1
  go_enter Tryd.func23, Tryd.ntmps23
  go_wp2_with fail
  refine (FT.out _).mono ?_
  rintro e w1 ⟨rfl, d1⟩
  go_wp2
  go_ret
  exact ⟨ret_b (by rw [E.out]), ((Below.refl _ _).alloc (Nat.le_refl _) _).trans (d1.below _)⟩

set_option maxHeartbeats 1600000 in
theorem number_12_8 (wd : Int) (d n m : Bool) (a k ka v : Int) (w : World) (h0 : -9223372036854775808 ≤ v) (h1 : v ≤ 9223372036854775807) :
    Calls Tryd.prog 23 #[.agg #[.int .u32 wd, .bool d, .bool n, .bool m, .int .i64 12, .int .i64 a, .int .i64 8, .int .i64 k, .int .i64 ka], .int .i64 v] w fun e w' => e = .returned (.bool (GrI.numB 12 8 v)) ∧ Below w.heap.size w w' := by
  have E := Lib.hid (show GrI.numB 12 8 v = (decide (0 ≤ v) && (v % 8 == 0) && decide (v / 8 < 4096)) from rfl)
  cases c0 : decide (0 ≤ v) with
  | false =>
    go_enter Tryd.func23, Tryd.ntmps23
    go_wp2_with fail
    go_quiet (fail)
    go_wp2
    go_ret
    exact ⟨ret_b (by rw [E.out, c0]; simp), ((Below.refl _ _).alloc (Nat.le_refl _) _).trans ((Drew.refl _).drewN _ |>.below _)⟩
  | true =>
    have p0 : 0 ≤ v := by simpa using c0
    cases c1 : (v % 8 == 0) with
    | false =>
      go_enter Tryd.func23, Tryd.ntmps23
      go_wp2_with fail
      go_quiet (fail)
      go_wp2
      go_ret
      exact ⟨ret_b (by rw [E.out, c0, c1]; simp), ((Below.refl _ _).alloc (Nat.le_refl _) _).trans ((Drew.refl _).drewN _ |>.below _)⟩
    | true =>
      go_enter Tryd.func23, Tryd.ntmps23
      go_wp2_with fail
      go_quiet (fail)
      go_wp2
      go_ret
      exact ⟨ret_b (by rw [E.out, c0, c1]; simp), ((Below.refl _ _).alloc (Nat.le_refl _) _).trans ((Drew.refl _).drewN _ |>.below _)⟩

set_option maxHeartbeats 1600000 in
theorem number_12_1 (wd : Int) (d n m : Bool) (a k ka v : Int) (w : World) (h0 : -9223372036854775808 ≤ v) (h1 : v ≤ 9223372036854775807) :
    Calls Tryd.prog 23 #[.agg #[.int .u32 wd, .bool d, .bool n, .bool m, .int .i64 12, .int .i64 a, .int .i64 1, .int .i64 k, .int .i64 ka], .int .i64 v] w fun e w' => e = .returned (.bool (GrI.numB 12 1 v)) ∧ Below w.heap.size w w' := by
  have E := Lib.hid (show GrI.numB 12 1 v = (decide (0 ≤ v) && (v % 1 == 0) && decide (v / 1 < 4096)) from rfl)
  cases c0 : decide (0 ≤ v) with
  | false =>
    go_enter Tryd.func23, Tryd.ntmps23
    go_wp2_with fail
    go_quiet (fail)
    go_wp2
    go_ret
    exact ⟨ret_b (by rw [E.out, c0]; simp), ((Below.refl _ _).alloc (Nat.le_refl _) _).trans ((Drew.refl _).drewN _ |>.below _)⟩
  | true =>
    have p0 : 0 ≤ v := by simpa using c0
    cases c1 : (v % 1 == 0) with
    | false => exact absurd c1 (by simp)
    | true =>
      go_enter Tryd.func23, Tryd.ntmps23
      go_wp2_with fail
      go_quiet (fail)
      go_wp2
      go_ret
      exact ⟨ret_b (by rw [E.out, c0, c1]; simp), ((Below.refl _ _).alloc (Nat.le_refl _) _).trans ((Drew.refl _).drewN _ |>.below _)⟩

set_option maxHeartbeats 1600000 in
theorem number_16_1 (wd : Int) (d n m : Bool) (a k ka v : Int) (w : World) (h0 : -9223372036854775808 ≤ v) (h1 : v ≤ 9223372036854775807) :
    Calls Tryd.prog 23 #[.agg #[.int .u32 wd, .bool d, .bool n, .bool m, .int .i64 16, .int .i64 a, .int .i64 1, .int .i64 k, .int .i64 ka], .int .i64 v] w fun e w' => e = .returned (.bool (GrI.numB 16 1 v)) ∧ Below w.heap.size w w' := by
  have E := Lib.hid (show GrI.numB 16 1 v = (decide (0 ≤ v) && (v % 1 == 0) && decide (v / 1 < 65536)) from rfl)
  cases c0 : decide (0 ≤ v) with
  | false =>
    go_enter Tryd.func23, Tryd.ntmps23
    go_wp2_with fail
    go_quiet (fail)
    go_wp2
    go_ret
    exact ⟨ret_b (by rw [E.out, c0]; simp), ((Below.refl _ _).alloc (Nat.le_refl _) _).trans ((Drew.refl _).drewN _ |>.below _)⟩
  | true =>
    have p0 : 0 ≤ v := by simpa using c0
    cases c1 : (v % 1 == 0) with
    | false => exact absurd c1 (by simp)
    | true =>
      go_enter Tryd.func23, Tryd.ntmps23
      go_wp2_with fail
      go_quiet (fail)
      go_wp2
      go_ret
      exact ⟨ret_b (by rw [E.out, c0, c1]; simp), ((Below.refl _ _).alloc (Nat.le_refl _) _).trans ((Drew.refl _).drewN _ |>.below _)⟩

end Go.Proofs.YtnehdgapcgbdeaaDoor
