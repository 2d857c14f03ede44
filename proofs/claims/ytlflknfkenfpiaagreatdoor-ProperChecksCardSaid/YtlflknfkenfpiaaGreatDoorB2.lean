/-
  Texts of one claim, merged.
-/
import Derived.Test.YtlflknfkenfpiaaGreatDoorB1
import Derived.Deep.Light
set_option linter.unusedSimpArgs false
set_option linter.unusedVariables false
namespace GrI
def regB (has : Bool) (n : Int) : Bool := (n == 0) || (has && decide (0 < n) && decide (n ≤ 31))
def numB (imm by_ v : Int) : Bool := if imm = 0 then v == 0 else if imm < 0 then GrF.fitsB v (-imm) else decide (0 ≤ v) && (v % by_ == 0) && decide (v / by_ < (2 ^ imm.toNat : Nat))
def kindB (op d kind kinds : Int) : Bool :=
  if op = 18 ∨ op = 19 then decide (9 ≤ kind) && decide (kind ≤ 15) && (kind != 12)
  else if op = 21 then decide (0 ≤ kind) && decide (kind < kinds) && ((kind % 4 != 0) || (d == 31))
  else (kind == 0) || (decide (0 < kind) && decide (kind < kinds))
end GrI
namespace Go.Proofs.YtlflknfkenfpiaaGreatDoor
open Go.RowKit
set_option maxHeartbeats 800000 in
theorem register_any (has : Bool) (n : Int) (w : World) :
    Calls Tryz.prog 124 #[.bool has, .int .i64 n] w fun e w' => e = .returned (.bool (GrI.regB has n)) ∧ w = w' := by
  have E := Lib.hid (show GrI.regB has n = ((n == 0) || (has && decide (0 < n) && decide (n ≤ 31))) from rfl)
  by_cases z : n = 0
  · subst z
    go_enter Tryz.func124, Tryz.ntmps124
    go_wp2
    go_ret
    exact ⟨ret_b (by rw [E.out]; simp), rfl⟩
  · have z1 : (n == 0) = false := by simpa using z
    cases has with
    | false =>
      go_enter Tryz.func124, Tryz.ntmps124
      go_wp2
      go_ret
      exact ⟨ret_b (by rw [E.out]; simp [z1]), rfl⟩
    | true =>
      cases h : decide (0 < n) with
      | false =>
        clear z
        go_enter Tryz.func124, Tryz.ntmps124
        go_wp2
        go_ret
        exact ⟨ret_b (by rw [E.out, h, z1]; simp), rfl⟩
      | true =>
        clear z
        go_enter Tryz.func124, Tryz.ntmps124
        go_wp2
        go_ret
        exact ⟨ret_b (by rw [E.out, h, z1]; simp), rfl⟩
set_option maxHeartbeats 1600000 in
theorem number_0_0 (wd : Int) (d n m : Bool) (a k ka v : Int) (w : World) (h0 : -9223372036854775808 ≤ v) (h1 : v ≤ 9223372036854775807) :
    Calls Tryz.prog 125 #[.agg #[.int .u32 wd, .bool d, .bool n, .bool m, .int .i64 0, .int .i64 a, .int .i64 0, .int .i64 k, .int .i64 ka], .int .i64 v] w fun e w' => e = .returned (.bool (GrI.numB 0 0 v)) ∧ Below w.heap.size w w' := by
  have E := Lib.hid (show GrI.numB 0 0 v = (v == 0) from rfl)
  go_enter Tryz.func125, Tryz.ntmps125
  go_wp2
  go_ret
  exact ⟨ret_b (by rw [E.out]), ((Below.refl _ _).alloc (Nat.le_refl _) _)⟩
set_option maxHeartbeats 1600000 in
theorem number_n26_1 (wd : Int) (d n m : Bool) (a k ka v : Int) (w : World) (h0 : -9223372036854775808 ≤ v) (h1 : v ≤ 9223372036854775807) :
    Calls Tryz.prog 125 #[.agg #[.int .u32 wd, .bool d, .bool n, .bool m, .int .i64 (-26), .int .i64 a, .int .i64 1, .int .i64 k, .int .i64 ka], .int .i64 v] w fun e w' => e = .returned (.bool (GrI.numB (-26) 1 v)) ∧ Below w.heap.size w w' := by
  have E := Lib.hid (show GrI.numB (-26) 1 v = GrF.fitsB v 26 from rfl)
  have FT := Lib.hid (fun w => fits_any v 26 w h0 h1 (by omega) (by omega))
  clear h0 h1
  go_enter Tryz.func125, Tryz.ntmps125
  go_wp2_with fail
  refine (FT.out _).mono ?_
  rintro e w1 ⟨rfl, d1⟩
  go_wp2
  go_ret
  exact ⟨ret_b (by rw [E.out]), ((Below.refl _ _).alloc (Nat.le_refl _) _).trans (d1.below _)⟩
set_option maxHeartbeats 1600000 in
theorem number_n19_1 (wd : Int) (d n m : Bool) (a k ka v : Int) (w : World) (h0 : -9223372036854775808 ≤ v) (h1 : v ≤ 9223372036854775807) :
    Calls Tryz.prog 125 #[.agg #[.int .u32 wd, .bool d, .bool n, .bool m, .int .i64 (-19), .int .i64 a, .int .i64 1, .int .i64 k, .int .i64 ka], .int .i64 v] w fun e w' => e = .returned (.bool (GrI.numB (-19) 1 v)) ∧ Below w.heap.size w w' := by
  have E := Lib.hid (show GrI.numB (-19) 1 v = GrF.fitsB v 19 from rfl)
  have FT := Lib.hid (fun w => fits_any v 19 w h0 h1 (by omega) (by omega))
  clear h0 h1
  go_enter Tryz.func125, Tryz.ntmps125
  go_wp2_with fail
  refine (FT.out _).mono ?_
  rintro e w1 ⟨rfl, d1⟩
  go_wp2
  go_ret
  exact ⟨ret_b (by rw [E.out]), ((Below.refl _ _).alloc (Nat.le_refl _) _).trans (d1.below _)⟩
set_option maxHeartbeats 1600000 in
theorem number_12_8 (wd : Int) (d n m : Bool) (a k ka v : Int) (w : World) (h0 : -9223372036854775808 ≤ v) (h1 : v ≤ 9223372036854775807) :
    Calls Tryz.prog 125 #[.agg #[.int .u32 wd, .bool d, .bool n, .bool m, .int .i64 12, .int .i64 a, .int .i64 8, .int .i64 k, .int .i64 ka], .int .i64 v] w fun e w' => e = .returned (.bool (GrI.numB 12 8 v)) ∧ Below w.heap.size w w' := by
  have E := Lib.hid (show GrI.numB 12 8 v = (decide (0 ≤ v) && (v % 8 == 0) && decide (v / 8 < 4096)) from rfl)
  cases c0 : decide (0 ≤ v) with
  | false =>
    go_enter Tryz.func125, Tryz.ntmps125
    go_wp2_with fail
    go_quiet (fail)
    go_wp2
    go_ret
    exact ⟨ret_b (by rw [E.out, c0]; simp), ((Below.refl _ _).alloc (Nat.le_refl _) _).trans ((Drew.refl _).drewN _ |>.below _)⟩
  | true =>
    have p0 : 0 ≤ v := by simpa using c0
    cases c1 : (v % 8 == 0) with
    | false =>
      go_enter Tryz.func125, Tryz.ntmps125
      go_wp2_with fail
      go_quiet (fail)
      go_wp2
      go_ret
      exact ⟨ret_b (by rw [E.out, c0, c1]; simp), ((Below.refl _ _).alloc (Nat.le_refl _) _).trans ((Drew.refl _).drewN _ |>.below _)⟩
    | true =>
      go_enter Tryz.func125, Tryz.ntmps125
      go_wp2_with fail
      go_quiet (fail)
      go_wp2
      go_ret
      exact ⟨ret_b (by rw [E.out, c0, c1]; simp), ((Below.refl _ _).alloc (Nat.le_refl _) _).trans ((Drew.refl _).drewN _ |>.below _)⟩
set_option maxHeartbeats 1600000 in
theorem number_12_1 (wd : Int) (d n m : Bool) (a k ka v : Int) (w : World) (h0 : -9223372036854775808 ≤ v) (h1 : v ≤ 9223372036854775807) :
    Calls Tryz.prog 125 #[.agg #[.int .u32 wd, .bool d, .bool n, .bool m, .int .i64 12, .int .i64 a, .int .i64 1, .int .i64 k, .int .i64 ka], .int .i64 v] w fun e w' => e = .returned (.bool (GrI.numB 12 1 v)) ∧ Below w.heap.size w w' := by
  have E := Lib.hid (show GrI.numB 12 1 v = (decide (0 ≤ v) && (v % 1 == 0) && decide (v / 1 < 4096)) from rfl)
  cases c0 : decide (0 ≤ v) with
  | false =>
    go_enter Tryz.func125, Tryz.ntmps125
    go_wp2_with fail
    go_quiet (fail)
    go_wp2
    go_ret
    exact ⟨ret_b (by rw [E.out, c0]; simp), ((Below.refl _ _).alloc (Nat.le_refl _) _).trans ((Drew.refl _).drewN _ |>.below _)⟩
  | true =>
    have p0 : 0 ≤ v := by simpa using c0
    cases c1 : (v % 1 == 0) with
    | false => exact absurd c1 (by simp)
    | true =>
      go_enter Tryz.func125, Tryz.ntmps125
      go_wp2_with fail
      go_quiet (fail)
      go_wp2
      go_ret
      exact ⟨ret_b (by rw [E.out, c0, c1]; simp), ((Below.refl _ _).alloc (Nat.le_refl _) _).trans ((Drew.refl _).drewN _ |>.below _)⟩
set_option maxHeartbeats 1600000 in
theorem number_16_1 (wd : Int) (d n m : Bool) (a k ka v : Int) (w : World) (h0 : -9223372036854775808 ≤ v) (h1 : v ≤ 9223372036854775807) :
    Calls Tryz.prog 125 #[.agg #[.int .u32 wd, .bool d, .bool n, .bool m, .int .i64 16, .int .i64 a, .int .i64 1, .int .i64 k, .int .i64 ka], .int .i64 v] w fun e w' => e = .returned (.bool (GrI.numB 16 1 v)) ∧ Below w.heap.size w w' := by
  have E := Lib.hid (show GrI.numB 16 1 v = (decide (0 ≤ v) && (v % 1 == 0) && decide (v / 1 < 65536)) from rfl)
  cases c0 : decide (0 ≤ v) with
  | false =>
    go_enter Tryz.func125, Tryz.ntmps125
    go_wp2_with fail
    go_quiet (fail)
    go_wp2
    go_ret
    exact ⟨ret_b (by rw [E.out, c0]; simp), ((Below.refl _ _).alloc (Nat.le_refl _) _).trans ((Drew.refl _).drewN _ |>.below _)⟩
  | true =>
    have p0 : 0 ≤ v := by simpa using c0
    cases c1 : (v % 1 == 0) with
    | false => exact absurd c1 (by simp)
    | true =>
      go_enter Tryz.func125, Tryz.ntmps125
      go_wp2_with fail
      go_quiet (fail)
      go_wp2
      go_ret
      exact ⟨ret_b (by rw [E.out, c0, c1]; simp), ((Below.refl _ _).alloc (Nat.le_refl _) _).trans ((Drew.refl _).drewN _ |>.below _)⟩
end Go.Proofs.YtlflknfkenfpiaaGreatDoor
namespace Go.Proofs.YtlflknfkenfpiaaGreatDoor
open Go.RowKit
def shapeCells : List Value := [.int .u32 0, .bool false, .bool false, .bool false, .int .i64 0, .int .i64 0, .int .i64 0, .int .i64 0, .int .i64 0, .int .u32 3573751839, .bool false, .bool false, .bool false, .int .i64 0, .int .i64 0, .int .i64 0, .int .i64 0, .int .i64 0, .int .u32 4181721088, .bool true, .bool true, .bool false, .int .i64 12, .int .i64 10, .int .i64 8, .int .i64 0, .int .i64 0, .int .u32 4177526784, .bool true, .bool true, .bool false, .int .i64 12, .int .i64 10, .int .i64 8, .int .i64 0, .int .i64 0, .int .u32 3370122240, .bool true, .bool true, .bool false, .int .i64 0, .int .i64 0, .int .i64 0, .int .i64 0, .int .i64 0, .int .u32 3365927936, .bool true, .bool true, .bool false, .int .i64 0, .int .i64 0, .int .i64 0, .int .i64 0, .int .i64 0, .int .u32 3531603968, .bool true, .bool false, .bool false, .int .i64 16, .int .i64 5, .int .i64 1, .int .i64 4, .int .i64 21, .int .u32 2432696320, .bool true, .bool true, .bool false, .int .i64 12, .int .i64 10, .int .i64 1, .int .i64 0, .int .i64 0, .int .u32 2332033024, .bool true, .bool true, .bool true, .int .i64 0, .int .i64 0, .int .i64 0, .int .i64 0, .int .i64 0, .int .u32 3405774848, .bool true, .bool true, .bool true, .int .i64 0, .int .i64 0, .int .i64 0, .int .i64 0, .int .i64 0, .int .u32 2315255808, .bool true, .bool true, .bool true, .int .i64 0, .int .i64 0, .int .i64 0, .int .i64 0, .int .i64 0, .int .u32 2852126720, .bool true, .bool true, .bool true, .int .i64 0, .int .i64 0, .int .i64 0, .int .i64 0, .int .i64 0, .int .u32 3388997632, .bool true, .bool true, .bool true, .int .i64 0, .int .i64 0, .int .i64 0, .int .i64 0, .int .i64 0, .int .u32 3942645760, .bool true, .bool true, .bool true, .int .i64 0, .int .i64 0, .int .i64 0, .int .i64 0, .int .i64 0, .int .u32 335544320, .bool false, .bool false, .bool false, .int .i64 (-26), .int .i64 0, .int .i64 1, .int .i64 0, .int .i64 0, .int .u32 3019898880, .bool true, .bool false, .bool false, .int .i64 (-19), .int .i64 5, .int .i64 1, .int .i64 0, .int .i64 0, .int .u32 3036676096, .bool true, .bool false, .bool false, .int .i64 (-19), .int .i64 5, .int .i64 1, .int .i64 0, .int .i64 0, .int .u32 1409286144, .bool false, .bool false, .bool false, .int .i64 (-19), .int .i64 5, .int .i64 1, .int .i64 2, .int .i64 0, .int .u32 3573756095, .bool false, .bool false, .bool false, .int .i64 0, .int .i64 0, .int .i64 0, .int .i64 16, .int .i64 8, .int .u32 3573756063, .bool false, .bool false, .bool false, .int .i64 0, .int .i64 0, .int .i64 0, .int .i64 16, .int .i64 8, .int .u32 3573759967, .bool false, .bool false, .bool false, .int .i64 0, .int .i64 0, .int .i64 0, .int .i64 0, .int .i64 0, .int .u32 3574104832, .bool true, .bool false, .bool false, .int .i64 0, .int .i64 0, .int .i64 0, .int .i64 8, .int .i64 0, .int .u32 3600745440, .bool false, .bool false, .bool false, .int .i64 0, .int .i64 0, .int .i64 0, .int .i64 0, .int .i64 0, .int .u32 3577217024, .bool true, .bool false, .bool false, .int .i64 0, .int .i64 0, .int .i64 0, .int .i64 3, .int .i64 0]
def ShAt (w : World) : Prop := ∀ i, i < 216 → w.cell? ⟨5, i, none⟩ = some (shapeCells.getD i undef)
theorem ShAt.lt {w : World} (h : ShAt w) : 5 < w.heap.size := World.block_lt_of_cell? w _ (h 0 (by decide))
theorem ShAt.below {w w' : World} (h : ShAt w) (b : Below w.heap.size w w') : ShAt w' := fun i hi => (b.cell (p := ⟨5, i, none⟩) h.lt).trans (h i hi)
theorem ShAt.alloc {w : World} (h : ShAt w) (o : Obj) : ShAt (w.alloc o) := h.below ((Below.refl _ _).alloc (Nat.le_refl _) o)
set_option maxHeartbeats 1600000 in
theorem kind_a (op d n m imm kind : Int) (wd : Int) (hd hn hm : Bool) (im a b k ka : Int) (w : World) (h : op = 18 ∨ op = 19) :
    Calls Tryz.prog 126 #[.agg #[.int .i64 op, .int .i64 d, .int .i64 n, .int .i64 m, .int .i64 imm, .int .i64 kind], .agg #[.int .u32 wd, .bool hd, .bool hn, .bool hm, .int .i64 im, .int .i64 a, .int .i64 b, .int .i64 k, .int .i64 ka]] w fun e w' => e = .returned (.bool (GrI.kindB op d kind k)) ∧ Below w.heap.size w w' := by
  have E := Lib.hid (show GrI.kindB op d kind k = (decide (9 ≤ kind) && decide (kind ≤ 15) && (kind != 12)) by rw [GrI.kindB, if_pos h])
  rcases h with rfl | rfl
  all_goals
    cases c0 : decide (9 ≤ kind) with
    | false =>
      go_enter Tryz.func126, Tryz.ntmps126
      go_wp2
      go_ret
      exact ⟨ret_b (by rw [E.out]; simp [c0]), (((Below.refl _ _).alloc (Nat.le_refl _) _).alloc (by simp) _)⟩
    | true =>
      cases c1 : decide (kind ≤ 15) with
      | false =>
        go_enter Tryz.func126, Tryz.ntmps126
        go_wp2
        go_ret
        exact ⟨ret_b (by rw [E.out]; simp [c0, c1]), (((Below.refl _ _).alloc (Nat.le_refl _) _).alloc (by simp) _)⟩
      | true =>
        go_enter Tryz.func126, Tryz.ntmps126
        go_wp2
        go_ret
        exact ⟨ret_b (by rw [E.out]; simp [c0, c1]), (((Below.refl _ _).alloc (Nat.le_refl _) _).alloc (by simp) _)⟩
set_option maxHeartbeats 1600000 in
theorem kind_b (op d n m imm kind : Int) (wd : Int) (hd hn hm : Bool) (im a b k ka : Int) (w : World) (h : op = 21) :
    Calls Tryz.prog 126 #[.agg #[.int .i64 op, .int .i64 d, .int .i64 n, .int .i64 m, .int .i64 imm, .int .i64 kind], .agg #[.int .u32 wd, .bool hd, .bool hn, .bool hm, .int .i64 im, .int .i64 a, .int .i64 b, .int .i64 k, .int .i64 ka]] w fun e w' => e = .returned (.bool (GrI.kindB op d kind k)) ∧ Below w.heap.size w w' := by
  have E := Lib.hid (show GrI.kindB op d kind k = (decide (0 ≤ kind) && decide (kind < k) && ((kind % 4 != 0) || (d == 31))) by rw [GrI.kindB, if_neg (by omega), if_pos h])
  subst h
  cases c0 : decide (0 ≤ kind) with
  | false =>
    go_enter Tryz.func126, Tryz.ntmps126
    go_wp2
    go_ret
    exact ⟨ret_b (by rw [E.out]; simp [c0]), (((Below.refl _ _).alloc (Nat.le_refl _) _).alloc (by simp) _)⟩
  | true =>
    cases c1 : decide (kind < k) with
    | false =>
      go_enter Tryz.func126, Tryz.ntmps126
      go_wp2
      go_ret
      exact ⟨ret_b (by rw [E.out]; simp [c0, c1]), (((Below.refl _ _).alloc (Nat.le_refl _) _).alloc (by simp) _)⟩
    | true =>
      have p0 : 0 ≤ kind := by simpa using c0
      cases c2 : (kind % 4 != 0) with
      | false =>
        go_enter Tryz.func126, Tryz.ntmps126
        go_wp2
        go_ret
        exact ⟨ret_b (by rw [E.out]; simp [c0, c1, c2]), (((Below.refl _ _).alloc (Nat.le_refl _) _).alloc (by simp) _)⟩
      | true =>
        go_enter Tryz.func126, Tryz.ntmps126
        go_wp2
        go_ret
        exact ⟨ret_b (by rw [E.out]; simp [c0, c1, c2]), (((Below.refl _ _).alloc (Nat.le_refl _) _).alloc (by simp) _)⟩
set_option maxHeartbeats 1600000 in
theorem kind_c (op d n m imm kind : Int) (wd : Int) (hd hn hm : Bool) (im a b k ka : Int) (w : World) (h : op ≠ 18) (h2 : op ≠ 19) (h3 : op ≠ 21) :
    Calls Tryz.prog 126 #[.agg #[.int .i64 op, .int .i64 d, .int .i64 n, .int .i64 m, .int .i64 imm, .int .i64 kind], .agg #[.int .u32 wd, .bool hd, .bool hn, .bool hm, .int .i64 im, .int .i64 a, .int .i64 b, .int .i64 k, .int .i64 ka]] w fun e w' => e = .returned (.bool (GrI.kindB op d kind k)) ∧ Below w.heap.size w w' := by
  have E := Lib.hid (show GrI.kindB op d kind k = ((kind == 0) || (decide (0 < kind) && decide (kind < k))) by rw [GrI.kindB, if_neg (by omega), if_neg h3])
  have n1 : (op == 18) = false := by simpa using h
  have n2 : (op == 19) = false := by simpa using h2
  have n3 : (op == 21) = false := by simpa using h3
  clear h h2 h3
  by_cases z : kind = 0
  · subst z
    go_enter Tryz.func126, Tryz.ntmps126
    go_wp2
    go_ret
    exact ⟨ret_b (by rw [E.out]; simp []), (((Below.refl _ _).alloc (Nat.le_refl _) _).alloc (by simp) _)⟩
  · have c0 : (kind == 0) = false := by simpa using z
    clear z
    cases c1 : decide (0 < kind) with
    | false =>
      go_enter Tryz.func126, Tryz.ntmps126
      go_wp2
      go_ret
      exact ⟨ret_b (by rw [E.out]; simp [c0, c1]), (((Below.refl _ _).alloc (Nat.le_refl _) _).alloc (by simp) _)⟩
    | true =>
      go_enter Tryz.func126, Tryz.ntmps126
      go_wp2
      go_ret
      exact ⟨ret_b (by rw [E.out]; simp [c0, c1]), (((Below.refl _ _).alloc (Nat.le_refl _) _).alloc (by simp) _)⟩
end Go.Proofs.YtlflknfkenfpiaaGreatDoor
namespace GrI
def code (b : Bool) : Int := if b = true then 0 else 30
end GrI
namespace Go.Proofs.YtlflknfkenfpiaaGreatDoor
open Go.RowKit
theorem ret_code {a b : Int} (h : a = b) : Ending.returned (.int .i64 a) = .returned (.int .i64 b) := by rw [h]
theorem pw_25 : GrF.pw 25 = 33554432 := rfl
theorem pw_18 : GrF.pw 18 = 262144 := rfl
theorem fits_26 (v : Int) : GrF.fitsB v 26 = (decide (-33554432 ≤ v) && decide (v ≤ 33554431)) := by
  rw [GrF.fitsB, show (26 : Int) - 1 = 25 from rfl, pw_25]; simp
theorem fits_19 (v : Int) : GrF.fitsB v 19 = (decide (-262144 ≤ v) && decide (v ≤ 262143)) := by
  rw [GrF.fitsB, show (19 : Int) - 1 = 18 from rfl, pw_18]; simp
theorem shape9 {V : World} (hs : ShAt V) (k0 k1 k2 k3 k4 k5 k6 k7 k8 : Nat) (c0 c1 c2 c3 c4 c5 c6 c7 c8 : Value) (hk : k0 < 216 ∧ k1 < 216 ∧ k2 < 216 ∧ k3 < 216 ∧ k4 < 216 ∧ k5 < 216 ∧ k6 < 216 ∧ k7 < 216 ∧ k8 < 216)
    (hc : shapeCells.getD k0 undef = c0 ∧ shapeCells.getD k1 undef = c1 ∧ shapeCells.getD k2 undef = c2 ∧ shapeCells.getD k3 undef = c3 ∧ shapeCells.getD k4 undef = c4 ∧ shapeCells.getD k5 undef = c5 ∧ shapeCells.getD k6 undef = c6 ∧ shapeCells.getD k7 undef = c7 ∧ shapeCells.getD k8 undef = c8) :
    V.cell? ⟨5, k0, none⟩ = some c0 ∧ V.cell? ⟨5, k1, none⟩ = some c1 ∧ V.cell? ⟨5, k2, none⟩ = some c2 ∧ V.cell? ⟨5, k3, none⟩ = some c3 ∧ V.cell? ⟨5, k4, none⟩ = some c4 ∧ V.cell? ⟨5, k5, none⟩ = some c5 ∧ V.cell? ⟨5, k6, none⟩ = some c6 ∧ V.cell? ⟨5, k7, none⟩ = some c7 ∧ V.cell? ⟨5, k8, none⟩ = some c8 := by
  obtain ⟨a0, a1, a2, a3, a4, a5, a6, a7, a8⟩ := hk
  obtain ⟨rfl, rfl, rfl, rfl, rfl, rfl, rfl, rfl, rfl⟩ := hc
  exact ⟨hs _ a0, hs _ a1, hs _ a2, hs _ a3, hs _ a4, hs _ a5, hs _ a6, hs _ a7, hs _ a8⟩
theorem six_new (w : World) (a b c d e f : Value) (T : TypeId) (o : Obj) :
    (∀ x : Wb ((w.alloc (.cells #[a, b, c, d, e, f] T)).alloc o), x.at.cell? ⟨w.heap.size, 0, none⟩ = some a) ∧ (∀ x : Wb ((w.alloc (.cells #[a, b, c, d, e, f] T)).alloc o), x.at.cell? ⟨w.heap.size, 1, none⟩ = some b) ∧ (∀ x : Wb ((w.alloc (.cells #[a, b, c, d, e, f] T)).alloc o), x.at.cell? ⟨w.heap.size, 2, none⟩ = some c) ∧
    (∀ x : Wb ((w.alloc (.cells #[a, b, c, d, e, f] T)).alloc o), x.at.cell? ⟨w.heap.size, 3, none⟩ = some d) ∧ (∀ x : Wb ((w.alloc (.cells #[a, b, c, d, e, f] T)).alloc o), x.at.cell? ⟨w.heap.size, 4, none⟩ = some e) ∧ (∀ x : Wb ((w.alloc (.cells #[a, b, c, d, e, f] T)).alloc o), x.at.cell? ⟨w.heap.size, 5, none⟩ = some f) := by
  refine ⟨?_, ?_, ?_, ?_, ?_, ?_⟩
  all_goals
    intro x
    rw [x.prev _ (by simp)]
    simp [World.cell?_alloc_new]
theorem nine_new (V : World) (c0 c1 c2 c3 c4 c5 c6 c7 c8 : Value) (T : TypeId) (B : Nat) (h : V.heap.size = B) :
    (∀ x : Wb (V.alloc (.cells #[c0, c1, c2, c3, c4, c5, c6, c7, c8] T)), x.at.cell? ⟨B, 0, none⟩ = some c0) ∧ (∀ x : Wb (V.alloc (.cells #[c0, c1, c2, c3, c4, c5, c6, c7, c8] T)), x.at.cell? ⟨B, 1, none⟩ = some c1) ∧ (∀ x : Wb (V.alloc (.cells #[c0, c1, c2, c3, c4, c5, c6, c7, c8] T)), x.at.cell? ⟨B, 2, none⟩ = some c2) ∧
    (∀ x : Wb (V.alloc (.cells #[c0, c1, c2, c3, c4, c5, c6, c7, c8] T)), x.at.cell? ⟨B, 3, none⟩ = some c3) ∧ (∀ x : Wb (V.alloc (.cells #[c0, c1, c2, c3, c4, c5, c6, c7, c8] T)), x.at.cell? ⟨B, 4, none⟩ = some c4) ∧ (∀ x : Wb (V.alloc (.cells #[c0, c1, c2, c3, c4, c5, c6, c7, c8] T)), x.at.cell? ⟨B, 5, none⟩ = some c5) ∧
    (∀ x : Wb (V.alloc (.cells #[c0, c1, c2, c3, c4, c5, c6, c7, c8] T)), x.at.cell? ⟨B, 6, none⟩ = some c6) ∧ (∀ x : Wb (V.alloc (.cells #[c0, c1, c2, c3, c4, c5, c6, c7, c8] T)), x.at.cell? ⟨B, 7, none⟩ = some c7) ∧ (∀ x : Wb (V.alloc (.cells #[c0, c1, c2, c3, c4, c5, c6, c7, c8] T)), x.at.cell? ⟨B, 8, none⟩ = some c8) := by
  subst h
  refine ⟨?_, ?_, ?_, ?_, ?_, ?_, ?_, ?_, ?_⟩
  all_goals
    intro x
    rw [x.cell _ (by simp)]
    simp [World.cell?_alloc_new]
end Go.Proofs.YtlflknfkenfpiaaGreatDoor
