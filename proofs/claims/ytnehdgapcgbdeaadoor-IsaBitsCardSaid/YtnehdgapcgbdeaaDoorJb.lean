/-
  Layer 3, the code's walks: kind; the table.
-/
import Derived.Test.YtnehdgapcgbdeaaDoorJa
import Derived.Deep.Light
set_option linter.unusedSimpArgs false
set_option linter.unusedVariables false
namespace Go.Proofs.YtnehdgapcgbdeaaDoor
open Go.RowKit

/-- the table's cells -/
def shapeCells : List Value := [.int .u32 0, .bool false, .bool false, .bool false, .int .i64 0, .int .i64 0, .int .i64 0, .int .i64 0, .int .i64 0, .int .u32 3573751839, .bool false, .bool false, .bool false, .int .i64 0, .int .i64 0, .int .i64 0, .int .i64 0, .int .i64 0, .int .u32 4181721088, .bool true, .bool true, .bool false, .int .i64 12, .int .i64 10, .int .i64 8, .int .i64 0, .int .i64 0, .int .u32 4177526784, .bool true, .bool true, .bool false, .int .i64 12, .int .i64 10, .int .i64 8, .int .i64 0, .int .i64 0, .int .u32 3370122240, .bool true, .bool true, .bool false, .int .i64 0, .int .i64 0, .int .i64 0, .int .i64 0, .int .i64 0, .int .u32 3365927936, .bool true, .bool true, .bool false, .int .i64 0, .int .i64 0, .int .i64 0, .int .i64 0, .int .i64 0, .int .u32 3531603968, .bool true, .bool false, .bool false, .int .i64 16, .int .i64 5, .int .i64 1, .int .i64 4, .int .i64 21, .int .u32 2432696320, .bool true, .bool true, .bool false, .int .i64 12, .int .i64 10, .int .i64 1, .int .i64 0, .int .i64 0, .int .u32 2332033024, .bool true, .bool true, .bool true, .int .i64 0, .int .i64 0, .int .i64 0, .int .i64 0, .int .i64 0, .int .u32 3405774848, .bool true, .bool true, .bool true, .int .i64 0, .int .i64 0, .int .i64 0, .int .i64 0, .int .i64 0, .int .u32 2315255808, .bool true, .bool true, .bool true, .int .i64 0, .int .i64 0, .int .i64 0, .int .i64 0, .int .i64 0, .int .u32 2852126720, .bool true, .bool true, .bool true, .int .i64 0, .int .i64 0, .int .i64 0, .int .i64 0, .int .i64 0, .int .u32 3388997632, .bool true, .bool true, .bool true, .int .i64 0, .int .i64 0, .int .i64 0, .int .i64 0, .int .i64 0, .int .u32 3942645760, .bool true, .bool true, .bool true, .int .i64 0, .int .i64 0, .int .i64 0, .int .i64 0, .int .i64 0, .int .u32 335544320, .bool false, .bool false, .bool false, .int .i64 (-26), .int .i64 0, .int .i64 1, .int .i64 0, .int .i64 0, .int .u32 3019898880, .bool true, .bool false, .bool false, .int .i64 (-19), .int .i64 5, .int .i64 1, .int .i64 0, .int .i64 0, .int .u32 3036676096, .bool true, .bool false, .bool false, .int .i64 (-19), .int .i64 5, .int .i64 1, .int .i64 0, .int .i64 0, .int .u32 1409286144, .bool false, .bool false, .bool false, .int .i64 (-19), .int .i64 5, .int .i64 1, .int .i64 2, .int .i64 0, .int .u32 3573756095, .bool false, .bool false, .bool false, .int .i64 0, .int .i64 0, .int .i64 0, .int .i64 16, .int .i64 8, .int .u32 3573756063, .bool false, .bool false, .bool false, .int .i64 0, .int .i64 0, .int .i64 0, .int .i64 16, .int .i64 8, .int .u32 3573759967, .bool false, .bool false, .bool false, .int .i64 0, .int .i64 0, .int .i64 0, .int .i64 0, .int .i64 0, .int .u32 3574104832, .bool true, .bool false, .bool false, .int .i64 0, .int .i64 0, .int .i64 0, .int .i64 8, .int .i64 0, .int .u32 3600745440, .bool false, .bool false, .bool false, .int .i64 0, .int .i64 0, .int .i64 0, .int .i64 0, .int .i64 0, .int .u32 3577217024, .bool true, .bool false, .bool false, .int .i64 0, .int .i64 0, .int .i64 0, .int .i64 3, .int .i64 0]
/-- the table lies in memory as the text lays it -/
def ShAt (w : World) : Prop := ∀ i, i < 216 → w.cell? ⟨0, i, none⟩ = some (shapeCells.getD i undef)
theorem ShAt.lt {w : World} (h : ShAt w) : 0 < w.heap.size := World.block_lt_of_cell? w _ (h 0 (by decide))
theorem ShAt.below {w w' : World} (h : ShAt w) (b : Below w.heap.size w w') : ShAt w' := fun i hi => (b.cell (p := ⟨0, i, none⟩) h.lt).trans (h i hi)
theorem ShAt.alloc {w : World} (h : ShAt w) (o : Obj) : ShAt (w.alloc o) := h.below ((Below.refl _ _).alloc (Nat.le_refl _) o)

set_option maxHeartbeats 1600000 in
theorem kind_a (op d n m imm kind : Int) (wd : Int) (hd hn hm : Bool) (im a b k ka : Int) (w : World) (h : op = 18 ∨ op = 19) :
    Calls Tryd.prog 24 #[.agg #[.int .i64 op, .int .i64 d, .int .i64 n, .int .i64 m, .int .i64 imm, .int .i64 kind], .agg #[.int .u32 wd, .bool hd, .bool hn, .bool hm, .int .i64 im, .int .i64 a, .int .i64 b, .int .i64 k, .int .i64 ka]] w fun e w' => e = .returned (.bool (GrI.kindB op d kind k)) ∧ Below w.heap.size w w' := by
  have E := Lib.hid (show GrI.kindB op d kind k = (decide (9 ≤ kind) && decide (kind ≤ 15) && (kind != 12)) by rw [GrI.kindB, if_pos h])
  rcases h with rfl | rfl
  all_goals
    cases c0 : decide (9 ≤ kind) with
    | false =>
      go_enter Tryd.func24, Tryd.ntmps24
      go_wp2
      go_ret
      exact ⟨ret_b (by rw [E.out]; simp [c0]), (((Below.refl _ _).alloc (Nat.le_refl _) _).alloc (by simp) _)⟩
    | true =>
      cases c1 : decide (kind ≤ 15) with
      | false =>
        go_enter Tryd.func24, Tryd.ntmps24
        go_wp2
        go_ret
        exact ⟨ret_b (by rw [E.out]; simp [c0, c1]), (((Below.refl _ _).alloc (Nat.le_refl _) _).alloc (by simp) _)⟩
      | true =>
        go_enter Tryd.func24, Tryd.ntmps24
        go_wp2
        go_ret
        exact ⟨ret_b (by rw [E.out]; simp [c0, c1]), (((Below.refl _ _).alloc (Nat.le_refl _) _).alloc (by simp) _)⟩

set_option maxHeartbeats 1600000 in
theorem kind_b (op d n m imm kind : Int) (wd : Int) (hd hn hm : Bool) (im a b k ka : Int) (w : World) (h : op = 21) :
    Calls Tryd.prog 24 #[.agg #[.int .i64 op, .int .i64 d, .int .i64 n, .int .i64 m, .int .i64 imm, .int .i64 kind], .agg #[.int .u32 wd, .bool hd, .bool hn, .bool hm, .int .i64 im, .int .i64 a, .int .i64 b, .int .i64 k, .int .i64 ka]] w fun e w' => e = .returned (.bool (GrI.kindB op d kind k)) ∧ Below w.heap.size w w' := by
  have E := Lib.hid (show GrI.kindB op d kind k = (decide (0 ≤ kind) && decide (kind < k) && ((kind % 4 != 0) || (d == 31))) by rw [GrI.kindB, if_neg (by omega), if_pos h])
  subst h
  cases c0 : decide (0 ≤ kind) with
  | false =>
    go_enter Tryd.func24, Tryd.ntmps24
    go_wp2
    go_ret
    exact ⟨ret_b (by rw [E.out]; simp [c0]), (((Below.refl _ _).alloc (Nat.le_refl _) _).alloc (by simp) _)⟩
  | true =>
    cases c1 : decide (kind < k) with
    | false =>
      go_enter Tryd.func24, Tryd.ntmps24
      go_wp2
      go_ret
      exact ⟨ret_b (by rw [E.out]; simp [c0, c1]), (((Below.refl _ _).alloc (Nat.le_refl _) _).alloc (by simp) _)⟩
    | true =>
      have p0 : 0 ≤ kind := by simpa using c0
      cases c2 : (kind % 4 != 0) with
      | false =>
        go_enter Tryd.func24, Tryd.ntmps24
        go_wp2
        go_ret
        exact ⟨ret_b (by rw [E.out]; simp [c0, c1, c2]), (((Below.refl _ _).alloc (Nat.le_refl _) _).alloc (by simp) _)⟩
      | true =>
        go_enter Tryd.func24, Tryd.ntmps24
        go_wp2
        go_ret
        exact ⟨ret_b (by rw [E.out]; simp [c0, c1, c2]), (((Below.refl _ _).alloc (Nat.le_refl _) _).alloc (by simp) _)⟩

set_option maxHeartbeats 1600000 in
theorem kind_c (op d n m imm kind : Int) (wd : Int) (hd hn hm : Bool) (im a b k ka : Int) (w : World) (h : op ≠ 18) (h2 : op ≠ 19) (h3 : op ≠ 21) :
    Calls Tryd.prog 24 #[.agg #[.int .i64 op, .int .i64 d, .int .i64 n, .int .i64 m, .int .i64 imm, .int .i64 kind], .agg #[.int .u32 wd, .bool hd, .bool hn, .bool hm, .int .i64 im, .int .i64 a, .int .i64 b, .int .i64 k, .int .i64 ka]] w fun e w' => e = .returned (.bool (GrI.kindB op d kind k)) ∧ Below w.heap.size w w' := by
  have E := Lib.hid (show GrI.kindB op d kind k = ((kind == 0) || (decide (0 < kind) && decide (kind < k))) by rw [GrI.kindB, if_neg (by omega), if_neg h3])
  have n1 : (op == 18) = false := by simpa using h
  have n2 : (op == 19) = false := by simpa using h2
  have n3 : (op == 21) = false := by simpa using h3
  clear h h2 h3
  by_cases z : kind = 0
  · subst z
    go_enter Tryd.func24, Tryd.ntmps24
    go_wp2
    go_ret
    exact ⟨ret_b (by rw [E.out]; simp []), (((Below.refl _ _).alloc (Nat.le_refl _) _).alloc (by simp) _)⟩
  · have c0 : (kind == 0) = false := by simpa using z
    clear z
    cases c1 : decide (0 < kind) with
    | false =>
      go_enter Tryd.func24, Tryd.ntmps24
      go_wp2
      go_ret
      exact ⟨ret_b (by rw [E.out]; simp [c0, c1]), (((Below.refl _ _).alloc (Nat.le_refl _) _).alloc (by simp) _)⟩
    | true =>
      go_enter Tryd.func24, Tryd.ntmps24
      go_wp2
      go_ret
      exact ⟨ret_b (by rw [E.out]; simp [c0, c1]), (((Below.refl _ _).alloc (Nat.le_refl _) _).alloc (by simp) _)⟩

end Go.Proofs.YtnehdgapcgbdeaaDoor
