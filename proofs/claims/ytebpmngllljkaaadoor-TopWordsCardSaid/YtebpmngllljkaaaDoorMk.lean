/-
  Layer 3 for layer 4's laws: what the code's Right and the page's Right say, whole.
-/
import Derived.Test.YtebpmngllljkaaaDoorJe
import Derived.Test.YtebpmngllljkaaaDoorJg
import Derived.Test.YtebpmngllljkaaaDoorRy
set_option linter.unusedSimpArgs false
set_option linter.unusedVariables false
namespace GrI
theorem imm_bd {y : I} (h : right y) : -9223372036854775808 ≤ y.imm ∧ y.imm ≤ 9223372036854775807 := by
  obtain ⟨op, d, n, m, imm, kind⟩ := y
  have ho := ops h
  simp only at ho ⊢
  rcases ho with rfl | rfl | rfl | rfl | rfl | rfl | rfl | rfl | rfl | rfl | rfl | rfl | rfl | rfl | rfl | rfl | rfl | rfl | rfl | rfl | rfl | rfl | rfl
  all_goals
    simp [right, parts, nums] at h
    omega
end GrI
namespace Go.Proofs.YtebpmngllljkaaaDoor
open Go.RowKit

def encB (x : GrI.I) : Bool := decide (GrI.right x)
def encV (x : GrI.I) : Int := if encB x = true then GrI.word x else 0
set_option maxHeartbeats 1600000 in
theorem xright_out (op d n m imm kind : Int) (w : World) (h : op < 1 ∨ 23 < op) :
    Calls Tryd.prog 20 #[.agg #[.int .i64 op, .int .i64 d, .int .i64 n, .int .i64 m, .int .i64 imm, .int .i64 kind]] w fun e w' => e = .returned (.int .i64 30) ∧ Below w.heap.size w w' := by
  have KB := Lib.hid (((Below.refl _ w).alloc (Nat.le_refl _) (.cells #[.int .i64 op, .int .i64 d, .int .i64 n, .int .i64 m, .int .i64 imm, .int .i64 kind] 23)))
  cases c0 : decide (op < 1) with
  | true =>
    go_enter Tryd.func20, Tryd.ntmps20
    go_wp2
    go_ret
    exact ⟨rfl, KB.out⟩
  | false =>
    have h1 : 23 < op := by simp at c0; omega
    go_enter Tryd.func20, Tryd.ntmps20
    go_wp2
    go_ret
    exact ⟨rfl, KB.out⟩

theorem xright_all (x : GrI.I) (w : World) (hs : ShAt w) (hb0 : -9223372036854775808 ≤ x.imm) (hb1 : x.imm ≤ 9223372036854775807) :
    Calls Tryd.prog 20 #[iv x] w fun e w' => e = .returned (.int .i64 (GrI.code (encB x))) ∧ Below w.heap.size w w' := by
  obtain ⟨op, d, n, m, imm, kind⟩ := x
  by_cases h : op < 1 ∨ 23 < op
  · have hn : encB ⟨op, d, n, m, imm, kind⟩ = false := by
      simp [encB]
      intro hr
      have h1 := hr.1
      have h2 := hr.2.1
      simp only at h1 h2
      omega
    rw [hn]
    exact xright_out op d n m imm kind w h
  · have ho : op = 1 ∨ op = 2 ∨ op = 3 ∨ op = 4 ∨ op = 5 ∨ op = 6 ∨ op = 7 ∨ op = 8 ∨ op = 9 ∨ op = 10 ∨ op = 11 ∨ op = 12 ∨ op = 13 ∨ op = 14 ∨ op = 15 ∨ op = 16 ∨ op = 17 ∨ op = 18 ∨ op = 19 ∨ op = 20 ∨ op = 21 ∨ op = 22 ∨ op = 23 := by omega
    rcases ho with rfl | rfl | rfl | rfl | rfl | rfl | rfl | rfl | rfl | rfl | rfl | rfl | rfl | rfl | rfl | rfl | rfl | rfl | rfl | rfl | rfl | rfl | rfl
    · exact xright_1 d n m imm kind w hs hb0 hb1
    · exact xright_2 d n m imm kind w hs hb0 hb1
    · exact xright_3 d n m imm kind w hs hb0 hb1
    · exact xright_4 d n m imm kind w hs hb0 hb1
    · exact xright_5 d n m imm kind w hs hb0 hb1
    · exact xright_6 d n m imm kind w hs hb0 hb1
    · exact xright_7 d n m imm kind w hs hb0 hb1
    · exact xright_8 d n m imm kind w hs hb0 hb1
    · exact xright_9 d n m imm kind w hs hb0 hb1
    · exact xright_10 d n m imm kind w hs hb0 hb1
    · exact xright_11 d n m imm kind w hs hb0 hb1
    · exact xright_12 d n m imm kind w hs hb0 hb1
    · exact xright_13 d n m imm kind w hs hb0 hb1
    · exact xright_14 d n m imm kind w hs hb0 hb1
    · exact xright_15 d n m imm kind w hs hb0 hb1
    · exact xright_16 d n m imm kind w hs hb0 hb1
    · exact xright_17 d n m imm kind w hs hb0 hb1
    · exact xright_18 d n m imm kind w hs hb0 hb1
    · exact xright_19 d n m imm kind w hs hb0 hb1
    · exact xright_20 d n m imm kind w hs hb0 hb1
    · exact xright_21 d n m imm kind w hs hb0 hb1
    · exact xright_22 d n m imm kind w hs hb0 hb1
    · exact xright_23 d n m imm kind w hs hb0 hb1
theorem encB_true {x : GrI.I} (h : encB x = true) : GrI.right x := by simpa [encB] using h
theorem encB_false {x : GrI.I} (h : encB x = false) : ¬ GrI.right x := by simpa [encB] using h
theorem right_yes (x : GrI.I) (w : World) (hs : ShAt w) (hb : -9223372036854775808 ≤ x.imm ∧ x.imm ≤ 9223372036854775807) (h : encB x = true) : Calls Tryd.prog 20 #[iv x] w fun e w' => e = .returned (.int .i64 0) ∧ Below w.heap.size w w' := by
  have := xright_all x w hs hb.1 hb.2
  rw [h] at this
  exact this
theorem right_no (x : GrI.I) (w : World) (hs : ShAt w) (hb : -9223372036854775808 ≤ x.imm ∧ x.imm ≤ 9223372036854775807) (h : encB x = false) : Calls Tryd.prog 20 #[iv x] w fun e w' => e = .returned (.int .i64 30) ∧ Below w.heap.size w w' := by
  have := xright_all x w hs hb.1 hb.2
  rw [h] at this
  exact this
end Go.Proofs.YtebpmngllljkaaaDoor
