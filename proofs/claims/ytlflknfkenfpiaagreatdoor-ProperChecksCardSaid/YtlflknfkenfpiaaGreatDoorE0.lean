/-
  Texts of one claim, merged.
-/
import Derived.Test.YtlflknfkenfpiaaGreatDoorB3
import Derived.Test.YtlflknfkenfpiaaGreatDoorB3b
import Derived.Test.YtlflknfkenfpiaaGreatDoorB1
set_option linter.unusedSimpArgs false
set_option linter.unusedVariables false
namespace GrI
end GrI
namespace Go.Proofs.YtlflknfkenfpiaaGreatDoor
open Go.RowKit
def encB (x : GrI.I) : Bool := decide (GrI.right x)
set_option maxHeartbeats 1600000 in
theorem xright_out (op d n m imm kind : Int) (w : World) (h : op < 1 ∨ 23 < op) :
    Calls Tryz.prog 86 #[.agg #[.int .i64 op, .int .i64 d, .int .i64 n, .int .i64 m, .int .i64 imm, .int .i64 kind]] w fun e w' => e = .returned (.int .i64 30) ∧ Below w.heap.size w w' := by
  have KB := Lib.hid (((Below.refl _ w).alloc (Nat.le_refl _) (.cells #[.int .i64 op, .int .i64 d, .int .i64 n, .int .i64 m, .int .i64 imm, .int .i64 kind] 84)))
  cases c0 : decide (op < 1) with
  | true =>
    go_enter Tryz.func86, Tryz.ntmps86
    go_wp2
    go_ret
    exact ⟨rfl, KB.out⟩
  | false =>
    have h1 : 23 < op := by simp at c0; omega
    go_enter Tryz.func86, Tryz.ntmps86
    go_wp2
    go_ret
    exact ⟨rfl, KB.out⟩
theorem xright_all (x : GrI.I) (w : World) (hs : ShAt w) (hb0 : -9223372036854775808 ≤ x.imm) (hb1 : x.imm ≤ 9223372036854775807) :
    Calls Tryz.prog 86 #[iv x] w fun e w' => e = .returned (.int .i64 (GrI.code (encB x))) ∧ Below w.heap.size w w' := by
  obtain ⟨op, d, n, m, imm, kind⟩ := x
  by_cases h : op < 1 ∨ 23 < op
  · have hn : encB ⟨op, d, n, m, imm, kind⟩ = false := by
      simp [encB]
      intro hr
      have h1 := hr.1
      have h2 := hr.2.1
      simp only at h1 h2
      omega
    rw [hn]
    exact xright_out op d n m imm kind w h
  · have ho : op = 1 ∨ op = 2 ∨ op = 3 ∨ op = 4 ∨ op = 5 ∨ op = 6 ∨ op = 7 ∨ op = 8 ∨ op = 9 ∨ op = 10 ∨ op = 11 ∨ op = 12 ∨ op = 13 ∨ op = 14 ∨ op = 15 ∨ op = 16 ∨ op = 17 ∨ op = 18 ∨ op = 19 ∨ op = 20 ∨ op = 21 ∨ op = 22 ∨ op = 23 := by omega
    rcases ho with rfl | rfl | rfl | rfl | rfl | rfl | rfl | rfl | rfl | rfl | rfl | rfl | rfl | rfl | rfl | rfl | rfl | rfl | rfl | rfl | rfl | rfl | rfl
    · exact xright_1 d n m imm kind w hs hb0 hb1
    · exact xright_2 d n m imm kind w hs hb0 hb1
    · exact xright_3 d n m imm kind w hs hb0 hb1
    · exact xright_4 d n m imm kind w hs hb0 hb1
    · exact xright_5 d n m imm kind w hs hb0 hb1
    · exact xright_6 d n m imm kind w hs hb0 hb1
    · exact xright_7 d n m imm kind w hs hb0 hb1
    · exact xright_8 d n m imm kind w hs hb0 hb1
    · exact xright_9 d n m imm kind w hs hb0 hb1
    · exact xright_10 d n m imm kind w hs hb0 hb1
    · exact xright_11 d n m imm kind w hs hb0 hb1
    · exact xright_12 d n m imm kind w hs hb0 hb1
    · exact xright_13 d n m imm kind w hs hb0 hb1
    · exact xright_14 d n m imm kind w hs hb0 hb1
    · exact xright_15 d n m imm kind w hs hb0 hb1
    · exact xright_16 d n m imm kind w hs hb0 hb1
    · exact xright_17 d n m imm kind w hs hb0 hb1
    · exact xright_18 d n m imm kind w hs hb0 hb1
    · exact xright_19 d n m imm kind w hs hb0 hb1
    · exact xright_20 d n m imm kind w hs hb0 hb1
    · exact xright_21 d n m imm kind w hs hb0 hb1
    · exact xright_22 d n m imm kind w hs hb0 hb1
    · exact xright_23 d n m imm kind w hs hb0 hb1
end Go.Proofs.YtlflknfkenfpiaaGreatDoor
