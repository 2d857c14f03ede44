/-
  Layer 3, the code's walks: Right of an operation that there isn't, Encode of what is not right.
-/
import Derived.Test.YtnehdgapcgbdeaaDoorJd
import Derived.Test.YtnehdgapcgbdeaaDoorJe
import Derived.Test.YtnehdgapcgbdeaaDoorJf
import Derived.Test.YtnehdgapcgbdeaaDoorJg
import Derived.Test.YtnehdgapcgbdeaaDoorJl
set_option linter.unusedSimpArgs false
set_option linter.unusedVariables false
namespace Go.Proofs.YtnehdgapcgbdeaaDoor
open Go.RowKit

set_option maxHeartbeats 1600000 in
theorem xright_out (op d n m imm kind : Int) (w : World) (h : op < 1 ∨ 23 < op) :
    Calls Tryd.prog 12 #[.agg #[.int .i64 op, .int .i64 d, .int .i64 n, .int .i64 m, .int .i64 imm, .int .i64 kind]] w fun e w' => e = .returned (.int .i64 30) ∧ Below w.heap.size w w' := by
  have KB := Lib.hid (((Below.refl _ w).alloc (Nat.le_refl _) (.cells #[.int .i64 op, .int .i64 d, .int .i64 n, .int .i64 m, .int .i64 imm, .int .i64 kind] 23)))
  cases c0 : decide (op < 1) with
  | true =>
    go_enter Tryd.func12, Tryd.ntmps12
    go_wp2
    go_ret
    exact ⟨rfl, KB.out⟩
  | false =>
    have h1 : 23 < op := by simp at c0; omega
    go_enter Tryd.func12, Tryd.ntmps12
    go_wp2
    go_ret
    exact ⟨rfl, KB.out⟩

set_option maxHeartbeats 1600000 in
theorem xenc_no (op d n m imm kind : Int) (w : World) (hs : ShAt w)
    (RI : ∀ w, ShAt w → Calls Tryd.prog 12 #[.agg #[.int .i64 op, .int .i64 d, .int .i64 n, .int .i64 m, .int .i64 imm, .int .i64 kind]] w fun e w' => e = .returned (.int .i64 30) ∧ Below w.heap.size w w') :
    Calls Tryd.prog 10 #[.agg #[.int .i64 op, .int .i64 d, .int .i64 n, .int .i64 m, .int .i64 imm, .int .i64 kind]] w fun e w' => e = .returned (.tuple #[.int .u32 0, .int .i64 30]) ∧ Below w.heap.size w w' := by
  have RI := Lib.hid RI
  have HS := Lib.hid hs
  clear hs
  go_enter Tryd.func10, Tryd.ntmps10
  go_wp2_with fail
  refine (RI.out _ (HS.out.alloc _)).mono ?_
  rintro e w1 ⟨rfl, b1⟩
  have KB := Lib.hid (((Below.refl _ _).alloc (Nat.le_refl _) _).trans (b1.mono (by simp)) : Below w.heap.size w w1)
  clear b1
  go_wp2
  go_ret2
  exact ⟨rfl, KB.out⟩

theorem xenc_bad (op d n m imm kind : Int) (w : World) (hs : ShAt w) (h0 : 1 ≤ op) (h1 : op ≤ 23) (hb0 : -9223372036854775808 ≤ imm) (hb1 : imm ≤ 9223372036854775807) (hr : ¬ GrI.right ⟨op, d, n, m, imm, kind⟩) :
    Calls Tryd.prog 10 #[.agg #[.int .i64 op, .int .i64 d, .int .i64 n, .int .i64 m, .int .i64 imm, .int .i64 kind]] w fun e w' => e = .returned (.tuple #[.int .u32 0, .int .i64 30]) ∧ Below w.heap.size w w' := by
  refine xenc_no op d n m imm kind w hs fun w hs => ?_
  have h : op = 1 ∨ op = 2 ∨ op = 3 ∨ op = 4 ∨ op = 5 ∨ op = 6 ∨ op = 7 ∨ op = 8 ∨ op = 9 ∨ op = 10 ∨ op = 11 ∨ op = 12 ∨ op = 13 ∨ op = 14 ∨ op = 15 ∨ op = 16 ∨ op = 17 ∨ op = 18 ∨ op = 19 ∨ op = 20 ∨ op = 21 ∨ op = 22 ∨ op = 23 := by omega
  have hc : GrI.code (decide (GrI.right ⟨op, d, n, m, imm, kind⟩)) = 30 := by simp [GrI.code, hr]
  rcases h with rfl | rfl | rfl | rfl | rfl | rfl | rfl | rfl | rfl | rfl | rfl | rfl | rfl | rfl | rfl | rfl | rfl | rfl | rfl | rfl | rfl | rfl | rfl
  · rw [← hc]; exact xright_1 d n m imm kind w hs hb0 hb1
  · rw [← hc]; exact xright_2 d n m imm kind w hs hb0 hb1
  · rw [← hc]; exact xright_3 d n m imm kind w hs hb0 hb1
  · rw [← hc]; exact xright_4 d n m imm kind w hs hb0 hb1
  · rw [← hc]; exact xright_5 d n m imm kind w hs hb0 hb1
  · rw [← hc]; exact xright_6 d n m imm kind w hs hb0 hb1
  · rw [← hc]; exact xright_7 d n m imm kind w hs hb0 hb1
  · rw [← hc]; exact xright_8 d n m imm kind w hs hb0 hb1
  · rw [← hc]; exact xright_9 d n m imm kind w hs hb0 hb1
  · rw [← hc]; exact xright_10 d n m imm kind w hs hb0 hb1
  · rw [← hc]; exact xright_11 d n m imm kind w hs hb0 hb1
  · rw [← hc]; exact xright_12 d n m imm kind w hs hb0 hb1
  · rw [← hc]; exact xright_13 d n m imm kind w hs hb0 hb1
  · rw [← hc]; exact xright_14 d n m imm kind w hs hb0 hb1
  · rw [← hc]; exact xright_15 d n m imm kind w hs hb0 hb1
  · rw [← hc]; exact xright_16 d n m imm kind w hs hb0 hb1
  · rw [← hc]; exact xright_17 d n m imm kind w hs hb0 hb1
  · rw [← hc]; exact xright_18 d n m imm kind w hs hb0 hb1
  · rw [← hc]; exact xright_19 d n m imm kind w hs hb0 hb1
  · rw [← hc]; exact xright_20 d n m imm kind w hs hb0 hb1
  · rw [← hc]; exact xright_21 d n m imm kind w hs hb0 hb1
  · rw [← hc]; exact xright_22 d n m imm kind w hs hb0 hb1
  · rw [← hc]; exact xright_23 d n m imm kind w hs hb0 hb1
end Go.Proofs.YtnehdgapcgbdeaaDoor
