/-
  Layer 3 for layer 4's laws: what the code's Right, Encode, Decode and the page's Right say, whole.
-/
import Derived.Test.YtebpmngllljkaaaDoorKf
import Derived.Test.YtebpmngllljkaaaDoorKd
import Derived.Test.YtebpmngllljkaaaDoorMk
set_option linter.unusedSimpArgs false
set_option linter.unusedVariables false
namespace GrI
theorem word_zero (y : I) (h : right y) : word y ≠ 0 := by
  obtain ⟨op, d, n, m, imm, kind⟩ := y
  have ho := ops h
  simp only at ho
  rcases ho with rfl | rfl | rfl | rfl | rfl | rfl | rfl | rfl | rfl | rfl | rfl | rfl | rfl | rfl | rfl | rfl | rfl | rfl | rfl | rfl | rfl | rfl | rfl
  all_goals
    simp [right, parts, nums] at h
    simp [word]
    try omega
  all_goals
    repeat' split
    all_goals omega
theorem word_bd (y : I) (h : right y) : 0 ≤ word y ∧ word y < 4294967296 := by
  obtain ⟨op, d, n, m, imm, kind⟩ := y
  have ho := ops h
  simp only at ho
  rcases ho with rfl | rfl | rfl | rfl | rfl | rfl | rfl | rfl | rfl | rfl | rfl | rfl | rfl | rfl | rfl | rfl | rfl | rfl | rfl | rfl | rfl | rfl | rfl
  all_goals
    simp [right, parts, nums] at h
    simp [word]
    try omega
  all_goals
    repeat' split
    all_goals omega
end GrI
namespace Go.Proofs.YtebpmngllljkaaaDoor
open Go.RowKit

theorem xenc_all (x : GrI.I) (w : World) (hs : ShAt w) (hb0 : -9223372036854775808 ≤ x.imm) (hb1 : x.imm ≤ 9223372036854775807) :
    Calls Tryd.prog 21 #[iv x] w fun e w' => e = .returned (.tuple #[.int .u32 (encV x), .int .i64 (GrI.code (encB x))]) ∧ Below w.heap.size w w' := by
  obtain ⟨op, d, n, m, imm, kind⟩ := x
  by_cases h : op < 1 ∨ 23 < op
  · have hn : encB ⟨op, d, n, m, imm, kind⟩ = false := by
      simp [encB]
      intro hr
      have h1 := hr.1
      have h2 := hr.2.1
      simp only at h1 h2
      omega
    rw [encV, hn]
    exact xenc_no op d n m imm kind w hs fun w _ => xright_out op d n m imm kind w h
  · exact xenc_any op d n m imm kind w hs (by omega) (by omega) hb0 hb1
theorem xdecode_any (x : Int) (w : World) (hs : ShAt w) (h0 : 0 ≤ x) (h1 : x < 4294967296) :
    Calls Tryd.prog 19 #[.int .u32 x] w (DecPost x w) :=
  xdecode_of x w hs h0 h1 fun op kind w hs o0 o1 => xguess_any x op kind w hs h0 h1 o0 o1
theorem xdecode_yes (y : GrI.I) (w : World) (hs : ShAt w) (hr : GrI.right y) :
    Calls Tryd.prog 19 #[.int .u32 (GrI.word y)] w fun e w' => e = .returned (.tuple #[iv y, .int .i64 0]) ∧ Below w.heap.size w w' := by
  refine (xdecode_any (GrI.word y) w hs (GrI.word_bd y hr).1 (GrI.word_bd y hr).2).mono fun e w' h => ?_
  obtain ⟨hb, ⟨z, hz, hw, rfl⟩ | ⟨hn, _⟩⟩ := h
  · rw [GrI.word_inj z y hz hr hw]; exact ⟨rfl, hb⟩
  · exact absurd rfl (hn y hr)
theorem xdecode_no (x : Int) (w : World) (hs : ShAt w) (h0 : 0 ≤ x) (h1 : x < 4294967296) (hn : ∀ y, GrI.right y → GrI.word y ≠ x) :
    Calls Tryd.prog 19 #[.int .u32 x] w fun e w' => e = .returned (.tuple #[iv GrI.zero, .int .i64 31]) ∧ Below w.heap.size w w' := by
  refine (xdecode_any x w hs h0 h1).mono fun e w' h => ?_
  obtain ⟨hb, ⟨z, hz, hw, rfl⟩ | ⟨_, rfl⟩⟩ := h
  · exact absurd hw (hn z hz)
  · exact ⟨rfl, hb⟩

theorem enc_yes (x : GrI.I) (w : World) (hs : ShAt w) (hb : -9223372036854775808 ≤ x.imm ∧ x.imm ≤ 9223372036854775807) (h : encB x = true) : Calls Tryd.prog 21 #[iv x] w fun e w' => e = .returned (.tuple #[.int .u32 (GrI.word x), .int .i64 0]) ∧ Below w.heap.size w w' := by
  have := xenc_all x w hs hb.1 hb.2
  rw [encV, h] at this
  exact this
theorem enc_no (x : GrI.I) (w : World) (hs : ShAt w) (hb : -9223372036854775808 ≤ x.imm ∧ x.imm ≤ 9223372036854775807) (h : encB x = false) : Calls Tryd.prog 21 #[iv x] w fun e w' => e = .returned (.tuple #[.int .u32 0, .int .i64 30]) ∧ Below w.heap.size w w' := by
  have := xenc_all x w hs hb.1 hb.2
  rw [encV, h] at this
  exact this
end Go.Proofs.YtebpmngllljkaaaDoor
