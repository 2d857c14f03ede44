/-
  Layer 3, the laws: what the code's and the page's functions say, whole; the page's examples.
-/
import Derived.Test.YtnehdgapcgbdeaaDoorKf
import Derived.Test.YtnehdgapcgbdeaaDoorKd
import Derived.Test.YtnehdgapcgbdeaaDoorMc
set_option linter.unusedSimpArgs false
set_option linter.unusedVariables false
namespace GrI
theorem word_zero (y : I) (h : right y) : word y ≠ 0 := by
  obtain ⟨op, d, n, m, imm, kind⟩ := y
  have ho := ops h
  simp only at ho
  rcases ho with rfl | rfl | rfl | rfl | rfl | rfl | rfl | rfl | rfl | rfl | rfl | rfl | rfl | rfl | rfl | rfl | rfl | rfl | rfl | rfl | rfl | rfl | rfl
  all_goals
    simp [right, parts, nums] at h
    simp [word]
    try omega
  all_goals
    repeat' split
    all_goals omega
theorem word_bd (y : I) (h : right y) : 0 ≤ word y ∧ word y < 4294967296 := by
  obtain ⟨op, d, n, m, imm, kind⟩ := y
  have ho := ops h
  simp only at ho
  rcases ho with rfl | rfl | rfl | rfl | rfl | rfl | rfl | rfl | rfl | rfl | rfl | rfl | rfl | rfl | rfl | rfl | rfl | rfl | rfl | rfl | rfl | rfl | rfl
  all_goals
    simp [right, parts, nums] at h
    simp [word]
    try omega
  all_goals
    repeat' split
    all_goals omega
end GrI
namespace Go.Proofs.YtnehdgapcgbdeaaDoor
open Go.RowKit
theorem xright_all (x : GrI.I) (w : World) (hs : ShAt w) (hb0 : -9223372036854775808 ≤ x.imm) (hb1 : x.imm ≤ 9223372036854775807) :
    Calls Tryd.prog 12 #[iv x] w fun e w' => e = .returned (.int .i64 (GrI.code (encB x))) ∧ Below w.heap.size w w' := by
  obtain ⟨op, d, n, m, imm, kind⟩ := x
  by_cases h : op < 1 ∨ 23 < op
  · have hn : encB ⟨op, d, n, m, imm, kind⟩ = false := by
      simp [encB]
      intro hr
      have h1 := hr.1
      have h2 := hr.2.1
      simp only at h1 h2
      omega
    rw [hn]
    exact xright_out op d n m imm kind w h
  · have ho : op = 1 ∨ op = 2 ∨ op = 3 ∨ op = 4 ∨ op = 5 ∨ op = 6 ∨ op = 7 ∨ op = 8 ∨ op = 9 ∨ op = 10 ∨ op = 11 ∨ op = 12 ∨ op = 13 ∨ op = 14 ∨ op = 15 ∨ op = 16 ∨ op = 17 ∨ op = 18 ∨ op = 19 ∨ op = 20 ∨ op = 21 ∨ op = 22 ∨ op = 23 := by omega
    rcases ho with rfl | rfl | rfl | rfl | rfl | rfl | rfl | rfl | rfl | rfl | rfl | rfl | rfl | rfl | rfl | rfl | rfl | rfl | rfl | rfl | rfl | rfl | rfl
    · exact xright_1 d n m imm kind w hs hb0 hb1
    · exact xright_2 d n m imm kind w hs hb0 hb1
    · exact xright_3 d n m imm kind w hs hb0 hb1
    · exact xright_4 d n m imm kind w hs hb0 hb1
    · exact xright_5 d n m imm kind w hs hb0 hb1
    · exact xright_6 d n m imm kind w hs hb0 hb1
    · exact xright_7 d n m imm kind w hs hb0 hb1
    · exact xright_8 d n m imm kind w hs hb0 hb1
    · exact xright_9 d n m imm kind w hs hb0 hb1
    · exact xright_10 d n m imm kind w hs hb0 hb1
    · exact xright_11 d n m imm kind w hs hb0 hb1
    · exact xright_12 d n m imm kind w hs hb0 hb1
    · exact xright_13 d n m imm kind w hs hb0 hb1
    · exact xright_14 d n m imm kind w hs hb0 hb1
    · exact xright_15 d n m imm kind w hs hb0 hb1
    · exact xright_16 d n m imm kind w hs hb0 hb1
    · exact xright_17 d n m imm kind w hs hb0 hb1
    · exact xright_18 d n m imm kind w hs hb0 hb1
    · exact xright_19 d n m imm kind w hs hb0 hb1
    · exact xright_20 d n m imm kind w hs hb0 hb1
    · exact xright_21 d n m imm kind w hs hb0 hb1
    · exact xright_22 d n m imm kind w hs hb0 hb1
    · exact xright_23 d n m imm kind w hs hb0 hb1
theorem xenc_all (x : GrI.I) (w : World) (hs : ShAt w) (hb0 : -9223372036854775808 ≤ x.imm) (hb1 : x.imm ≤ 9223372036854775807) :
    Calls Tryd.prog 10 #[iv x] w fun e w' => e = .returned (.tuple #[.int .u32 (encV x), .int .i64 (GrI.code (encB x))]) ∧ Below w.heap.size w w' := by
  obtain ⟨op, d, n, m, imm, kind⟩ := x
  by_cases h : op < 1 ∨ 23 < op
  · have hn : encB ⟨op, d, n, m, imm, kind⟩ = false := by
      simp [encB]
      intro hr
      have h1 := hr.1
      have h2 := hr.2.1
      simp only at h1 h2
      omega
    rw [encV, hn]
    exact xenc_no op d n m imm kind w hs fun w _ => xright_out op d n m imm kind w h
  · exact xenc_any op d n m imm kind w hs (by omega) (by omega) hb0 hb1
theorem xdecode_any (x : Int) (w : World) (hs : ShAt w) (h0 : 0 ≤ x) (h1 : x < 4294967296) :
    Calls Tryd.prog 14 #[.int .u32 x] w (DecPost x w) :=
  xdecode_of x w hs h0 h1 fun op kind w hs o0 o1 => xguess_any x op kind w hs h0 h1 o0 o1
theorem xdecode_yes (y : GrI.I) (w : World) (hs : ShAt w) (hr : GrI.right y) :
    Calls Tryd.prog 14 #[.int .u32 (GrI.word y)] w fun e w' => e = .returned (.tuple #[iv y, .int .i64 0]) ∧ Below w.heap.size w w' := by
  refine (xdecode_any (GrI.word y) w hs (GrI.word_bd y hr).1 (GrI.word_bd y hr).2).mono fun e w' h => ?_
  obtain ⟨hb, ⟨z, hz, hw, rfl⟩ | ⟨hn, _⟩⟩ := h
  · rw [GrI.word_inj z y hz hr hw]; exact ⟨rfl, hb⟩
  · exact absurd rfl (hn y hr)
theorem xdecode_no (x : Int) (w : World) (hs : ShAt w) (h0 : 0 ≤ x) (h1 : x < 4294967296) (hn : ∀ y, GrI.right y → GrI.word y ≠ x) :
    Calls Tryd.prog 14 #[.int .u32 x] w fun e w' => e = .returned (.tuple #[iv GrI.zero, .int .i64 31]) ∧ Below w.heap.size w w' := by
  refine (xdecode_any x w hs h0 h1).mono fun e w' h => ?_
  obtain ⟨hb, ⟨z, hz, hw, rfl⟩ | ⟨_, rfl⟩⟩ := h
  · exact absurd hw (hn z hz)
  · exact ⟨rfl, hb⟩
theorem pdecode_yes (y : GrI.I) (w : World) (hr : GrI.right y) :
    Calls Tryd.prog 15 #[.int .i64 (GrI.word y)] w fun e w' => e = .returned (.tuple #[iv y, .bool true]) ∧ Below w.heap.size w w' := by
  refine (pdecode_any (GrI.word y) w (GrI.word_bd y hr).1 (GrI.word_bd y hr).2).mono fun e w' h => ?_
  obtain ⟨hb, ⟨z, hz, hw, rfl⟩ | ⟨hn, _⟩⟩ := h
  · rw [GrI.word_inj z y hz hr hw]; exact ⟨rfl, hb⟩
  · exact absurd rfl (hn y hr)
theorem pdecode_no (x : Int) (w : World) (h0 : 0 ≤ x) (h1 : x < 4294967296) (hn : ∀ y, GrI.right y → GrI.word y ≠ x) :
    Calls Tryd.prog 15 #[.int .i64 x] w fun e w' => e = .returned (.tuple #[iv GrI.zero, .bool false]) ∧ Below w.heap.size w w' := by
  refine (pdecode_any x w h0 h1).mono fun e w' h => ?_
  obtain ⟨hb, ⟨z, hz, hw, rfl⟩ | ⟨_, rfl⟩⟩ := h
  · exact absurd hw (hn z hz)
  · exact ⟨rfl, hb⟩

theorem enc_ldr (w : World) (hs : ShAt w) : Calls Tryd.prog 10 #[.agg #[.int .i64 2, .int .i64 1, .int .i64 2, .int .i64 0, .int .i64 8, .int .i64 0]] w fun e w' => e = .returned (.tuple #[.int .u32 4181722177, .int .i64 0]) ∧ Below w.heap.size w w' :=
  xenc_all ⟨2, 1, 2, 0, 8, 0⟩ w hs (by decide) (by decide)
theorem enc_tlbi (w : World) (hs : ShAt w) : Calls Tryd.prog 10 #[.agg #[.int .i64 21, .int .i64 3, .int .i64 0, .int .i64 0, .int .i64 0, .int .i64 1]] w fun e w' => e = .returned (.tuple #[.int .u32 3574104867, .int .i64 0]) ∧ Below w.heap.size w w' :=
  xenc_all ⟨21, 3, 0, 0, 0, 1⟩ w hs (by decide) (by decide)
theorem dec_zero (w : World) (hs : ShAt w) : Calls Tryd.prog 14 #[.int .u32 0] w fun e w' => e = .returned (.tuple #[.agg #[.int .i64 0, .int .i64 0, .int .i64 0, .int .i64 0, .int .i64 0, .int .i64 0], .int .i64 31]) ∧ Below w.heap.size w w' :=
  xdecode_no 0 w hs (by decide) (by decide) GrI.word_zero

set_option maxHeartbeats 1600000 in
theorem iawake_any (w : World) (hs : ShAt w) :
    Calls Tryd.prog 9 #[] w fun e w' => e = .returned (.bool true) ∧ Below w.heap.size w w' := by
  have H0 := Lib.hid hs
  clear hs
  go_enter Tryd.func9, Tryd.ntmps9
  go_wp2_with fail
  refine (enc_ldr _ H0.out).mono ?_
  rintro e w1 ⟨rfl, b1⟩
  have H1 := Lib.hid (H0.out.below b1)
  have B1 := Lib.hid b1
  clear b1
  go_wp2_with fail
  refine (enc_tlbi _ H1.out).mono ?_
  rintro e w2 ⟨rfl, b2⟩
  have H2 := Lib.hid (H1.out.below b2)
  have B2 := Lib.hid (B1.out.trans (b2.mono B1.out.size))
  clear b2
  go_wp2_with fail
  refine (dec_zero _ H2.out).mono ?_
  rintro e w3 ⟨rfl, b3⟩
  have B3 := Lib.hid (B2.out.trans (b3.mono B2.out.size))
  clear b3
  go_wp2
  go_ret
  exact ⟨rfl, B3.out.alloc B3.out.size _⟩
end Go.Proofs.YtnehdgapcgbdeaaDoor
