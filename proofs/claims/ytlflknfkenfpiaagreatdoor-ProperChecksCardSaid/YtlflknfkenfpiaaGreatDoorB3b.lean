/-
  Texts of one claim, merged.
-/
import Derived.Test.YtlflknfkenfpiaaGreatDoorB2
set_option linter.unusedSimpArgs false
set_option linter.unusedVariables false
namespace Go.Proofs.YtlflknfkenfpiaaGreatDoor
open Go.RowKit
theorem xright_eq_13 (d n m imm kind : Int) : decide (GrI.right ⟨13, d, n, m, imm, kind⟩) = (GrI.regB true d && (GrI.regB true n && (GrI.regB true m && (GrI.numB 0 0 imm && GrI.kindB 13 d kind 0)))) := by
  rw [Bool.eq_iff_iff]
  simp [GrI.right, GrI.parts, GrI.nums, GrI.regB, GrI.numB, GrI.kindB]
  try omega
set_option maxRecDepth 100000 in
set_option maxHeartbeats 6400000 in
theorem xright_13 (d n m imm kind : Int) (w : World) (hs : ShAt w) (hb0 : -9223372036854775808 ≤ imm) (hb1 : imm ≤ 9223372036854775807) :
    Calls Tryz.prog 86 #[.agg #[.int .i64 13, .int .i64 d, .int .i64 n, .int .i64 m, .int .i64 imm, .int .i64 kind]] w fun e w' => e = .returned (.int .i64 (GrI.code (decide (GrI.right ⟨13, d, n, m, imm, kind⟩)))) ∧ Below w.heap.size w w' := by
  have E := Lib.hid (xright_eq_13 d n m imm kind)
  have NM := Lib.hid (fun wd d n m a k ka w => number_0_0 wd d n m a k ka imm w hb0 hb1)
  obtain ⟨e0, e1, e2, e3, e4, e5, e6, e7, e8⟩ := shape9 (hs.alloc (.cells #[.int .i64 13, .int .i64 d, .int .i64 n, .int .i64 m, .int .i64 imm, .int .i64 kind] 84)) 117 118 119 120 121 122 123 124 125 (.int .u32 3942645760) (.bool true) (.bool true) (.bool true) (.int .i64 0) (.int .i64 0) (.int .i64 0) (.int .i64 0) (.int .i64 0) (by decide) ⟨rfl, rfl, rfl, rfl, rfl, rfl, rfl, rfl, rfl⟩
  obtain ⟨a0, a1, a2, a3, a4, a5⟩ := six_new w (.int .i64 13) (.int .i64 d) (.int .i64 n) (.int .i64 m) (.int .i64 imm) (.int .i64 kind) 84 (.cells #[.int .u32 3942645760, .bool true, .bool true, .bool true, .int .i64 0, .int .i64 0, .int .i64 0, .int .i64 0, .int .i64 0] 177)
  obtain ⟨b0, b1, b2, b3, b4, b5, b6, b7, b8⟩ := nine_new (w.alloc (.cells #[.int .i64 13, .int .i64 d, .int .i64 n, .int .i64 m, .int .i64 imm, .int .i64 kind] 84)) (.int .u32 3942645760) (.bool true) (.bool true) (.bool true) (.int .i64 0) (.int .i64 0) (.int .i64 0) (.int .i64 0) (.int .i64 0) 177 (w.heap.size + 1) (by simp)
  have KB := Lib.hid (fun (x : Wb ((w.alloc (.cells #[.int .i64 13, .int .i64 d, .int .i64 n, .int .i64 m, .int .i64 imm, .int .i64 kind] 84)).alloc (.cells #[.int .u32 3942645760, .bool true, .bool true, .bool true, .int .i64 0, .int .i64 0, .int .i64 0, .int .i64 0, .int .i64 0] 177))) => ((((Below.refl _ _).alloc (Nat.le_refl _) _).alloc (by simp) _).trans (x.bel.mono (by simp; omega)) : Below w.heap.size w x.at))
  clear hb0 hb1 hs
  cases r1 : GrI.regB true d with
  | false =>
    go_enter Tryz.func86, Tryz.ntmps86
    go_wp2_with (first | (go_at_call 124; refine (register_any _ _ _).mono ?_; rintro e w1 ⟨rfl, rfl⟩) | (go_at_call 125; refine (NM.out _ _ _ _ _ _ _ _).mono ?_; rintro e w1 ⟨rfl, d1⟩; obtain ⟨x1, rfl⟩ := Wb.start d1; clear d1) | (go_at_call 126; refine (kind_c _ _ _ _ _ _ _ _ _ _ _ _ _ _ _ _ (by decide) (by decide) (by decide)).mono ?_; rintro e w1 ⟨rfl, d1⟩; obtain ⟨x2, rfl⟩ := Wb.next d1; clear d1))
    go_ret
    exact ⟨ret_code (by rw [E.out]; simp [r1, GrI.code]), (((Below.refl _ _).alloc (Nat.le_refl _) _).alloc (by simp) _)⟩
  | true =>
    cases r2 : GrI.regB true n with
    | false =>
      go_enter Tryz.func86, Tryz.ntmps86
      go_wp2_with (first | (go_at_call 124; refine (register_any _ _ _).mono ?_; rintro e w1 ⟨rfl, rfl⟩) | (go_at_call 125; refine (NM.out _ _ _ _ _ _ _ _).mono ?_; rintro e w1 ⟨rfl, d1⟩; obtain ⟨x1, rfl⟩ := Wb.start d1; clear d1) | (go_at_call 126; refine (kind_c _ _ _ _ _ _ _ _ _ _ _ _ _ _ _ _ (by decide) (by decide) (by decide)).mono ?_; rintro e w1 ⟨rfl, d1⟩; obtain ⟨x2, rfl⟩ := Wb.next d1; clear d1))
      go_ret
      exact ⟨ret_code (by rw [E.out]; simp [r1, r2, GrI.code]), (((Below.refl _ _).alloc (Nat.le_refl _) _).alloc (by simp) _)⟩
    | true =>
      cases r3 : GrI.regB true m with
      | false =>
        go_enter Tryz.func86, Tryz.ntmps86
        go_wp2_with (first | (go_at_call 124; refine (register_any _ _ _).mono ?_; rintro e w1 ⟨rfl, rfl⟩) | (go_at_call 125; refine (NM.out _ _ _ _ _ _ _ _).mono ?_; rintro e w1 ⟨rfl, d1⟩; obtain ⟨x1, rfl⟩ := Wb.start d1; clear d1) | (go_at_call 126; refine (kind_c _ _ _ _ _ _ _ _ _ _ _ _ _ _ _ _ (by decide) (by decide) (by decide)).mono ?_; rintro e w1 ⟨rfl, d1⟩; obtain ⟨x2, rfl⟩ := Wb.next d1; clear d1))
        go_ret
        exact ⟨ret_code (by rw [E.out]; simp [r1, r2, r3, GrI.code]), (((Below.refl _ _).alloc (Nat.le_refl _) _).alloc (by simp) _)⟩
      | true =>
        cases r4 : GrI.numB 0 0 imm with
        | false =>
          go_enter Tryz.func86, Tryz.ntmps86
          go_wp2_with (first | (go_at_call 124; refine (register_any _ _ _).mono ?_; rintro e w1 ⟨rfl, rfl⟩) | (go_at_call 125; refine (NM.out _ _ _ _ _ _ _ _).mono ?_; rintro e w1 ⟨rfl, d1⟩; obtain ⟨x1, rfl⟩ := Wb.start d1; clear d1) | (go_at_call 126; refine (kind_c _ _ _ _ _ _ _ _ _ _ _ _ _ _ _ _ (by decide) (by decide) (by decide)).mono ?_; rintro e w1 ⟨rfl, d1⟩; obtain ⟨x2, rfl⟩ := Wb.next d1; clear d1))
          go_ret
          exact ⟨ret_code (by rw [E.out]; simp [r1, r2, r3, r4, GrI.code]), KB.out x1⟩
        | true =>
          cases r5 : GrI.kindB 13 d kind 0 with
          | false =>
            go_enter Tryz.func86, Tryz.ntmps86
            go_wp2_with (first | (go_at_call 124; refine (register_any _ _ _).mono ?_; rintro e w1 ⟨rfl, rfl⟩) | (go_at_call 125; refine (NM.out _ _ _ _ _ _ _ _).mono ?_; rintro e w1 ⟨rfl, d1⟩; obtain ⟨x1, rfl⟩ := Wb.start d1; clear d1) | (go_at_call 126; refine (kind_c _ _ _ _ _ _ _ _ _ _ _ _ _ _ _ _ (by decide) (by decide) (by decide)).mono ?_; rintro e w1 ⟨rfl, d1⟩; obtain ⟨x2, rfl⟩ := Wb.next d1; clear d1))
            go_ret
            exact ⟨ret_code (by rw [E.out]; simp [r1, r2, r3, r4, r5, GrI.code]), KB.out x2⟩
          | true =>
            go_enter Tryz.func86, Tryz.ntmps86
            go_wp2_with (first | (go_at_call 124; refine (register_any _ _ _).mono ?_; rintro e w1 ⟨rfl, rfl⟩) | (go_at_call 125; refine (NM.out _ _ _ _ _ _ _ _).mono ?_; rintro e w1 ⟨rfl, d1⟩; obtain ⟨x1, rfl⟩ := Wb.start d1; clear d1) | (go_at_call 126; refine (kind_c _ _ _ _ _ _ _ _ _ _ _ _ _ _ _ _ (by decide) (by decide) (by decide)).mono ?_; rintro e w1 ⟨rfl, d1⟩; obtain ⟨x2, rfl⟩ := Wb.next d1; clear d1))
            go_ret
            exact ⟨ret_code (by rw [E.out]; simp [r1, r2, r3, r4, r5, GrI.code]), KB.out x2⟩
theorem xright_eq_14 (d n m imm kind : Int) : decide (GrI.right ⟨14, d, n, m, imm, kind⟩) = (GrI.regB false d && (GrI.regB false n && (GrI.regB false m && (GrI.numB (-26) 1 imm && GrI.kindB 14 d kind 0)))) := by
  rw [Bool.eq_iff_iff]
  have hf := fits_26 imm
  simp [GrI.right, GrI.parts, GrI.nums, GrI.regB, GrI.numB, GrI.kindB, hf]
  try omega
set_option maxRecDepth 100000 in
set_option maxHeartbeats 6400000 in
theorem xright_14 (d n m imm kind : Int) (w : World) (hs : ShAt w) (hb0 : -9223372036854775808 ≤ imm) (hb1 : imm ≤ 9223372036854775807) :
    Calls Tryz.prog 86 #[.agg #[.int .i64 14, .int .i64 d, .int .i64 n, .int .i64 m, .int .i64 imm, .int .i64 kind]] w fun e w' => e = .returned (.int .i64 (GrI.code (decide (GrI.right ⟨14, d, n, m, imm, kind⟩)))) ∧ Below w.heap.size w w' := by
  have E := Lib.hid (xright_eq_14 d n m imm kind)
  have NM := Lib.hid (fun wd d n m a k ka w => number_n26_1 wd d n m a k ka imm w hb0 hb1)
  obtain ⟨e0, e1, e2, e3, e4, e5, e6, e7, e8⟩ := shape9 (hs.alloc (.cells #[.int .i64 14, .int .i64 d, .int .i64 n, .int .i64 m, .int .i64 imm, .int .i64 kind] 84)) 126 127 128 129 130 131 132 133 134 (.int .u32 335544320) (.bool false) (.bool false) (.bool false) (.int .i64 (-26)) (.int .i64 0) (.int .i64 1) (.int .i64 0) (.int .i64 0) (by decide) ⟨rfl, rfl, rfl, rfl, rfl, rfl, rfl, rfl, rfl⟩
  obtain ⟨a0, a1, a2, a3, a4, a5⟩ := six_new w (.int .i64 14) (.int .i64 d) (.int .i64 n) (.int .i64 m) (.int .i64 imm) (.int .i64 kind) 84 (.cells #[.int .u32 335544320, .bool false, .bool false, .bool false, .int .i64 (-26), .int .i64 0, .int .i64 1, .int .i64 0, .int .i64 0] 177)
  obtain ⟨b0, b1, b2, b3, b4, b5, b6, b7, b8⟩ := nine_new (w.alloc (.cells #[.int .i64 14, .int .i64 d, .int .i64 n, .int .i64 m, .int .i64 imm, .int .i64 kind] 84)) (.int .u32 335544320) (.bool false) (.bool false) (.bool false) (.int .i64 (-26)) (.int .i64 0) (.int .i64 1) (.int .i64 0) (.int .i64 0) 177 (w.heap.size + 1) (by simp)
  have KB := Lib.hid (fun (x : Wb ((w.alloc (.cells #[.int .i64 14, .int .i64 d, .int .i64 n, .int .i64 m, .int .i64 imm, .int .i64 kind] 84)).alloc (.cells #[.int .u32 335544320, .bool false, .bool false, .bool false, .int .i64 (-26), .int .i64 0, .int .i64 1, .int .i64 0, .int .i64 0] 177))) => ((((Below.refl _ _).alloc (Nat.le_refl _) _).alloc (by simp) _).trans (x.bel.mono (by simp; omega)) : Below w.heap.size w x.at))
  clear hb0 hb1 hs
  cases r1 : GrI.regB false d with
  | false =>
    go_enter Tryz.func86, Tryz.ntmps86
    go_wp2_with (first | (go_at_call 124; refine (register_any _ _ _).mono ?_; rintro e w1 ⟨rfl, rfl⟩) | (go_at_call 125; refine (NM.out _ _ _ _ _ _ _ _).mono ?_; rintro e w1 ⟨rfl, d1⟩; obtain ⟨x1, rfl⟩ := Wb.start d1; clear d1) | (go_at_call 126; refine (kind_c _ _ _ _ _ _ _ _ _ _ _ _ _ _ _ _ (by decide) (by decide) (by decide)).mono ?_; rintro e w1 ⟨rfl, d1⟩; obtain ⟨x2, rfl⟩ := Wb.next d1; clear d1))
    go_ret
    exact ⟨ret_code (by rw [E.out]; simp [r1, GrI.code]), (((Below.refl _ _).alloc (Nat.le_refl _) _).alloc (by simp) _)⟩
  | true =>
    cases r2 : GrI.regB false n with
    | false =>
      go_enter Tryz.func86, Tryz.ntmps86
      go_wp2_with (first | (go_at_call 124; refine (register_any _ _ _).mono ?_; rintro e w1 ⟨rfl, rfl⟩) | (go_at_call 125; refine (NM.out _ _ _ _ _ _ _ _).mono ?_; rintro e w1 ⟨rfl, d1⟩; obtain ⟨x1, rfl⟩ := Wb.start d1; clear d1) | (go_at_call 126; refine (kind_c _ _ _ _ _ _ _ _ _ _ _ _ _ _ _ _ (by decide) (by decide) (by decide)).mono ?_; rintro e w1 ⟨rfl, d1⟩; obtain ⟨x2, rfl⟩ := Wb.next d1; clear d1))
      go_ret
      exact ⟨ret_code (by rw [E.out]; simp [r1, r2, GrI.code]), (((Below.refl _ _).alloc (Nat.le_refl _) _).alloc (by simp) _)⟩
    | true =>
      cases r3 : GrI.regB false m with
      | false =>
        go_enter Tryz.func86, Tryz.ntmps86
        go_wp2_with (first | (go_at_call 124; refine (register_any _ _ _).mono ?_; rintro e w1 ⟨rfl, rfl⟩) | (go_at_call 125; refine (NM.out _ _ _ _ _ _ _ _).mono ?_; rintro e w1 ⟨rfl, d1⟩; obtain ⟨x1, rfl⟩ := Wb.start d1; clear d1) | (go_at_call 126; refine (kind_c _ _ _ _ _ _ _ _ _ _ _ _ _ _ _ _ (by decide) (by decide) (by decide)).mono ?_; rintro e w1 ⟨rfl, d1⟩; obtain ⟨x2, rfl⟩ := Wb.next d1; clear d1))
        go_ret
        exact ⟨ret_code (by rw [E.out]; simp [r1, r2, r3, GrI.code]), (((Below.refl _ _).alloc (Nat.le_refl _) _).alloc (by simp) _)⟩
      | true =>
        cases r4 : GrI.numB (-26) 1 imm with
        | false =>
          go_enter Tryz.func86, Tryz.ntmps86
          go_wp2_with (first | (go_at_call 124; refine (register_any _ _ _).mono ?_; rintro e w1 ⟨rfl, rfl⟩) | (go_at_call 125; refine (NM.out _ _ _ _ _ _ _ _).mono ?_; rintro e w1 ⟨rfl, d1⟩; obtain ⟨x1, rfl⟩ := Wb.start d1; clear d1) | (go_at_call 126; refine (kind_c _ _ _ _ _ _ _ _ _ _ _ _ _ _ _ _ (by decide) (by decide) (by decide)).mono ?_; rintro e w1 ⟨rfl, d1⟩; obtain ⟨x2, rfl⟩ := Wb.next d1; clear d1))
          go_ret
          exact ⟨ret_code (by rw [E.out]; simp [r1, r2, r3, r4, GrI.code]), KB.out x1⟩
        | true =>
          cases r5 : GrI.kindB 14 d kind 0 with
          | false =>
            go_enter Tryz.func86, Tryz.ntmps86
            go_wp2_with (first | (go_at_call 124; refine (register_any _ _ _).mono ?_; rintro e w1 ⟨rfl, rfl⟩) | (go_at_call 125; refine (NM.out _ _ _ _ _ _ _ _).mono ?_; rintro e w1 ⟨rfl, d1⟩; obtain ⟨x1, rfl⟩ := Wb.start d1; clear d1) | (go_at_call 126; refine (kind_c _ _ _ _ _ _ _ _ _ _ _ _ _ _ _ _ (by decide) (by decide) (by decide)).mono ?_; rintro e w1 ⟨rfl, d1⟩; obtain ⟨x2, rfl⟩ := Wb.next d1; clear d1))
            go_ret
            exact ⟨ret_code (by rw [E.out]; simp [r1, r2, r3, r4, r5, GrI.code]), KB.out x2⟩
          | true =>
            go_enter Tryz.func86, Tryz.ntmps86
            go_wp2_with (first | (go_at_call 124; refine (register_any _ _ _).mono ?_; rintro e w1 ⟨rfl, rfl⟩) | (go_at_call 125; refine (NM.out _ _ _ _ _ _ _ _).mono ?_; rintro e w1 ⟨rfl, d1⟩; obtain ⟨x1, rfl⟩ := Wb.start d1; clear d1) | (go_at_call 126; refine (kind_c _ _ _ _ _ _ _ _ _ _ _ _ _ _ _ _ (by decide) (by decide) (by decide)).mono ?_; rintro e w1 ⟨rfl, d1⟩; obtain ⟨x2, rfl⟩ := Wb.next d1; clear d1))
            go_ret
            exact ⟨ret_code (by rw [E.out]; simp [r1, r2, r3, r4, r5, GrI.code]), KB.out x2⟩
theorem xright_eq_15 (d n m imm kind : Int) : decide (GrI.right ⟨15, d, n, m, imm, kind⟩) = (GrI.regB true d && (GrI.regB false n && (GrI.regB false m && (GrI.numB (-19) 1 imm && GrI.kindB 15 d kind 0)))) := by
  rw [Bool.eq_iff_iff]
  have hf := fits_19 imm
  simp [GrI.right, GrI.parts, GrI.nums, GrI.regB, GrI.numB, GrI.kindB, hf]
  try omega
set_option maxRecDepth 100000 in
set_option maxHeartbeats 6400000 in
theorem xright_15 (d n m imm kind : Int) (w : World) (hs : ShAt w) (hb0 : -9223372036854775808 ≤ imm) (hb1 : imm ≤ 9223372036854775807) :
    Calls Tryz.prog 86 #[.agg #[.int .i64 15, .int .i64 d, .int .i64 n, .int .i64 m, .int .i64 imm, .int .i64 kind]] w fun e w' => e = .returned (.int .i64 (GrI.code (decide (GrI.right ⟨15, d, n, m, imm, kind⟩)))) ∧ Below w.heap.size w w' := by
  have E := Lib.hid (xright_eq_15 d n m imm kind)
  have NM := Lib.hid (fun wd d n m a k ka w => number_n19_1 wd d n m a k ka imm w hb0 hb1)
  obtain ⟨e0, e1, e2, e3, e4, e5, e6, e7, e8⟩ := shape9 (hs.alloc (.cells #[.int .i64 15, .int .i64 d, .int .i64 n, .int .i64 m, .int .i64 imm, .int .i64 kind] 84)) 135 136 137 138 139 140 141 142 143 (.int .u32 3019898880) (.bool true) (.bool false) (.bool false) (.int .i64 (-19)) (.int .i64 5) (.int .i64 1) (.int .i64 0) (.int .i64 0) (by decide) ⟨rfl, rfl, rfl, rfl, rfl, rfl, rfl, rfl, rfl⟩
  obtain ⟨a0, a1, a2, a3, a4, a5⟩ := six_new w (.int .i64 15) (.int .i64 d) (.int .i64 n) (.int .i64 m) (.int .i64 imm) (.int .i64 kind) 84 (.cells #[.int .u32 3019898880, .bool true, .bool false, .bool false, .int .i64 (-19), .int .i64 5, .int .i64 1, .int .i64 0, .int .i64 0] 177)
  obtain ⟨b0, b1, b2, b3, b4, b5, b6, b7, b8⟩ := nine_new (w.alloc (.cells #[.int .i64 15, .int .i64 d, .int .i64 n, .int .i64 m, .int .i64 imm, .int .i64 kind] 84)) (.int .u32 3019898880) (.bool true) (.bool false) (.bool false) (.int .i64 (-19)) (.int .i64 5) (.int .i64 1) (.int .i64 0) (.int .i64 0) 177 (w.heap.size + 1) (by simp)
  have KB := Lib.hid (fun (x : Wb ((w.alloc (.cells #[.int .i64 15, .int .i64 d, .int .i64 n, .int .i64 m, .int .i64 imm, .int .i64 kind] 84)).alloc (.cells #[.int .u32 3019898880, .bool true, .bool false, .bool false, .int .i64 (-19), .int .i64 5, .int .i64 1, .int .i64 0, .int .i64 0] 177))) => ((((Below.refl _ _).alloc (Nat.le_refl _) _).alloc (by simp) _).trans (x.bel.mono (by simp; omega)) : Below w.heap.size w x.at))
  clear hb0 hb1 hs
  cases r1 : GrI.regB true d with
  | false =>
    go_enter Tryz.func86, Tryz.ntmps86
    go_wp2_with (first | (go_at_call 124; refine (register_any _ _ _).mono ?_; rintro e w1 ⟨rfl, rfl⟩) | (go_at_call 125; refine (NM.out _ _ _ _ _ _ _ _).mono ?_; rintro e w1 ⟨rfl, d1⟩; obtain ⟨x1, rfl⟩ := Wb.start d1; clear d1) | (go_at_call 126; refine (kind_c _ _ _ _ _ _ _ _ _ _ _ _ _ _ _ _ (by decide) (by decide) (by decide)).mono ?_; rintro e w1 ⟨rfl, d1⟩; obtain ⟨x2, rfl⟩ := Wb.next d1; clear d1))
    go_ret
    exact ⟨ret_code (by rw [E.out]; simp [r1, GrI.code]), (((Below.refl _ _).alloc (Nat.le_refl _) _).alloc (by simp) _)⟩
  | true =>
    cases r2 : GrI.regB false n with
    | false =>
      go_enter Tryz.func86, Tryz.ntmps86
      go_wp2_with (first | (go_at_call 124; refine (register_any _ _ _).mono ?_; rintro e w1 ⟨rfl, rfl⟩) | (go_at_call 125; refine (NM.out _ _ _ _ _ _ _ _).mono ?_; rintro e w1 ⟨rfl, d1⟩; obtain ⟨x1, rfl⟩ := Wb.start d1; clear d1) | (go_at_call 126; refine (kind_c _ _ _ _ _ _ _ _ _ _ _ _ _ _ _ _ (by decide) (by decide) (by decide)).mono ?_; rintro e w1 ⟨rfl, d1⟩; obtain ⟨x2, rfl⟩ := Wb.next d1; clear d1))
      go_ret
      exact ⟨ret_code (by rw [E.out]; simp [r1, r2, GrI.code]), (((Below.refl _ _).alloc (Nat.le_refl _) _).alloc (by simp) _)⟩
    | true =>
      cases r3 : GrI.regB false m with
      | false =>
        go_enter Tryz.func86, Tryz.ntmps86
        go_wp2_with (first | (go_at_call 124; refine (register_any _ _ _).mono ?_; rintro e w1 ⟨rfl, rfl⟩) | (go_at_call 125; refine (NM.out _ _ _ _ _ _ _ _).mono ?_; rintro e w1 ⟨rfl, d1⟩; obtain ⟨x1, rfl⟩ := Wb.start d1; clear d1) | (go_at_call 126; refine (kind_c _ _ _ _ _ _ _ _ _ _ _ _ _ _ _ _ (by decide) (by decide) (by decide)).mono ?_; rintro e w1 ⟨rfl, d1⟩; obtain ⟨x2, rfl⟩ := Wb.next d1; clear d1))
        go_ret
        exact ⟨ret_code (by rw [E.out]; simp [r1, r2, r3, GrI.code]), (((Below.refl _ _).alloc (Nat.le_refl _) _).alloc (by simp) _)⟩
      | true =>
        cases r4 : GrI.numB (-19) 1 imm with
        | false =>
          go_enter Tryz.func86, Tryz.ntmps86
          go_wp2_with (first | (go_at_call 124; refine (register_any _ _ _).mono ?_; rintro e w1 ⟨rfl, rfl⟩) | (go_at_call 125; refine (NM.out _ _ _ _ _ _ _ _).mono ?_; rintro e w1 ⟨rfl, d1⟩; obtain ⟨x1, rfl⟩ := Wb.start d1; clear d1) | (go_at_call 126; refine (kind_c _ _ _ _ _ _ _ _ _ _ _ _ _ _ _ _ (by decide) (by decide) (by decide)).mono ?_; rintro e w1 ⟨rfl, d1⟩; obtain ⟨x2, rfl⟩ := Wb.next d1; clear d1))
          go_ret
          exact ⟨ret_code (by rw [E.out]; simp [r1, r2, r3, r4, GrI.code]), KB.out x1⟩
        | true =>
          cases r5 : GrI.kindB 15 d kind 0 with
          | false =>
            go_enter Tryz.func86, Tryz.ntmps86
            go_wp2_with (first | (go_at_call 124; refine (register_any _ _ _).mono ?_; rintro e w1 ⟨rfl, rfl⟩) | (go_at_call 125; refine (NM.out _ _ _ _ _ _ _ _).mono ?_; rintro e w1 ⟨rfl, d1⟩; obtain ⟨x1, rfl⟩ := Wb.start d1; clear d1) | (go_at_call 126; refine (kind_c _ _ _ _ _ _ _ _ _ _ _ _ _ _ _ _ (by decide) (by decide) (by decide)).mono ?_; rintro e w1 ⟨rfl, d1⟩; obtain ⟨x2, rfl⟩ := Wb.next d1; clear d1))
            go_ret
            exact ⟨ret_code (by rw [E.out]; simp [r1, r2, r3, r4, r5, GrI.code]), KB.out x2⟩
          | true =>
            go_enter Tryz.func86, Tryz.ntmps86
            go_wp2_with (first | (go_at_call 124; refine (register_any _ _ _).mono ?_; rintro e w1 ⟨rfl, rfl⟩) | (go_at_call 125; refine (NM.out _ _ _ _ _ _ _ _).mono ?_; rintro e w1 ⟨rfl, d1⟩; obtain ⟨x1, rfl⟩ := Wb.start d1; clear d1) | (go_at_call 126; refine (kind_c _ _ _ _ _ _ _ _ _ _ _ _ _ _ _ _ (by decide) (by decide) (by decide)).mono ?_; rintro e w1 ⟨rfl, d1⟩; obtain ⟨x2, rfl⟩ := Wb.next d1; clear d1))
            go_ret
            exact ⟨ret_code (by rw [E.out]; simp [r1, r2, r3, r4, r5, GrI.code]), KB.out x2⟩
theorem xright_eq_16 (d n m imm kind : Int) : decide (GrI.right ⟨16, d, n, m, imm, kind⟩) = (GrI.regB true d && (GrI.regB false n && (GrI.regB false m && (GrI.numB (-19) 1 imm && GrI.kindB 16 d kind 0)))) := by
  rw [Bool.eq_iff_iff]
  have hf := fits_19 imm
  simp [GrI.right, GrI.parts, GrI.nums, GrI.regB, GrI.numB, GrI.kindB, hf]
  try omega
set_option maxRecDepth 100000 in
set_option maxHeartbeats 6400000 in
theorem xright_16 (d n m imm kind : Int) (w : World) (hs : ShAt w) (hb0 : -9223372036854775808 ≤ imm) (hb1 : imm ≤ 9223372036854775807) :
    Calls Tryz.prog 86 #[.agg #[.int .i64 16, .int .i64 d, .int .i64 n, .int .i64 m, .int .i64 imm, .int .i64 kind]] w fun e w' => e = .returned (.int .i64 (GrI.code (decide (GrI.right ⟨16, d, n, m, imm, kind⟩)))) ∧ Below w.heap.size w w' := by
  have E := Lib.hid (xright_eq_16 d n m imm kind)
  have NM := Lib.hid (fun wd d n m a k ka w => number_n19_1 wd d n m a k ka imm w hb0 hb1)
  obtain ⟨e0, e1, e2, e3, e4, e5, e6, e7, e8⟩ := shape9 (hs.alloc (.cells #[.int .i64 16, .int .i64 d, .int .i64 n, .int .i64 m, .int .i64 imm, .int .i64 kind] 84)) 144 145 146 147 148 149 150 151 152 (.int .u32 3036676096) (.bool true) (.bool false) (.bool false) (.int .i64 (-19)) (.int .i64 5) (.int .i64 1) (.int .i64 0) (.int .i64 0) (by decide) ⟨rfl, rfl, rfl, rfl, rfl, rfl, rfl, rfl, rfl⟩
  obtain ⟨a0, a1, a2, a3, a4, a5⟩ := six_new w (.int .i64 16) (.int .i64 d) (.int .i64 n) (.int .i64 m) (.int .i64 imm) (.int .i64 kind) 84 (.cells #[.int .u32 3036676096, .bool true, .bool false, .bool false, .int .i64 (-19), .int .i64 5, .int .i64 1, .int .i64 0, .int .i64 0] 177)
  obtain ⟨b0, b1, b2, b3, b4, b5, b6, b7, b8⟩ := nine_new (w.alloc (.cells #[.int .i64 16, .int .i64 d, .int .i64 n, .int .i64 m, .int .i64 imm, .int .i64 kind] 84)) (.int .u32 3036676096) (.bool true) (.bool false) (.bool false) (.int .i64 (-19)) (.int .i64 5) (.int .i64 1) (.int .i64 0) (.int .i64 0) 177 (w.heap.size + 1) (by simp)
  have KB := Lib.hid (fun (x : Wb ((w.alloc (.cells #[.int .i64 16, .int .i64 d, .int .i64 n, .int .i64 m, .int .i64 imm, .int .i64 kind] 84)).alloc (.cells #[.int .u32 3036676096, .bool true, .bool false, .bool false, .int .i64 (-19), .int .i64 5, .int .i64 1, .int .i64 0, .int .i64 0] 177))) => ((((Below.refl _ _).alloc (Nat.le_refl _) _).alloc (by simp) _).trans (x.bel.mono (by simp; omega)) : Below w.heap.size w x.at))
  clear hb0 hb1 hs
  cases r1 : GrI.regB true d with
  | false =>
    go_enter Tryz.func86, Tryz.ntmps86
    go_wp2_with (first | (go_at_call 124; refine (register_any _ _ _).mono ?_; rintro e w1 ⟨rfl, rfl⟩) | (go_at_call 125; refine (NM.out _ _ _ _ _ _ _ _).mono ?_; rintro e w1 ⟨rfl, d1⟩; obtain ⟨x1, rfl⟩ := Wb.start d1; clear d1) | (go_at_call 126; refine (kind_c _ _ _ _ _ _ _ _ _ _ _ _ _ _ _ _ (by decide) (by decide) (by decide)).mono ?_; rintro e w1 ⟨rfl, d1⟩; obtain ⟨x2, rfl⟩ := Wb.next d1; clear d1))
    go_ret
    exact ⟨ret_code (by rw [E.out]; simp [r1, GrI.code]), (((Below.refl _ _).alloc (Nat.le_refl _) _).alloc (by simp) _)⟩
  | true =>
    cases r2 : GrI.regB false n with
    | false =>
      go_enter Tryz.func86, Tryz.ntmps86
      go_wp2_with (first | (go_at_call 124; refine (register_any _ _ _).mono ?_; rintro e w1 ⟨rfl, rfl⟩) | (go_at_call 125; refine (NM.out _ _ _ _ _ _ _ _).mono ?_; rintro e w1 ⟨rfl, d1⟩; obtain ⟨x1, rfl⟩ := Wb.start d1; clear d1) | (go_at_call 126; refine (kind_c _ _ _ _ _ _ _ _ _ _ _ _ _ _ _ _ (by decide) (by decide) (by decide)).mono ?_; rintro e w1 ⟨rfl, d1⟩; obtain ⟨x2, rfl⟩ := Wb.next d1; clear d1))
      go_ret
      exact ⟨ret_code (by rw [E.out]; simp [r1, r2, GrI.code]), (((Below.refl _ _).alloc (Nat.le_refl _) _).alloc (by simp) _)⟩
    | true =>
      cases r3 : GrI.regB false m with
      | false =>
        go_enter Tryz.func86, Tryz.ntmps86
        go_wp2_with (first | (go_at_call 124; refine (register_any _ _ _).mono ?_; rintro e w1 ⟨rfl, rfl⟩) | (go_at_call 125; refine (NM.out _ _ _ _ _ _ _ _).mono ?_; rintro e w1 ⟨rfl, d1⟩; obtain ⟨x1, rfl⟩ := Wb.start d1; clear d1) | (go_at_call 126; refine (kind_c _ _ _ _ _ _ _ _ _ _ _ _ _ _ _ _ (by decide) (by decide) (by decide)).mono ?_; rintro e w1 ⟨rfl, d1⟩; obtain ⟨x2, rfl⟩ := Wb.next d1; clear d1))
        go_ret
        exact ⟨ret_code (by rw [E.out]; simp [r1, r2, r3, GrI.code]), (((Below.refl _ _).alloc (Nat.le_refl _) _).alloc (by simp) _)⟩
      | true =>
        cases r4 : GrI.numB (-19) 1 imm with
        | false =>
          go_enter Tryz.func86, Tryz.ntmps86
          go_wp2_with (first | (go_at_call 124; refine (register_any _ _ _).mono ?_; rintro e w1 ⟨rfl, rfl⟩) | (go_at_call 125; refine (NM.out _ _ _ _ _ _ _ _).mono ?_; rintro e w1 ⟨rfl, d1⟩; obtain ⟨x1, rfl⟩ := Wb.start d1; clear d1) | (go_at_call 126; refine (kind_c _ _ _ _ _ _ _ _ _ _ _ _ _ _ _ _ (by decide) (by decide) (by decide)).mono ?_; rintro e w1 ⟨rfl, d1⟩; obtain ⟨x2, rfl⟩ := Wb.next d1; clear d1))
          go_ret
          exact ⟨ret_code (by rw [E.out]; simp [r1, r2, r3, r4, GrI.code]), KB.out x1⟩
        | true =>
          cases r5 : GrI.kindB 16 d kind 0 with
          | false =>
            go_enter Tryz.func86, Tryz.ntmps86
            go_wp2_with (first | (go_at_call 124; refine (register_any _ _ _).mono ?_; rintro e w1 ⟨rfl, rfl⟩) | (go_at_call 125; refine (NM.out _ _ _ _ _ _ _ _).mono ?_; rintro e w1 ⟨rfl, d1⟩; obtain ⟨x1, rfl⟩ := Wb.start d1; clear d1) | (go_at_call 126; refine (kind_c _ _ _ _ _ _ _ _ _ _ _ _ _ _ _ _ (by decide) (by decide) (by decide)).mono ?_; rintro e w1 ⟨rfl, d1⟩; obtain ⟨x2, rfl⟩ := Wb.next d1; clear d1))
            go_ret
            exact ⟨ret_code (by rw [E.out]; simp [r1, r2, r3, r4, r5, GrI.code]), KB.out x2⟩
          | true =>
            go_enter Tryz.func86, Tryz.ntmps86
            go_wp2_with (first | (go_at_call 124; refine (register_any _ _ _).mono ?_; rintro e w1 ⟨rfl, rfl⟩) | (go_at_call 125; refine (NM.out _ _ _ _ _ _ _ _).mono ?_; rintro e w1 ⟨rfl, d1⟩; obtain ⟨x1, rfl⟩ := Wb.start d1; clear d1) | (go_at_call 126; refine (kind_c _ _ _ _ _ _ _ _ _ _ _ _ _ _ _ _ (by decide) (by decide) (by decide)).mono ?_; rintro e w1 ⟨rfl, d1⟩; obtain ⟨x2, rfl⟩ := Wb.next d1; clear d1))
            go_ret
            exact ⟨ret_code (by rw [E.out]; simp [r1, r2, r3, r4, r5, GrI.code]), KB.out x2⟩
theorem xright_eq_17 (d n m imm kind : Int) : decide (GrI.right ⟨17, d, n, m, imm, kind⟩) = (GrI.regB false d && (GrI.regB false n && (GrI.regB false m && (GrI.numB (-19) 1 imm && GrI.kindB 17 d kind 2)))) := by
  rw [Bool.eq_iff_iff]
  have hf := fits_19 imm
  simp [GrI.right, GrI.parts, GrI.nums, GrI.regB, GrI.numB, GrI.kindB, hf]
  try omega
set_option maxRecDepth 100000 in
set_option maxHeartbeats 6400000 in
theorem xright_17 (d n m imm kind : Int) (w : World) (hs : ShAt w) (hb0 : -9223372036854775808 ≤ imm) (hb1 : imm ≤ 9223372036854775807) :
    Calls Tryz.prog 86 #[.agg #[.int .i64 17, .int .i64 d, .int .i64 n, .int .i64 m, .int .i64 imm, .int .i64 kind]] w fun e w' => e = .returned (.int .i64 (GrI.code (decide (GrI.right ⟨17, d, n, m, imm, kind⟩)))) ∧ Below w.heap.size w w' := by
  have E := Lib.hid (xright_eq_17 d n m imm kind)
  have NM := Lib.hid (fun wd d n m a k ka w => number_n19_1 wd d n m a k ka imm w hb0 hb1)
  obtain ⟨e0, e1, e2, e3, e4, e5, e6, e7, e8⟩ := shape9 (hs.alloc (.cells #[.int .i64 17, .int .i64 d, .int .i64 n, .int .i64 m, .int .i64 imm, .int .i64 kind] 84)) 153 154 155 156 157 158 159 160 161 (.int .u32 1409286144) (.bool false) (.bool false) (.bool false) (.int .i64 (-19)) (.int .i64 5) (.int .i64 1) (.int .i64 2) (.int .i64 0) (by decide) ⟨rfl, rfl, rfl, rfl, rfl, rfl, rfl, rfl, rfl⟩
  obtain ⟨a0, a1, a2, a3, a4, a5⟩ := six_new w (.int .i64 17) (.int .i64 d) (.int .i64 n) (.int .i64 m) (.int .i64 imm) (.int .i64 kind) 84 (.cells #[.int .u32 1409286144, .bool false, .bool false, .bool false, .int .i64 (-19), .int .i64 5, .int .i64 1, .int .i64 2, .int .i64 0] 177)
  obtain ⟨b0, b1, b2, b3, b4, b5, b6, b7, b8⟩ := nine_new (w.alloc (.cells #[.int .i64 17, .int .i64 d, .int .i64 n, .int .i64 m, .int .i64 imm, .int .i64 kind] 84)) (.int .u32 1409286144) (.bool false) (.bool false) (.bool false) (.int .i64 (-19)) (.int .i64 5) (.int .i64 1) (.int .i64 2) (.int .i64 0) 177 (w.heap.size + 1) (by simp)
  have KB := Lib.hid (fun (x : Wb ((w.alloc (.cells #[.int .i64 17, .int .i64 d, .int .i64 n, .int .i64 m, .int .i64 imm, .int .i64 kind] 84)).alloc (.cells #[.int .u32 1409286144, .bool false, .bool false, .bool false, .int .i64 (-19), .int .i64 5, .int .i64 1, .int .i64 2, .int .i64 0] 177))) => ((((Below.refl _ _).alloc (Nat.le_refl _) _).alloc (by simp) _).trans (x.bel.mono (by simp; omega)) : Below w.heap.size w x.at))
  clear hb0 hb1 hs
  cases r1 : GrI.regB false d with
  | false =>
    go_enter Tryz.func86, Tryz.ntmps86
    go_wp2_with (first | (go_at_call 124; refine (register_any _ _ _).mono ?_; rintro e w1 ⟨rfl, rfl⟩) | (go_at_call 125; refine (NM.out _ _ _ _ _ _ _ _).mono ?_; rintro e w1 ⟨rfl, d1⟩; obtain ⟨x1, rfl⟩ := Wb.start d1; clear d1) | (go_at_call 126; refine (kind_c _ _ _ _ _ _ _ _ _ _ _ _ _ _ _ _ (by decide) (by decide) (by decide)).mono ?_; rintro e w1 ⟨rfl, d1⟩; obtain ⟨x2, rfl⟩ := Wb.next d1; clear d1))
    go_ret
    exact ⟨ret_code (by rw [E.out]; simp [r1, GrI.code]), (((Below.refl _ _).alloc (Nat.le_refl _) _).alloc (by simp) _)⟩
  | true =>
    cases r2 : GrI.regB false n with
    | false =>
      go_enter Tryz.func86, Tryz.ntmps86
      go_wp2_with (first | (go_at_call 124; refine (register_any _ _ _).mono ?_; rintro e w1 ⟨rfl, rfl⟩) | (go_at_call 125; refine (NM.out _ _ _ _ _ _ _ _).mono ?_; rintro e w1 ⟨rfl, d1⟩; obtain ⟨x1, rfl⟩ := Wb.start d1; clear d1) | (go_at_call 126; refine (kind_c _ _ _ _ _ _ _ _ _ _ _ _ _ _ _ _ (by decide) (by decide) (by decide)).mono ?_; rintro e w1 ⟨rfl, d1⟩; obtain ⟨x2, rfl⟩ := Wb.next d1; clear d1))
      go_ret
      exact ⟨ret_code (by rw [E.out]; simp [r1, r2, GrI.code]), (((Below.refl _ _).alloc (Nat.le_refl _) _).alloc (by simp) _)⟩
    | true =>
      cases r3 : GrI.regB false m with
      | false =>
        go_enter Tryz.func86, Tryz.ntmps86
        go_wp2_with (first | (go_at_call 124; refine (register_any _ _ _).mono ?_; rintro e w1 ⟨rfl, rfl⟩) | (go_at_call 125; refine (NM.out _ _ _ _ _ _ _ _).mono ?_; rintro e w1 ⟨rfl, d1⟩; obtain ⟨x1, rfl⟩ := Wb.start d1; clear d1) | (go_at_call 126; refine (kind_c _ _ _ _ _ _ _ _ _ _ _ _ _ _ _ _ (by decide) (by decide) (by decide)).mono ?_; rintro e w1 ⟨rfl, d1⟩; obtain ⟨x2, rfl⟩ := Wb.next d1; clear d1))
        go_ret
        exact ⟨ret_code (by rw [E.out]; simp [r1, r2, r3, GrI.code]), (((Below.refl _ _).alloc (Nat.le_refl _) _).alloc (by simp) _)⟩
      | true =>
        cases r4 : GrI.numB (-19) 1 imm with
        | false =>
          go_enter Tryz.func86, Tryz.ntmps86
          go_wp2_with (first | (go_at_call 124; refine (register_any _ _ _).mono ?_; rintro e w1 ⟨rfl, rfl⟩) | (go_at_call 125; refine (NM.out _ _ _ _ _ _ _ _).mono ?_; rintro e w1 ⟨rfl, d1⟩; obtain ⟨x1, rfl⟩ := Wb.start d1; clear d1) | (go_at_call 126; refine (kind_c _ _ _ _ _ _ _ _ _ _ _ _ _ _ _ _ (by decide) (by decide) (by decide)).mono ?_; rintro e w1 ⟨rfl, d1⟩; obtain ⟨x2, rfl⟩ := Wb.next d1; clear d1))
          go_ret
          exact ⟨ret_code (by rw [E.out]; simp [r1, r2, r3, r4, GrI.code]), KB.out x1⟩
        | true =>
          cases r5 : GrI.kindB 17 d kind 2 with
          | false =>
            go_enter Tryz.func86, Tryz.ntmps86
            go_wp2_with (first | (go_at_call 124; refine (register_any _ _ _).mono ?_; rintro e w1 ⟨rfl, rfl⟩) | (go_at_call 125; refine (NM.out _ _ _ _ _ _ _ _).mono ?_; rintro e w1 ⟨rfl, d1⟩; obtain ⟨x1, rfl⟩ := Wb.start d1; clear d1) | (go_at_call 126; refine (kind_c _ _ _ _ _ _ _ _ _ _ _ _ _ _ _ _ (by decide) (by decide) (by decide)).mono ?_; rintro e w1 ⟨rfl, d1⟩; obtain ⟨x2, rfl⟩ := Wb.next d1; clear d1))
            go_ret
            exact ⟨ret_code (by rw [E.out]; simp [r1, r2, r3, r4, r5, GrI.code]), KB.out x2⟩
          | true =>
            go_enter Tryz.func86, Tryz.ntmps86
            go_wp2_with (first | (go_at_call 124; refine (register_any _ _ _).mono ?_; rintro e w1 ⟨rfl, rfl⟩) | (go_at_call 125; refine (NM.out _ _ _ _ _ _ _ _).mono ?_; rintro e w1 ⟨rfl, d1⟩; obtain ⟨x1, rfl⟩ := Wb.start d1; clear d1) | (go_at_call 126; refine (kind_c _ _ _ _ _ _ _ _ _ _ _ _ _ _ _ _ (by decide) (by decide) (by decide)).mono ?_; rintro e w1 ⟨rfl, d1⟩; obtain ⟨x2, rfl⟩ := Wb.next d1; clear d1))
            go_ret
            exact ⟨ret_code (by rw [E.out]; simp [r1, r2, r3, r4, r5, GrI.code]), KB.out x2⟩
theorem xright_eq_18 (d n m imm kind : Int) : decide (GrI.right ⟨18, d, n, m, imm, kind⟩) = (GrI.regB false d && (GrI.regB false n && (GrI.regB false m && (GrI.numB 0 0 imm && GrI.kindB 18 d kind 16)))) := by
  rw [Bool.eq_iff_iff]
  simp [GrI.right, GrI.parts, GrI.nums, GrI.regB, GrI.numB, GrI.kindB]
  try omega
set_option maxRecDepth 100000 in
set_option maxHeartbeats 6400000 in
theorem xright_18 (d n m imm kind : Int) (w : World) (hs : ShAt w) (hb0 : -9223372036854775808 ≤ imm) (hb1 : imm ≤ 9223372036854775807) :
    Calls Tryz.prog 86 #[.agg #[.int .i64 18, .int .i64 d, .int .i64 n, .int .i64 m, .int .i64 imm, .int .i64 kind]] w fun e w' => e = .returned (.int .i64 (GrI.code (decide (GrI.right ⟨18, d, n, m, imm, kind⟩)))) ∧ Below w.heap.size w w' := by
  have E := Lib.hid (xright_eq_18 d n m imm kind)
  have NM := Lib.hid (fun wd d n m a k ka w => number_0_0 wd d n m a k ka imm w hb0 hb1)
  obtain ⟨e0, e1, e2, e3, e4, e5, e6, e7, e8⟩ := shape9 (hs.alloc (.cells #[.int .i64 18, .int .i64 d, .int .i64 n, .int .i64 m, .int .i64 imm, .int .i64 kind] 84)) 162 163 164 165 166 167 168 169 170 (.int .u32 3573756095) (.bool false) (.bool false) (.bool false) (.int .i64 0) (.int .i64 0) (.int .i64 0) (.int .i64 16) (.int .i64 8) (by decide) ⟨rfl, rfl, rfl, rfl, rfl, rfl, rfl, rfl, rfl⟩
  obtain ⟨a0, a1, a2, a3, a4, a5⟩ := six_new w (.int .i64 18) (.int .i64 d) (.int .i64 n) (.int .i64 m) (.int .i64 imm) (.int .i64 kind) 84 (.cells #[.int .u32 3573756095, .bool false, .bool false, .bool false, .int .i64 0, .int .i64 0, .int .i64 0, .int .i64 16, .int .i64 8] 177)
  obtain ⟨b0, b1, b2, b3, b4, b5, b6, b7, b8⟩ := nine_new (w.alloc (.cells #[.int .i64 18, .int .i64 d, .int .i64 n, .int .i64 m, .int .i64 imm, .int .i64 kind] 84)) (.int .u32 3573756095) (.bool false) (.bool false) (.bool false) (.int .i64 0) (.int .i64 0) (.int .i64 0) (.int .i64 16) (.int .i64 8) 177 (w.heap.size + 1) (by simp)
  have KB := Lib.hid (fun (x : Wb ((w.alloc (.cells #[.int .i64 18, .int .i64 d, .int .i64 n, .int .i64 m, .int .i64 imm, .int .i64 kind] 84)).alloc (.cells #[.int .u32 3573756095, .bool false, .bool false, .bool false, .int .i64 0, .int .i64 0, .int .i64 0, .int .i64 16, .int .i64 8] 177))) => ((((Below.refl _ _).alloc (Nat.le_refl _) _).alloc (by simp) _).trans (x.bel.mono (by simp; omega)) : Below w.heap.size w x.at))
  clear hb0 hb1 hs
  cases r1 : GrI.regB false d with
  | false =>
    go_enter Tryz.func86, Tryz.ntmps86
    go_wp2_with (first | (go_at_call 124; refine (register_any _ _ _).mono ?_; rintro e w1 ⟨rfl, rfl⟩) | (go_at_call 125; refine (NM.out _ _ _ _ _ _ _ _).mono ?_; rintro e w1 ⟨rfl, d1⟩; obtain ⟨x1, rfl⟩ := Wb.start d1; clear d1) | (go_at_call 126; refine (kind_a _ _ _ _ _ _ _ _ _ _ _ _ _ _ _ _ (by decide)).mono ?_; rintro e w1 ⟨rfl, d1⟩; obtain ⟨x2, rfl⟩ := Wb.next d1; clear d1))
    go_ret
    exact ⟨ret_code (by rw [E.out]; simp [r1, GrI.code]), (((Below.refl _ _).alloc (Nat.le_refl _) _).alloc (by simp) _)⟩
  | true =>
    cases r2 : GrI.regB false n with
    | false =>
      go_enter Tryz.func86, Tryz.ntmps86
      go_wp2_with (first | (go_at_call 124; refine (register_any _ _ _).mono ?_; rintro e w1 ⟨rfl, rfl⟩) | (go_at_call 125; refine (NM.out _ _ _ _ _ _ _ _).mono ?_; rintro e w1 ⟨rfl, d1⟩; obtain ⟨x1, rfl⟩ := Wb.start d1; clear d1) | (go_at_call 126; refine (kind_a _ _ _ _ _ _ _ _ _ _ _ _ _ _ _ _ (by decide)).mono ?_; rintro e w1 ⟨rfl, d1⟩; obtain ⟨x2, rfl⟩ := Wb.next d1; clear d1))
      go_ret
      exact ⟨ret_code (by rw [E.out]; simp [r1, r2, GrI.code]), (((Below.refl _ _).alloc (Nat.le_refl _) _).alloc (by simp) _)⟩
    | true =>
      cases r3 : GrI.regB false m with
      | false =>
        go_enter Tryz.func86, Tryz.ntmps86
        go_wp2_with (first | (go_at_call 124; refine (register_any _ _ _).mono ?_; rintro e w1 ⟨rfl, rfl⟩) | (go_at_call 125; refine (NM.out _ _ _ _ _ _ _ _).mono ?_; rintro e w1 ⟨rfl, d1⟩; obtain ⟨x1, rfl⟩ := Wb.start d1; clear d1) | (go_at_call 126; refine (kind_a _ _ _ _ _ _ _ _ _ _ _ _ _ _ _ _ (by decide)).mono ?_; rintro e w1 ⟨rfl, d1⟩; obtain ⟨x2, rfl⟩ := Wb.next d1; clear d1))
        go_ret
        exact ⟨ret_code (by rw [E.out]; simp [r1, r2, r3, GrI.code]), (((Below.refl _ _).alloc (Nat.le_refl _) _).alloc (by simp) _)⟩
      | true =>
        cases r4 : GrI.numB 0 0 imm with
        | false =>
          go_enter Tryz.func86, Tryz.ntmps86
          go_wp2_with (first | (go_at_call 124; refine (register_any _ _ _).mono ?_; rintro e w1 ⟨rfl, rfl⟩) | (go_at_call 125; refine (NM.out _ _ _ _ _ _ _ _).mono ?_; rintro e w1 ⟨rfl, d1⟩; obtain ⟨x1, rfl⟩ := Wb.start d1; clear d1) | (go_at_call 126; refine (kind_a _ _ _ _ _ _ _ _ _ _ _ _ _ _ _ _ (by decide)).mono ?_; rintro e w1 ⟨rfl, d1⟩; obtain ⟨x2, rfl⟩ := Wb.next d1; clear d1))
          go_ret
          exact ⟨ret_code (by rw [E.out]; simp [r1, r2, r3, r4, GrI.code]), KB.out x1⟩
        | true =>
          cases r5 : GrI.kindB 18 d kind 16 with
          | false =>
            go_enter Tryz.func86, Tryz.ntmps86
            go_wp2_with (first | (go_at_call 124; refine (register_any _ _ _).mono ?_; rintro e w1 ⟨rfl, rfl⟩) | (go_at_call 125; refine (NM.out _ _ _ _ _ _ _ _).mono ?_; rintro e w1 ⟨rfl, d1⟩; obtain ⟨x1, rfl⟩ := Wb.start d1; clear d1) | (go_at_call 126; refine (kind_a _ _ _ _ _ _ _ _ _ _ _ _ _ _ _ _ (by decide)).mono ?_; rintro e w1 ⟨rfl, d1⟩; obtain ⟨x2, rfl⟩ := Wb.next d1; clear d1))
            go_ret
            exact ⟨ret_code (by rw [E.out]; simp [r1, r2, r3, r4, r5, GrI.code]), KB.out x2⟩
          | true =>
            go_enter Tryz.func86, Tryz.ntmps86
            go_wp2_with (first | (go_at_call 124; refine (register_any _ _ _).mono ?_; rintro e w1 ⟨rfl, rfl⟩) | (go_at_call 125; refine (NM.out _ _ _ _ _ _ _ _).mono ?_; rintro e w1 ⟨rfl, d1⟩; obtain ⟨x1, rfl⟩ := Wb.start d1; clear d1) | (go_at_call 126; refine (kind_a _ _ _ _ _ _ _ _ _ _ _ _ _ _ _ _ (by decide)).mono ?_; rintro e w1 ⟨rfl, d1⟩; obtain ⟨x2, rfl⟩ := Wb.next d1; clear d1))
            go_ret
            exact ⟨ret_code (by rw [E.out]; simp [r1, r2, r3, r4, r5, GrI.code]), KB.out x2⟩
end Go.Proofs.YtlflknfkenfpiaaGreatDoor
namespace Go.Proofs.YtlflknfkenfpiaaGreatDoor
open Go.RowKit
theorem xright_eq_19 (d n m imm kind : Int) : decide (GrI.right ⟨19, d, n, m, imm, kind⟩) = (GrI.regB false d && (GrI.regB false n && (GrI.regB false m && (GrI.numB 0 0 imm && GrI.kindB 19 d kind 16)))) := by
  rw [Bool.eq_iff_iff]
  simp [GrI.right, GrI.parts, GrI.nums, GrI.regB, GrI.numB, GrI.kindB]
  try omega
set_option maxRecDepth 100000 in
set_option maxHeartbeats 6400000 in
theorem xright_19 (d n m imm kind : Int) (w : World) (hs : ShAt w) (hb0 : -9223372036854775808 ≤ imm) (hb1 : imm ≤ 9223372036854775807) :
    Calls Tryz.prog 86 #[.agg #[.int .i64 19, .int .i64 d, .int .i64 n, .int .i64 m, .int .i64 imm, .int .i64 kind]] w fun e w' => e = .returned (.int .i64 (GrI.code (decide (GrI.right ⟨19, d, n, m, imm, kind⟩)))) ∧ Below w.heap.size w w' := by
  have E := Lib.hid (xright_eq_19 d n m imm kind)
  have NM := Lib.hid (fun wd d n m a k ka w => number_0_0 wd d n m a k ka imm w hb0 hb1)
  obtain ⟨e0, e1, e2, e3, e4, e5, e6, e7, e8⟩ := shape9 (hs.alloc (.cells #[.int .i64 19, .int .i64 d, .int .i64 n, .int .i64 m, .int .i64 imm, .int .i64 kind] 84)) 171 172 173 174 175 176 177 178 179 (.int .u32 3573756063) (.bool false) (.bool false) (.bool false) (.int .i64 0) (.int .i64 0) (.int .i64 0) (.int .i64 16) (.int .i64 8) (by decide) ⟨rfl, rfl, rfl, rfl, rfl, rfl, rfl, rfl, rfl⟩
  obtain ⟨a0, a1, a2, a3, a4, a5⟩ := six_new w (.int .i64 19) (.int .i64 d) (.int .i64 n) (.int .i64 m) (.int .i64 imm) (.int .i64 kind) 84 (.cells #[.int .u32 3573756063, .bool false, .bool false, .bool false, .int .i64 0, .int .i64 0, .int .i64 0, .int .i64 16, .int .i64 8] 177)
  obtain ⟨b0, b1, b2, b3, b4, b5, b6, b7, b8⟩ := nine_new (w.alloc (.cells #[.int .i64 19, .int .i64 d, .int .i64 n, .int .i64 m, .int .i64 imm, .int .i64 kind] 84)) (.int .u32 3573756063) (.bool false) (.bool false) (.bool false) (.int .i64 0) (.int .i64 0) (.int .i64 0) (.int .i64 16) (.int .i64 8) 177 (w.heap.size + 1) (by simp)
  have KB := Lib.hid (fun (x : Wb ((w.alloc (.cells #[.int .i64 19, .int .i64 d, .int .i64 n, .int .i64 m, .int .i64 imm, .int .i64 kind] 84)).alloc (.cells #[.int .u32 3573756063, .bool false, .bool false, .bool false, .int .i64 0, .int .i64 0, .int .i64 0, .int .i64 16, .int .i64 8] 177))) => ((((Below.refl _ _).alloc (Nat.le_refl _) _).alloc (by simp) _).trans (x.bel.mono (by simp; omega)) : Below w.heap.size w x.at))
  clear hb0 hb1 hs
  cases r1 : GrI.regB false d with
  | false =>
    go_enter Tryz.func86, Tryz.ntmps86
    go_wp2_with (first | (go_at_call 124; refine (register_any _ _ _).mono ?_; rintro e w1 ⟨rfl, rfl⟩) | (go_at_call 125; refine (NM.out _ _ _ _ _ _ _ _).mono ?_; rintro e w1 ⟨rfl, d1⟩; obtain ⟨x1, rfl⟩ := Wb.start d1; clear d1) | (go_at_call 126; refine (kind_a _ _ _ _ _ _ _ _ _ _ _ _ _ _ _ _ (by decide)).mono ?_; rintro e w1 ⟨rfl, d1⟩; obtain ⟨x2, rfl⟩ := Wb.next d1; clear d1))
    go_ret
    exact ⟨ret_code (by rw [E.out]; simp [r1, GrI.code]), (((Below.refl _ _).alloc (Nat.le_refl _) _).alloc (by simp) _)⟩
  | true =>
    cases r2 : GrI.regB false n with
    | false =>
      go_enter Tryz.func86, Tryz.ntmps86
      go_wp2_with (first | (go_at_call 124; refine (register_any _ _ _).mono ?_; rintro e w1 ⟨rfl, rfl⟩) | (go_at_call 125; refine (NM.out _ _ _ _ _ _ _ _).mono ?_; rintro e w1 ⟨rfl, d1⟩; obtain ⟨x1, rfl⟩ := Wb.start d1; clear d1) | (go_at_call 126; refine (kind_a _ _ _ _ _ _ _ _ _ _ _ _ _ _ _ _ (by decide)).mono ?_; rintro e w1 ⟨rfl, d1⟩; obtain ⟨x2, rfl⟩ := Wb.next d1; clear d1))
      go_ret
      exact ⟨ret_code (by rw [E.out]; simp [r1, r2, GrI.code]), (((Below.refl _ _).alloc (Nat.le_refl _) _).alloc (by simp) _)⟩
    | true =>
      cases r3 : GrI.regB false m with
      | false =>
        go_enter Tryz.func86, Tryz.ntmps86
        go_wp2_with (first | (go_at_call 124; refine (register_any _ _ _).mono ?_; rintro e w1 ⟨rfl, rfl⟩) | (go_at_call 125; refine (NM.out _ _ _ _ _ _ _ _).mono ?_; rintro e w1 ⟨rfl, d1⟩; obtain ⟨x1, rfl⟩ := Wb.start d1; clear d1) | (go_at_call 126; refine (kind_a _ _ _ _ _ _ _ _ _ _ _ _ _ _ _ _ (by decide)).mono ?_; rintro e w1 ⟨rfl, d1⟩; obtain ⟨x2, rfl⟩ := Wb.next d1; clear d1))
        go_ret
        exact ⟨ret_code (by rw [E.out]; simp [r1, r2, r3, GrI.code]), (((Below.refl _ _).alloc (Nat.le_refl _) _).alloc (by simp) _)⟩
      | true =>
        cases r4 : GrI.numB 0 0 imm with
        | false =>
          go_enter Tryz.func86, Tryz.ntmps86
          go_wp2_with (first | (go_at_call 124; refine (register_any _ _ _).mono ?_; rintro e w1 ⟨rfl, rfl⟩) | (go_at_call 125; refine (NM.out _ _ _ _ _ _ _ _).mono ?_; rintro e w1 ⟨rfl, d1⟩; obtain ⟨x1, rfl⟩ := Wb.start d1; clear d1) | (go_at_call 126; refine (kind_a _ _ _ _ _ _ _ _ _ _ _ _ _ _ _ _ (by decide)).mono ?_; rintro e w1 ⟨rfl, d1⟩; obtain ⟨x2, rfl⟩ := Wb.next d1; clear d1))
          go_ret
          exact ⟨ret_code (by rw [E.out]; simp [r1, r2, r3, r4, GrI.code]), KB.out x1⟩
        | true =>
          cases r5 : GrI.kindB 19 d kind 16 with
          | false =>
            go_enter Tryz.func86, Tryz.ntmps86
            go_wp2_with (first | (go_at_call 124; refine (register_any _ _ _).mono ?_; rintro e w1 ⟨rfl, rfl⟩) | (go_at_call 125; refine (NM.out _ _ _ _ _ _ _ _).mono ?_; rintro e w1 ⟨rfl, d1⟩; obtain ⟨x1, rfl⟩ := Wb.start d1; clear d1) | (go_at_call 126; refine (kind_a _ _ _ _ _ _ _ _ _ _ _ _ _ _ _ _ (by decide)).mono ?_; rintro e w1 ⟨rfl, d1⟩; obtain ⟨x2, rfl⟩ := Wb.next d1; clear d1))
            go_ret
            exact ⟨ret_code (by rw [E.out]; simp [r1, r2, r3, r4, r5, GrI.code]), KB.out x2⟩
          | true =>
            go_enter Tryz.func86, Tryz.ntmps86
            go_wp2_with (first | (go_at_call 124; refine (register_any _ _ _).mono ?_; rintro e w1 ⟨rfl, rfl⟩) | (go_at_call 125; refine (NM.out _ _ _ _ _ _ _ _).mono ?_; rintro e w1 ⟨rfl, d1⟩; obtain ⟨x1, rfl⟩ := Wb.start d1; clear d1) | (go_at_call 126; refine (kind_a _ _ _ _ _ _ _ _ _ _ _ _ _ _ _ _ (by decide)).mono ?_; rintro e w1 ⟨rfl, d1⟩; obtain ⟨x2, rfl⟩ := Wb.next d1; clear d1))
            go_ret
            exact ⟨ret_code (by rw [E.out]; simp [r1, r2, r3, r4, r5, GrI.code]), KB.out x2⟩
theorem xright_eq_20 (d n m imm kind : Int) : decide (GrI.right ⟨20, d, n, m, imm, kind⟩) = (GrI.regB false d && (GrI.regB false n && (GrI.regB false m && (GrI.numB 0 0 imm && GrI.kindB 20 d kind 0)))) := by
  rw [Bool.eq_iff_iff]
  simp [GrI.right, GrI.parts, GrI.nums, GrI.regB, GrI.numB, GrI.kindB]
  try omega
set_option maxRecDepth 100000 in
set_option maxHeartbeats 6400000 in
theorem xright_20 (d n m imm kind : Int) (w : World) (hs : ShAt w) (hb0 : -9223372036854775808 ≤ imm) (hb1 : imm ≤ 9223372036854775807) :
    Calls Tryz.prog 86 #[.agg #[.int .i64 20, .int .i64 d, .int .i64 n, .int .i64 m, .int .i64 imm, .int .i64 kind]] w fun e w' => e = .returned (.int .i64 (GrI.code (decide (GrI.right ⟨20, d, n, m, imm, kind⟩)))) ∧ Below w.heap.size w w' := by
  have E := Lib.hid (xright_eq_20 d n m imm kind)
  have NM := Lib.hid (fun wd d n m a k ka w => number_0_0 wd d n m a k ka imm w hb0 hb1)
  obtain ⟨e0, e1, e2, e3, e4, e5, e6, e7, e8⟩ := shape9 (hs.alloc (.cells #[.int .i64 20, .int .i64 d, .int .i64 n, .int .i64 m, .int .i64 imm, .int .i64 kind] 84)) 180 181 182 183 184 185 186 187 188 (.int .u32 3573759967) (.bool false) (.bool false) (.bool false) (.int .i64 0) (.int .i64 0) (.int .i64 0) (.int .i64 0) (.int .i64 0) (by decide) ⟨rfl, rfl, rfl, rfl, rfl, rfl, rfl, rfl, rfl⟩
  obtain ⟨a0, a1, a2, a3, a4, a5⟩ := six_new w (.int .i64 20) (.int .i64 d) (.int .i64 n) (.int .i64 m) (.int .i64 imm) (.int .i64 kind) 84 (.cells #[.int .u32 3573759967, .bool false, .bool false, .bool false, .int .i64 0, .int .i64 0, .int .i64 0, .int .i64 0, .int .i64 0] 177)
  obtain ⟨b0, b1, b2, b3, b4, b5, b6, b7, b8⟩ := nine_new (w.alloc (.cells #[.int .i64 20, .int .i64 d, .int .i64 n, .int .i64 m, .int .i64 imm, .int .i64 kind] 84)) (.int .u32 3573759967) (.bool false) (.bool false) (.bool false) (.int .i64 0) (.int .i64 0) (.int .i64 0) (.int .i64 0) (.int .i64 0) 177 (w.heap.size + 1) (by simp)
  have KB := Lib.hid (fun (x : Wb ((w.alloc (.cells #[.int .i64 20, .int .i64 d, .int .i64 n, .int .i64 m, .int .i64 imm, .int .i64 kind] 84)).alloc (.cells #[.int .u32 3573759967, .bool false, .bool false, .bool false, .int .i64 0, .int .i64 0, .int .i64 0, .int .i64 0, .int .i64 0] 177))) => ((((Below.refl _ _).alloc (Nat.le_refl _) _).alloc (by simp) _).trans (x.bel.mono (by simp; omega)) : Below w.heap.size w x.at))
  clear hb0 hb1 hs
  cases r1 : GrI.regB false d with
  | false =>
    go_enter Tryz.func86, Tryz.ntmps86
    go_wp2_with (first | (go_at_call 124; refine (register_any _ _ _).mono ?_; rintro e w1 ⟨rfl, rfl⟩) | (go_at_call 125; refine (NM.out _ _ _ _ _ _ _ _).mono ?_; rintro e w1 ⟨rfl, d1⟩; obtain ⟨x1, rfl⟩ := Wb.start d1; clear d1) | (go_at_call 126; refine (kind_c _ _ _ _ _ _ _ _ _ _ _ _ _ _ _ _ (by decide) (by decide) (by decide)).mono ?_; rintro e w1 ⟨rfl, d1⟩; obtain ⟨x2, rfl⟩ := Wb.next d1; clear d1))
    go_ret
    exact ⟨ret_code (by rw [E.out]; simp [r1, GrI.code]), (((Below.refl _ _).alloc (Nat.le_refl _) _).alloc (by simp) _)⟩
  | true =>
    cases r2 : GrI.regB false n with
    | false =>
      go_enter Tryz.func86, Tryz.ntmps86
      go_wp2_with (first | (go_at_call 124; refine (register_any _ _ _).mono ?_; rintro e w1 ⟨rfl, rfl⟩) | (go_at_call 125; refine (NM.out _ _ _ _ _ _ _ _).mono ?_; rintro e w1 ⟨rfl, d1⟩; obtain ⟨x1, rfl⟩ := Wb.start d1; clear d1) | (go_at_call 126; refine (kind_c _ _ _ _ _ _ _ _ _ _ _ _ _ _ _ _ (by decide) (by decide) (by decide)).mono ?_; rintro e w1 ⟨rfl, d1⟩; obtain ⟨x2, rfl⟩ := Wb.next d1; clear d1))
      go_ret
      exact ⟨ret_code (by rw [E.out]; simp [r1, r2, GrI.code]), (((Below.refl _ _).alloc (Nat.le_refl _) _).alloc (by simp) _)⟩
    | true =>
      cases r3 : GrI.regB false m with
      | false =>
        go_enter Tryz.func86, Tryz.ntmps86
        go_wp2_with (first | (go_at_call 124; refine (register_any _ _ _).mono ?_; rintro e w1 ⟨rfl, rfl⟩) | (go_at_call 125; refine (NM.out _ _ _ _ _ _ _ _).mono ?_; rintro e w1 ⟨rfl, d1⟩; obtain ⟨x1, rfl⟩ := Wb.start d1; clear d1) | (go_at_call 126; refine (kind_c _ _ _ _ _ _ _ _ _ _ _ _ _ _ _ _ (by decide) (by decide) (by decide)).mono ?_; rintro e w1 ⟨rfl, d1⟩; obtain ⟨x2, rfl⟩ := Wb.next d1; clear d1))
        go_ret
        exact ⟨ret_code (by rw [E.out]; simp [r1, r2, r3, GrI.code]), (((Below.refl _ _).alloc (Nat.le_refl _) _).alloc (by simp) _)⟩
      | true =>
        cases r4 : GrI.numB 0 0 imm with
        | false =>
          go_enter Tryz.func86, Tryz.ntmps86
          go_wp2_with (first | (go_at_call 124; refine (register_any _ _ _).mono ?_; rintro e w1 ⟨rfl, rfl⟩) | (go_at_call 125; refine (NM.out _ _ _ _ _ _ _ _).mono ?_; rintro e w1 ⟨rfl, d1⟩; obtain ⟨x1, rfl⟩ := Wb.start d1; clear d1) | (go_at_call 126; refine (kind_c _ _ _ _ _ _ _ _ _ _ _ _ _ _ _ _ (by decide) (by decide) (by decide)).mono ?_; rintro e w1 ⟨rfl, d1⟩; obtain ⟨x2, rfl⟩ := Wb.next d1; clear d1))
          go_ret
          exact ⟨ret_code (by rw [E.out]; simp [r1, r2, r3, r4, GrI.code]), KB.out x1⟩
        | true =>
          cases r5 : GrI.kindB 20 d kind 0 with
          | false =>
            go_enter Tryz.func86, Tryz.ntmps86
            go_wp2_with (first | (go_at_call 124; refine (register_any _ _ _).mono ?_; rintro e w1 ⟨rfl, rfl⟩) | (go_at_call 125; refine (NM.out _ _ _ _ _ _ _ _).mono ?_; rintro e w1 ⟨rfl, d1⟩; obtain ⟨x1, rfl⟩ := Wb.start d1; clear d1) | (go_at_call 126; refine (kind_c _ _ _ _ _ _ _ _ _ _ _ _ _ _ _ _ (by decide) (by decide) (by decide)).mono ?_; rintro e w1 ⟨rfl, d1⟩; obtain ⟨x2, rfl⟩ := Wb.next d1; clear d1))
            go_ret
            exact ⟨ret_code (by rw [E.out]; simp [r1, r2, r3, r4, r5, GrI.code]), KB.out x2⟩
          | true =>
            go_enter Tryz.func86, Tryz.ntmps86
            go_wp2_with (first | (go_at_call 124; refine (register_any _ _ _).mono ?_; rintro e w1 ⟨rfl, rfl⟩) | (go_at_call 125; refine (NM.out _ _ _ _ _ _ _ _).mono ?_; rintro e w1 ⟨rfl, d1⟩; obtain ⟨x1, rfl⟩ := Wb.start d1; clear d1) | (go_at_call 126; refine (kind_c _ _ _ _ _ _ _ _ _ _ _ _ _ _ _ _ (by decide) (by decide) (by decide)).mono ?_; rintro e w1 ⟨rfl, d1⟩; obtain ⟨x2, rfl⟩ := Wb.next d1; clear d1))
            go_ret
            exact ⟨ret_code (by rw [E.out]; simp [r1, r2, r3, r4, r5, GrI.code]), KB.out x2⟩
theorem xright_eq_21 (d n m imm kind : Int) : decide (GrI.right ⟨21, d, n, m, imm, kind⟩) = (GrI.regB true d && (GrI.regB false n && (GrI.regB false m && (GrI.numB 0 0 imm && GrI.kindB 21 d kind 8)))) := by
  rw [Bool.eq_iff_iff]
  simp [GrI.right, GrI.parts, GrI.nums, GrI.regB, GrI.numB, GrI.kindB]
  try omega
set_option maxRecDepth 100000 in
set_option maxHeartbeats 6400000 in
theorem xright_21 (d n m imm kind : Int) (w : World) (hs : ShAt w) (hb0 : -9223372036854775808 ≤ imm) (hb1 : imm ≤ 9223372036854775807) :
    Calls Tryz.prog 86 #[.agg #[.int .i64 21, .int .i64 d, .int .i64 n, .int .i64 m, .int .i64 imm, .int .i64 kind]] w fun e w' => e = .returned (.int .i64 (GrI.code (decide (GrI.right ⟨21, d, n, m, imm, kind⟩)))) ∧ Below w.heap.size w w' := by
  have E := Lib.hid (xright_eq_21 d n m imm kind)
  have NM := Lib.hid (fun wd d n m a k ka w => number_0_0 wd d n m a k ka imm w hb0 hb1)
  obtain ⟨e0, e1, e2, e3, e4, e5, e6, e7, e8⟩ := shape9 (hs.alloc (.cells #[.int .i64 21, .int .i64 d, .int .i64 n, .int .i64 m, .int .i64 imm, .int .i64 kind] 84)) 189 190 191 192 193 194 195 196 197 (.int .u32 3574104832) (.bool true) (.bool false) (.bool false) (.int .i64 0) (.int .i64 0) (.int .i64 0) (.int .i64 8) (.int .i64 0) (by decide) ⟨rfl, rfl, rfl, rfl, rfl, rfl, rfl, rfl, rfl⟩
  obtain ⟨a0, a1, a2, a3, a4, a5⟩ := six_new w (.int .i64 21) (.int .i64 d) (.int .i64 n) (.int .i64 m) (.int .i64 imm) (.int .i64 kind) 84 (.cells #[.int .u32 3574104832, .bool true, .bool false, .bool false, .int .i64 0, .int .i64 0, .int .i64 0, .int .i64 8, .int .i64 0] 177)
  obtain ⟨b0, b1, b2, b3, b4, b5, b6, b7, b8⟩ := nine_new (w.alloc (.cells #[.int .i64 21, .int .i64 d, .int .i64 n, .int .i64 m, .int .i64 imm, .int .i64 kind] 84)) (.int .u32 3574104832) (.bool true) (.bool false) (.bool false) (.int .i64 0) (.int .i64 0) (.int .i64 0) (.int .i64 8) (.int .i64 0) 177 (w.heap.size + 1) (by simp)
  have KB := Lib.hid (fun (x : Wb ((w.alloc (.cells #[.int .i64 21, .int .i64 d, .int .i64 n, .int .i64 m, .int .i64 imm, .int .i64 kind] 84)).alloc (.cells #[.int .u32 3574104832, .bool true, .bool false, .bool false, .int .i64 0, .int .i64 0, .int .i64 0, .int .i64 8, .int .i64 0] 177))) => ((((Below.refl _ _).alloc (Nat.le_refl _) _).alloc (by simp) _).trans (x.bel.mono (by simp; omega)) : Below w.heap.size w x.at))
  clear hb0 hb1 hs
  cases r1 : GrI.regB true d with
  | false =>
    go_enter Tryz.func86, Tryz.ntmps86
    go_wp2_with (first | (go_at_call 124; refine (register_any _ _ _).mono ?_; rintro e w1 ⟨rfl, rfl⟩) | (go_at_call 125; refine (NM.out _ _ _ _ _ _ _ _).mono ?_; rintro e w1 ⟨rfl, d1⟩; obtain ⟨x1, rfl⟩ := Wb.start d1; clear d1) | (go_at_call 126; refine (kind_b _ _ _ _ _ _ _ _ _ _ _ _ _ _ _ _ rfl).mono ?_; rintro e w1 ⟨rfl, d1⟩; obtain ⟨x2, rfl⟩ := Wb.next d1; clear d1))
    go_ret
    exact ⟨ret_code (by rw [E.out]; simp [r1, GrI.code]), (((Below.refl _ _).alloc (Nat.le_refl _) _).alloc (by simp) _)⟩
  | true =>
    cases r2 : GrI.regB false n with
    | false =>
      go_enter Tryz.func86, Tryz.ntmps86
      go_wp2_with (first | (go_at_call 124; refine (register_any _ _ _).mono ?_; rintro e w1 ⟨rfl, rfl⟩) | (go_at_call 125; refine (NM.out _ _ _ _ _ _ _ _).mono ?_; rintro e w1 ⟨rfl, d1⟩; obtain ⟨x1, rfl⟩ := Wb.start d1; clear d1) | (go_at_call 126; refine (kind_b _ _ _ _ _ _ _ _ _ _ _ _ _ _ _ _ rfl).mono ?_; rintro e w1 ⟨rfl, d1⟩; obtain ⟨x2, rfl⟩ := Wb.next d1; clear d1))
      go_ret
      exact ⟨ret_code (by rw [E.out]; simp [r1, r2, GrI.code]), (((Below.refl _ _).alloc (Nat.le_refl _) _).alloc (by simp) _)⟩
    | true =>
      cases r3 : GrI.regB false m with
      | false =>
        go_enter Tryz.func86, Tryz.ntmps86
        go_wp2_with (first | (go_at_call 124; refine (register_any _ _ _).mono ?_; rintro e w1 ⟨rfl, rfl⟩) | (go_at_call 125; refine (NM.out _ _ _ _ _ _ _ _).mono ?_; rintro e w1 ⟨rfl, d1⟩; obtain ⟨x1, rfl⟩ := Wb.start d1; clear d1) | (go_at_call 126; refine (kind_b _ _ _ _ _ _ _ _ _ _ _ _ _ _ _ _ rfl).mono ?_; rintro e w1 ⟨rfl, d1⟩; obtain ⟨x2, rfl⟩ := Wb.next d1; clear d1))
        go_ret
        exact ⟨ret_code (by rw [E.out]; simp [r1, r2, r3, GrI.code]), (((Below.refl _ _).alloc (Nat.le_refl _) _).alloc (by simp) _)⟩
      | true =>
        cases r4 : GrI.numB 0 0 imm with
        | false =>
          go_enter Tryz.func86, Tryz.ntmps86
          go_wp2_with (first | (go_at_call 124; refine (register_any _ _ _).mono ?_; rintro e w1 ⟨rfl, rfl⟩) | (go_at_call 125; refine (NM.out _ _ _ _ _ _ _ _).mono ?_; rintro e w1 ⟨rfl, d1⟩; obtain ⟨x1, rfl⟩ := Wb.start d1; clear d1) | (go_at_call 126; refine (kind_b _ _ _ _ _ _ _ _ _ _ _ _ _ _ _ _ rfl).mono ?_; rintro e w1 ⟨rfl, d1⟩; obtain ⟨x2, rfl⟩ := Wb.next d1; clear d1))
          go_ret
          exact ⟨ret_code (by rw [E.out]; simp [r1, r2, r3, r4, GrI.code]), KB.out x1⟩
        | true =>
          cases r5 : GrI.kindB 21 d kind 8 with
          | false =>
            go_enter Tryz.func86, Tryz.ntmps86
            go_wp2_with (first | (go_at_call 124; refine (register_any _ _ _).mono ?_; rintro e w1 ⟨rfl, rfl⟩) | (go_at_call 125; refine (NM.out _ _ _ _ _ _ _ _).mono ?_; rintro e w1 ⟨rfl, d1⟩; obtain ⟨x1, rfl⟩ := Wb.start d1; clear d1) | (go_at_call 126; refine (kind_b _ _ _ _ _ _ _ _ _ _ _ _ _ _ _ _ rfl).mono ?_; rintro e w1 ⟨rfl, d1⟩; obtain ⟨x2, rfl⟩ := Wb.next d1; clear d1))
            go_ret
            exact ⟨ret_code (by rw [E.out]; simp [r1, r2, r3, r4, r5, GrI.code]), KB.out x2⟩
          | true =>
            go_enter Tryz.func86, Tryz.ntmps86
            go_wp2_with (first | (go_at_call 124; refine (register_any _ _ _).mono ?_; rintro e w1 ⟨rfl, rfl⟩) | (go_at_call 125; refine (NM.out _ _ _ _ _ _ _ _).mono ?_; rintro e w1 ⟨rfl, d1⟩; obtain ⟨x1, rfl⟩ := Wb.start d1; clear d1) | (go_at_call 126; refine (kind_b _ _ _ _ _ _ _ _ _ _ _ _ _ _ _ _ rfl).mono ?_; rintro e w1 ⟨rfl, d1⟩; obtain ⟨x2, rfl⟩ := Wb.next d1; clear d1))
            go_ret
            exact ⟨ret_code (by rw [E.out]; simp [r1, r2, r3, r4, r5, GrI.code]), KB.out x2⟩
theorem xright_eq_22 (d n m imm kind : Int) : decide (GrI.right ⟨22, d, n, m, imm, kind⟩) = (GrI.regB false d && (GrI.regB false n && (GrI.regB false m && (GrI.numB 0 0 imm && GrI.kindB 22 d kind 0)))) := by
  rw [Bool.eq_iff_iff]
  simp [GrI.right, GrI.parts, GrI.nums, GrI.regB, GrI.numB, GrI.kindB]
  try omega
set_option maxRecDepth 100000 in
set_option maxHeartbeats 6400000 in
theorem xright_22 (d n m imm kind : Int) (w : World) (hs : ShAt w) (hb0 : -9223372036854775808 ≤ imm) (hb1 : imm ≤ 9223372036854775807) :
    Calls Tryz.prog 86 #[.agg #[.int .i64 22, .int .i64 d, .int .i64 n, .int .i64 m, .int .i64 imm, .int .i64 kind]] w fun e w' => e = .returned (.int .i64 (GrI.code (decide (GrI.right ⟨22, d, n, m, imm, kind⟩)))) ∧ Below w.heap.size w w' := by
  have E := Lib.hid (xright_eq_22 d n m imm kind)
  have NM := Lib.hid (fun wd d n m a k ka w => number_0_0 wd d n m a k ka imm w hb0 hb1)
  obtain ⟨e0, e1, e2, e3, e4, e5, e6, e7, e8⟩ := shape9 (hs.alloc (.cells #[.int .i64 22, .int .i64 d, .int .i64 n, .int .i64 m, .int .i64 imm, .int .i64 kind] 84)) 198 199 200 201 202 203 204 205 206 (.int .u32 3600745440) (.bool false) (.bool false) (.bool false) (.int .i64 0) (.int .i64 0) (.int .i64 0) (.int .i64 0) (.int .i64 0) (by decide) ⟨rfl, rfl, rfl, rfl, rfl, rfl, rfl, rfl, rfl⟩
  obtain ⟨a0, a1, a2, a3, a4, a5⟩ := six_new w (.int .i64 22) (.int .i64 d) (.int .i64 n) (.int .i64 m) (.int .i64 imm) (.int .i64 kind) 84 (.cells #[.int .u32 3600745440, .bool false, .bool false, .bool false, .int .i64 0, .int .i64 0, .int .i64 0, .int .i64 0, .int .i64 0] 177)
  obtain ⟨b0, b1, b2, b3, b4, b5, b6, b7, b8⟩ := nine_new (w.alloc (.cells #[.int .i64 22, .int .i64 d, .int .i64 n, .int .i64 m, .int .i64 imm, .int .i64 kind] 84)) (.int .u32 3600745440) (.bool false) (.bool false) (.bool false) (.int .i64 0) (.int .i64 0) (.int .i64 0) (.int .i64 0) (.int .i64 0) 177 (w.heap.size + 1) (by simp)
  have KB := Lib.hid (fun (x : Wb ((w.alloc (.cells #[.int .i64 22, .int .i64 d, .int .i64 n, .int .i64 m, .int .i64 imm, .int .i64 kind] 84)).alloc (.cells #[.int .u32 3600745440, .bool false, .bool false, .bool false, .int .i64 0, .int .i64 0, .int .i64 0, .int .i64 0, .int .i64 0] 177))) => ((((Below.refl _ _).alloc (Nat.le_refl _) _).alloc (by simp) _).trans (x.bel.mono (by simp; omega)) : Below w.heap.size w x.at))
  clear hb0 hb1 hs
  cases r1 : GrI.regB false d with
  | false =>
    go_enter Tryz.func86, Tryz.ntmps86
    go_wp2_with (first | (go_at_call 124; refine (register_any _ _ _).mono ?_; rintro e w1 ⟨rfl, rfl⟩) | (go_at_call 125; refine (NM.out _ _ _ _ _ _ _ _).mono ?_; rintro e w1 ⟨rfl, d1⟩; obtain ⟨x1, rfl⟩ := Wb.start d1; clear d1) | (go_at_call 126; refine (kind_c _ _ _ _ _ _ _ _ _ _ _ _ _ _ _ _ (by decide) (by decide) (by decide)).mono ?_; rintro e w1 ⟨rfl, d1⟩; obtain ⟨x2, rfl⟩ := Wb.next d1; clear d1))
    go_ret
    exact ⟨ret_code (by rw [E.out]; simp [r1, GrI.code]), (((Below.refl _ _).alloc (Nat.le_refl _) _).alloc (by simp) _)⟩
  | true =>
    cases r2 : GrI.regB false n with
    | false =>
      go_enter Tryz.func86, Tryz.ntmps86
      go_wp2_with (first | (go_at_call 124; refine (register_any _ _ _).mono ?_; rintro e w1 ⟨rfl, rfl⟩) | (go_at_call 125; refine (NM.out _ _ _ _ _ _ _ _).mono ?_; rintro e w1 ⟨rfl, d1⟩; obtain ⟨x1, rfl⟩ := Wb.start d1; clear d1) | (go_at_call 126; refine (kind_c _ _ _ _ _ _ _ _ _ _ _ _ _ _ _ _ (by decide) (by decide) (by decide)).mono ?_; rintro e w1 ⟨rfl, d1⟩; obtain ⟨x2, rfl⟩ := Wb.next d1; clear d1))
      go_ret
      exact ⟨ret_code (by rw [E.out]; simp [r1, r2, GrI.code]), (((Below.refl _ _).alloc (Nat.le_refl _) _).alloc (by simp) _)⟩
    | true =>
      cases r3 : GrI.regB false m with
      | false =>
        go_enter Tryz.func86, Tryz.ntmps86
        go_wp2_with (first | (go_at_call 124; refine (register_any _ _ _).mono ?_; rintro e w1 ⟨rfl, rfl⟩) | (go_at_call 125; refine (NM.out _ _ _ _ _ _ _ _).mono ?_; rintro e w1 ⟨rfl, d1⟩; obtain ⟨x1, rfl⟩ := Wb.start d1; clear d1) | (go_at_call 126; refine (kind_c _ _ _ _ _ _ _ _ _ _ _ _ _ _ _ _ (by decide) (by decide) (by decide)).mono ?_; rintro e w1 ⟨rfl, d1⟩; obtain ⟨x2, rfl⟩ := Wb.next d1; clear d1))
        go_ret
        exact ⟨ret_code (by rw [E.out]; simp [r1, r2, r3, GrI.code]), (((Below.refl _ _).alloc (Nat.le_refl _) _).alloc (by simp) _)⟩
      | true =>
        cases r4 : GrI.numB 0 0 imm with
        | false =>
          go_enter Tryz.func86, Tryz.ntmps86
          go_wp2_with (first | (go_at_call 124; refine (register_any _ _ _).mono ?_; rintro e w1 ⟨rfl, rfl⟩) | (go_at_call 125; refine (NM.out _ _ _ _ _ _ _ _).mono ?_; rintro e w1 ⟨rfl, d1⟩; obtain ⟨x1, rfl⟩ := Wb.start d1; clear d1) | (go_at_call 126; refine (kind_c _ _ _ _ _ _ _ _ _ _ _ _ _ _ _ _ (by decide) (by decide) (by decide)).mono ?_; rintro e w1 ⟨rfl, d1⟩; obtain ⟨x2, rfl⟩ := Wb.next d1; clear d1))
          go_ret
          exact ⟨ret_code (by rw [E.out]; simp [r1, r2, r3, r4, GrI.code]), KB.out x1⟩
        | true =>
          cases r5 : GrI.kindB 22 d kind 0 with
          | false =>
            go_enter Tryz.func86, Tryz.ntmps86
            go_wp2_with (first | (go_at_call 124; refine (register_any _ _ _).mono ?_; rintro e w1 ⟨rfl, rfl⟩) | (go_at_call 125; refine (NM.out _ _ _ _ _ _ _ _).mono ?_; rintro e w1 ⟨rfl, d1⟩; obtain ⟨x1, rfl⟩ := Wb.start d1; clear d1) | (go_at_call 126; refine (kind_c _ _ _ _ _ _ _ _ _ _ _ _ _ _ _ _ (by decide) (by decide) (by decide)).mono ?_; rintro e w1 ⟨rfl, d1⟩; obtain ⟨x2, rfl⟩ := Wb.next d1; clear d1))
            go_ret
            exact ⟨ret_code (by rw [E.out]; simp [r1, r2, r3, r4, r5, GrI.code]), KB.out x2⟩
          | true =>
            go_enter Tryz.func86, Tryz.ntmps86
            go_wp2_with (first | (go_at_call 124; refine (register_any _ _ _).mono ?_; rintro e w1 ⟨rfl, rfl⟩) | (go_at_call 125; refine (NM.out _ _ _ _ _ _ _ _).mono ?_; rintro e w1 ⟨rfl, d1⟩; obtain ⟨x1, rfl⟩ := Wb.start d1; clear d1) | (go_at_call 126; refine (kind_c _ _ _ _ _ _ _ _ _ _ _ _ _ _ _ _ (by decide) (by decide) (by decide)).mono ?_; rintro e w1 ⟨rfl, d1⟩; obtain ⟨x2, rfl⟩ := Wb.next d1; clear d1))
            go_ret
            exact ⟨ret_code (by rw [E.out]; simp [r1, r2, r3, r4, r5, GrI.code]), KB.out x2⟩
theorem xright_eq_23 (d n m imm kind : Int) : decide (GrI.right ⟨23, d, n, m, imm, kind⟩) = (GrI.regB true d && (GrI.regB false n && (GrI.regB false m && (GrI.numB 0 0 imm && GrI.kindB 23 d kind 3)))) := by
  rw [Bool.eq_iff_iff]
  simp [GrI.right, GrI.parts, GrI.nums, GrI.regB, GrI.numB, GrI.kindB]
  try omega
set_option maxRecDepth 100000 in
set_option maxHeartbeats 6400000 in
theorem xright_23 (d n m imm kind : Int) (w : World) (hs : ShAt w) (hb0 : -9223372036854775808 ≤ imm) (hb1 : imm ≤ 9223372036854775807) :
    Calls Tryz.prog 86 #[.agg #[.int .i64 23, .int .i64 d, .int .i64 n, .int .i64 m, .int .i64 imm, .int .i64 kind]] w fun e w' => e = .returned (.int .i64 (GrI.code (decide (GrI.right ⟨23, d, n, m, imm, kind⟩)))) ∧ Below w.heap.size w w' := by
  have E := Lib.hid (xright_eq_23 d n m imm kind)
  have NM := Lib.hid (fun wd d n m a k ka w => number_0_0 wd d n m a k ka imm w hb0 hb1)
  obtain ⟨e0, e1, e2, e3, e4, e5, e6, e7, e8⟩ := shape9 (hs.alloc (.cells #[.int .i64 23, .int .i64 d, .int .i64 n, .int .i64 m, .int .i64 imm, .int .i64 kind] 84)) 207 208 209 210 211 212 213 214 215 (.int .u32 3577217024) (.bool true) (.bool false) (.bool false) (.int .i64 0) (.int .i64 0) (.int .i64 0) (.int .i64 3) (.int .i64 0) (by decide) ⟨rfl, rfl, rfl, rfl, rfl, rfl, rfl, rfl, rfl⟩
  obtain ⟨a0, a1, a2, a3, a4, a5⟩ := six_new w (.int .i64 23) (.int .i64 d) (.int .i64 n) (.int .i64 m) (.int .i64 imm) (.int .i64 kind) 84 (.cells #[.int .u32 3577217024, .bool true, .bool false, .bool false, .int .i64 0, .int .i64 0, .int .i64 0, .int .i64 3, .int .i64 0] 177)
  obtain ⟨b0, b1, b2, b3, b4, b5, b6, b7, b8⟩ := nine_new (w.alloc (.cells #[.int .i64 23, .int .i64 d, .int .i64 n, .int .i64 m, .int .i64 imm, .int .i64 kind] 84)) (.int .u32 3577217024) (.bool true) (.bool false) (.bool false) (.int .i64 0) (.int .i64 0) (.int .i64 0) (.int .i64 3) (.int .i64 0) 177 (w.heap.size + 1) (by simp)
  have KB := Lib.hid (fun (x : Wb ((w.alloc (.cells #[.int .i64 23, .int .i64 d, .int .i64 n, .int .i64 m, .int .i64 imm, .int .i64 kind] 84)).alloc (.cells #[.int .u32 3577217024, .bool true, .bool false, .bool false, .int .i64 0, .int .i64 0, .int .i64 0, .int .i64 3, .int .i64 0] 177))) => ((((Below.refl _ _).alloc (Nat.le_refl _) _).alloc (by simp) _).trans (x.bel.mono (by simp; omega)) : Below w.heap.size w x.at))
  clear hb0 hb1 hs
  cases r1 : GrI.regB true d with
  | false =>
    go_enter Tryz.func86, Tryz.ntmps86
    go_wp2_with (first | (go_at_call 124; refine (register_any _ _ _).mono ?_; rintro e w1 ⟨rfl, rfl⟩) | (go_at_call 125; refine (NM.out _ _ _ _ _ _ _ _).mono ?_; rintro e w1 ⟨rfl, d1⟩; obtain ⟨x1, rfl⟩ := Wb.start d1; clear d1) | (go_at_call 126; refine (kind_c _ _ _ _ _ _ _ _ _ _ _ _ _ _ _ _ (by decide) (by decide) (by decide)).mono ?_; rintro e w1 ⟨rfl, d1⟩; obtain ⟨x2, rfl⟩ := Wb.next d1; clear d1))
    go_ret
    exact ⟨ret_code (by rw [E.out]; simp [r1, GrI.code]), (((Below.refl _ _).alloc (Nat.le_refl _) _).alloc (by simp) _)⟩
  | true =>
    cases r2 : GrI.regB false n with
    | false =>
      go_enter Tryz.func86, Tryz.ntmps86
      go_wp2_with (first | (go_at_call 124; refine (register_any _ _ _).mono ?_; rintro e w1 ⟨rfl, rfl⟩) | (go_at_call 125; refine (NM.out _ _ _ _ _ _ _ _).mono ?_; rintro e w1 ⟨rfl, d1⟩; obtain ⟨x1, rfl⟩ := Wb.start d1; clear d1) | (go_at_call 126; refine (kind_c _ _ _ _ _ _ _ _ _ _ _ _ _ _ _ _ (by decide) (by decide) (by decide)).mono ?_; rintro e w1 ⟨rfl, d1⟩; obtain ⟨x2, rfl⟩ := Wb.next d1; clear d1))
      go_ret
      exact ⟨ret_code (by rw [E.out]; simp [r1, r2, GrI.code]), (((Below.refl _ _).alloc (Nat.le_refl _) _).alloc (by simp) _)⟩
    | true =>
      cases r3 : GrI.regB false m with
      | false =>
        go_enter Tryz.func86, Tryz.ntmps86
        go_wp2_with (first | (go_at_call 124; refine (register_any _ _ _).mono ?_; rintro e w1 ⟨rfl, rfl⟩) | (go_at_call 125; refine (NM.out _ _ _ _ _ _ _ _).mono ?_; rintro e w1 ⟨rfl, d1⟩; obtain ⟨x1, rfl⟩ := Wb.start d1; clear d1) | (go_at_call 126; refine (kind_c _ _ _ _ _ _ _ _ _ _ _ _ _ _ _ _ (by decide) (by decide) (by decide)).mono ?_; rintro e w1 ⟨rfl, d1⟩; obtain ⟨x2, rfl⟩ := Wb.next d1; clear d1))
        go_ret
        exact ⟨ret_code (by rw [E.out]; simp [r1, r2, r3, GrI.code]), (((Below.refl _ _).alloc (Nat.le_refl _) _).alloc (by simp) _)⟩
      | true =>
        cases r4 : GrI.numB 0 0 imm with
        | false =>
          go_enter Tryz.func86, Tryz.ntmps86
          go_wp2_with (first | (go_at_call 124; refine (register_any _ _ _).mono ?_; rintro e w1 ⟨rfl, rfl⟩) | (go_at_call 125; refine (NM.out _ _ _ _ _ _ _ _).mono ?_; rintro e w1 ⟨rfl, d1⟩; obtain ⟨x1, rfl⟩ := Wb.start d1; clear d1) | (go_at_call 126; refine (kind_c _ _ _ _ _ _ _ _ _ _ _ _ _ _ _ _ (by decide) (by decide) (by decide)).mono ?_; rintro e w1 ⟨rfl, d1⟩; obtain ⟨x2, rfl⟩ := Wb.next d1; clear d1))
          go_ret
          exact ⟨ret_code (by rw [E.out]; simp [r1, r2, r3, r4, GrI.code]), KB.out x1⟩
        | true =>
          cases r5 : GrI.kindB 23 d kind 3 with
          | false =>
            go_enter Tryz.func86, Tryz.ntmps86
            go_wp2_with (first | (go_at_call 124; refine (register_any _ _ _).mono ?_; rintro e w1 ⟨rfl, rfl⟩) | (go_at_call 125; refine (NM.out _ _ _ _ _ _ _ _).mono ?_; rintro e w1 ⟨rfl, d1⟩; obtain ⟨x1, rfl⟩ := Wb.start d1; clear d1) | (go_at_call 126; refine (kind_c _ _ _ _ _ _ _ _ _ _ _ _ _ _ _ _ (by decide) (by decide) (by decide)).mono ?_; rintro e w1 ⟨rfl, d1⟩; obtain ⟨x2, rfl⟩ := Wb.next d1; clear d1))
            go_ret
            exact ⟨ret_code (by rw [E.out]; simp [r1, r2, r3, r4, r5, GrI.code]), KB.out x2⟩
          | true =>
            go_enter Tryz.func86, Tryz.ntmps86
            go_wp2_with (first | (go_at_call 124; refine (register_any _ _ _).mono ?_; rintro e w1 ⟨rfl, rfl⟩) | (go_at_call 125; refine (NM.out _ _ _ _ _ _ _ _).mono ?_; rintro e w1 ⟨rfl, d1⟩; obtain ⟨x1, rfl⟩ := Wb.start d1; clear d1) | (go_at_call 126; refine (kind_c _ _ _ _ _ _ _ _ _ _ _ _ _ _ _ _ (by decide) (by decide) (by decide)).mono ?_; rintro e w1 ⟨rfl, d1⟩; obtain ⟨x2, rfl⟩ := Wb.next d1; clear d1))
            go_ret
            exact ⟨ret_code (by rw [E.out]; simp [r1, r2, r3, r4, r5, GrI.code]), KB.out x2⟩
end Go.Proofs.YtlflknfkenfpiaaGreatDoor
