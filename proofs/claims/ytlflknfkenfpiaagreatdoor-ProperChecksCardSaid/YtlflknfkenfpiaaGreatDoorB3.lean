/-
  Texts of one claim, merged.
-/
import Derived.Test.YtlflknfkenfpiaaGreatDoorB2
set_option linter.unusedSimpArgs false
set_option linter.unusedVariables false
namespace Go.Proofs.YtlflknfkenfpiaaGreatDoor
open Go.RowKit
theorem xright_eq_1 (d n m imm kind : Int) : decide (GrI.right ⟨1, d, n, m, imm, kind⟩) = (GrI.regB false d && (GrI.regB false n && (GrI.regB false m && (GrI.numB 0 0 imm && GrI.kindB 1 d kind 0)))) := by
  rw [Bool.eq_iff_iff]
  simp [GrI.right, GrI.parts, GrI.nums, GrI.regB, GrI.numB, GrI.kindB]
  try omega
set_option maxRecDepth 100000 in
set_option maxHeartbeats 6400000 in
theorem xright_1 (d n m imm kind : Int) (w : World) (hs : ShAt w) (hb0 : -9223372036854775808 ≤ imm) (hb1 : imm ≤ 9223372036854775807) :
    Calls Tryz.prog 86 #[.agg #[.int .i64 1, .int .i64 d, .int .i64 n, .int .i64 m, .int .i64 imm, .int .i64 kind]] w fun e w' => e = .returned (.int .i64 (GrI.code (decide (GrI.right ⟨1, d, n, m, imm, kind⟩)))) ∧ Below w.heap.size w w' := by
  have E := Lib.hid (xright_eq_1 d n m imm kind)
  have NM := Lib.hid (fun wd d n m a k ka w => number_0_0 wd d n m a k ka imm w hb0 hb1)
  obtain ⟨e0, e1, e2, e3, e4, e5, e6, e7, e8⟩ := shape9 (hs.alloc (.cells #[.int .i64 1, .int .i64 d, .int .i64 n, .int .i64 m, .int .i64 imm, .int .i64 kind] 84)) 9 10 11 12 13 14 15 16 17 (.int .u32 3573751839) (.bool false) (.bool false) (.bool false) (.int .i64 0) (.int .i64 0) (.int .i64 0) (.int .i64 0) (.int .i64 0) (by decide) ⟨rfl, rfl, rfl, rfl, rfl, rfl, rfl, rfl, rfl⟩
  obtain ⟨a0, a1, a2, a3, a4, a5⟩ := six_new w (.int .i64 1) (.int .i64 d) (.int .i64 n) (.int .i64 m) (.int .i64 imm) (.int .i64 kind) 84 (.cells #[.int .u32 3573751839, .bool false, .bool false, .bool false, .int .i64 0, .int .i64 0, .int .i64 0, .int .i64 0, .int .i64 0] 177)
  obtain ⟨b0, b1, b2, b3, b4, b5, b6, b7, b8⟩ := nine_new (w.alloc (.cells #[.int .i64 1, .int .i64 d, .int .i64 n, .int .i64 m, .int .i64 imm, .int .i64 kind] 84)) (.int .u32 3573751839) (.bool false) (.bool false) (.bool false) (.int .i64 0) (.int .i64 0) (.int .i64 0) (.int .i64 0) (.int .i64 0) 177 (w.heap.size + 1) (by simp)
  have KB := Lib.hid (fun (x : Wb ((w.alloc (.cells #[.int .i64 1, .int .i64 d, .int .i64 n, .int .i64 m, .int .i64 imm, .int .i64 kind] 84)).alloc (.cells #[.int .u32 3573751839, .bool false, .bool false, .bool false, .int .i64 0, .int .i64 0, .int .i64 0, .int .i64 0, .int .i64 0] 177))) => ((((Below.refl _ _).alloc (Nat.le_refl _) _).alloc (by simp) _).trans (x.bel.mono (by simp; omega)) : Below w.heap.size w x.at))
  clear hb0 hb1 hs
  cases r1 : GrI.regB false d with
  | false =>
    go_enter Tryz.func86, Tryz.ntmps86
    go_wp2_with (first | (go_at_call 124; refine (register_any _ _ _).mono ?_; rintro e w1 ⟨rfl, rfl⟩) | (go_at_call 125; refine (NM.out _ _ _ _ _ _ _ _).mono ?_; rintro e w1 ⟨rfl, d1⟩; obtain ⟨x1, rfl⟩ := Wb.start d1; clear d1) | (go_at_call 126; refine (kind_c _ _ _ _ _ _ _ _ _ _ _ _ _ _ _ _ (by decide) (by decide) (by decide)).mono ?_; rintro e w1 ⟨rfl, d1⟩; obtain ⟨x2, rfl⟩ := Wb.next d1; clear d1))
    go_ret
    exact ⟨ret_code (by rw [E.out]; simp [r1, GrI.code]), (((Below.refl _ _).alloc (Nat.le_refl _) _).alloc (by simp) _)⟩
  | true =>
    cases r2 : GrI.regB false n with
    | false =>
      go_enter Tryz.func86, Tryz.ntmps86
      go_wp2_with (first | (go_at_call 124; refine (register_any _ _ _).mono ?_; rintro e w1 ⟨rfl, rfl⟩) | (go_at_call 125; refine (NM.out _ _ _ _ _ _ _ _).mono ?_; rintro e w1 ⟨rfl, d1⟩; obtain ⟨x1, rfl⟩ := Wb.start d1; clear d1) | (go_at_call 126; refine (kind_c _ _ _ _ _ _ _ _ _ _ _ _ _ _ _ _ (by decide) (by decide) (by decide)).mono ?_; rintro e w1 ⟨rfl, d1⟩; obtain ⟨x2, rfl⟩ := Wb.next d1; clear d1))
      go_ret
      exact ⟨ret_code (by rw [E.out]; simp [r1, r2, GrI.code]), (((Below.refl _ _).alloc (Nat.le_refl _) _).alloc (by simp) _)⟩
    | true =>
      cases r3 : GrI.regB false m with
      | false =>
        go_enter Tryz.func86, Tryz.ntmps86
        go_wp2_with (first | (go_at_call 124; refine (register_any _ _ _).mono ?_; rintro e w1 ⟨rfl, rfl⟩) | (go_at_call 125; refine (NM.out _ _ _ _ _ _ _ _).mono ?_; rintro e w1 ⟨rfl, d1⟩; obtain ⟨x1, rfl⟩ := Wb.start d1; clear d1) | (go_at_call 126; refine (kind_c _ _ _ _ _ _ _ _ _ _ _ _ _ _ _ _ (by decide) (by decide) (by decide)).mono ?_; rintro e w1 ⟨rfl, d1⟩; obtain ⟨x2, rfl⟩ := Wb.next d1; clear d1))
        go_ret
        exact ⟨ret_code (by rw [E.out]; simp [r1, r2, r3, GrI.code]), (((Below.refl _ _).alloc (Nat.le_refl _) _).alloc (by simp) _)⟩
      | true =>
        cases r4 : GrI.numB 0 0 imm with
        | false =>
          go_enter Tryz.func86, Tryz.ntmps86
          go_wp2_with (first | (go_at_call 124; refine (register_any _ _ _).mono ?_; rintro e w1 ⟨rfl, rfl⟩) | (go_at_call 125; refine (NM.out _ _ _ _ _ _ _ _).mono ?_; rintro e w1 ⟨rfl, d1⟩; obtain ⟨x1, rfl⟩ := Wb.start d1; clear d1) | (go_at_call 126; refine (kind_c _ _ _ _ _ _ _ _ _ _ _ _ _ _ _ _ (by decide) (by decide) (by decide)).mono ?_; rintro e w1 ⟨rfl, d1⟩; obtain ⟨x2, rfl⟩ := Wb.next d1; clear d1))
          go_ret
          exact ⟨ret_code (by rw [E.out]; simp [r1, r2, r3, r4, GrI.code]), KB.out x1⟩
        | true =>
          cases r5 : GrI.kindB 1 d kind 0 with
          | false =>
            go_enter Tryz.func86, Tryz.ntmps86
            go_wp2_with (first | (go_at_call 124; refine (register_any _ _ _).mono ?_; rintro e w1 ⟨rfl, rfl⟩) | (go_at_call 125; refine (NM.out _ _ _ _ _ _ _ _).mono ?_; rintro e w1 ⟨rfl, d1⟩; obtain ⟨x1, rfl⟩ := Wb.start d1; clear d1) | (go_at_call 126; refine (kind_c _ _ _ _ _ _ _ _ _ _ _ _ _ _ _ _ (by decide) (by decide) (by decide)).mono ?_; rintro e w1 ⟨rfl, d1⟩; obtain ⟨x2, rfl⟩ := Wb.next d1; clear d1))
            go_ret
            exact ⟨ret_code (by rw [E.out]; simp [r1, r2, r3, r4, r5, GrI.code]), KB.out x2⟩
          | true =>
            go_enter Tryz.func86, Tryz.ntmps86
            go_wp2_with (first | (go_at_call 124; refine (register_any _ _ _).mono ?_; rintro e w1 ⟨rfl, rfl⟩) | (go_at_call 125; refine (NM.out _ _ _ _ _ _ _ _).mono ?_; rintro e w1 ⟨rfl, d1⟩; obtain ⟨x1, rfl⟩ := Wb.start d1; clear d1) | (go_at_call 126; refine (kind_c _ _ _ _ _ _ _ _ _ _ _ _ _ _ _ _ (by decide) (by decide) (by decide)).mono ?_; rintro e w1 ⟨rfl, d1⟩; obtain ⟨x2, rfl⟩ := Wb.next d1; clear d1))
            go_ret
            exact ⟨ret_code (by rw [E.out]; simp [r1, r2, r3, r4, r5, GrI.code]), KB.out x2⟩
theorem xright_eq_2 (d n m imm kind : Int) : decide (GrI.right ⟨2, d, n, m, imm, kind⟩) = (GrI.regB true d && (GrI.regB true n && (GrI.regB false m && (GrI.numB 12 8 imm && GrI.kindB 2 d kind 0)))) := by
  rw [Bool.eq_iff_iff]
  simp [GrI.right, GrI.parts, GrI.nums, GrI.regB, GrI.numB, GrI.kindB]
  try omega
set_option maxRecDepth 100000 in
set_option maxHeartbeats 6400000 in
theorem xright_2 (d n m imm kind : Int) (w : World) (hs : ShAt w) (hb0 : -9223372036854775808 ≤ imm) (hb1 : imm ≤ 9223372036854775807) :
    Calls Tryz.prog 86 #[.agg #[.int .i64 2, .int .i64 d, .int .i64 n, .int .i64 m, .int .i64 imm, .int .i64 kind]] w fun e w' => e = .returned (.int .i64 (GrI.code (decide (GrI.right ⟨2, d, n, m, imm, kind⟩)))) ∧ Below w.heap.size w w' := by
  have E := Lib.hid (xright_eq_2 d n m imm kind)
  have NM := Lib.hid (fun wd d n m a k ka w => number_12_8 wd d n m a k ka imm w hb0 hb1)
  obtain ⟨e0, e1, e2, e3, e4, e5, e6, e7, e8⟩ := shape9 (hs.alloc (.cells #[.int .i64 2, .int .i64 d, .int .i64 n, .int .i64 m, .int .i64 imm, .int .i64 kind] 84)) 18 19 20 21 22 23 24 25 26 (.int .u32 4181721088) (.bool true) (.bool true) (.bool false) (.int .i64 12) (.int .i64 10) (.int .i64 8) (.int .i64 0) (.int .i64 0) (by decide) ⟨rfl, rfl, rfl, rfl, rfl, rfl, rfl, rfl, rfl⟩
  obtain ⟨a0, a1, a2, a3, a4, a5⟩ := six_new w (.int .i64 2) (.int .i64 d) (.int .i64 n) (.int .i64 m) (.int .i64 imm) (.int .i64 kind) 84 (.cells #[.int .u32 4181721088, .bool true, .bool true, .bool false, .int .i64 12, .int .i64 10, .int .i64 8, .int .i64 0, .int .i64 0] 177)
  obtain ⟨b0, b1, b2, b3, b4, b5, b6, b7, b8⟩ := nine_new (w.alloc (.cells #[.int .i64 2, .int .i64 d, .int .i64 n, .int .i64 m, .int .i64 imm, .int .i64 kind] 84)) (.int .u32 4181721088) (.bool true) (.bool true) (.bool false) (.int .i64 12) (.int .i64 10) (.int .i64 8) (.int .i64 0) (.int .i64 0) 177 (w.heap.size + 1) (by simp)
  have KB := Lib.hid (fun (x : Wb ((w.alloc (.cells #[.int .i64 2, .int .i64 d, .int .i64 n, .int .i64 m, .int .i64 imm, .int .i64 kind] 84)).alloc (.cells #[.int .u32 4181721088, .bool true, .bool true, .bool false, .int .i64 12, .int .i64 10, .int .i64 8, .int .i64 0, .int .i64 0] 177))) => ((((Below.refl _ _).alloc (Nat.le_refl _) _).alloc (by simp) _).trans (x.bel.mono (by simp; omega)) : Below w.heap.size w x.at))
  clear hb0 hb1 hs
  cases r1 : GrI.regB true d with
  | false =>
    go_enter Tryz.func86, Tryz.ntmps86
    go_wp2_with (first | (go_at_call 124; refine (register_any _ _ _).mono ?_; rintro e w1 ⟨rfl, rfl⟩) | (go_at_call 125; refine (NM.out _ _ _ _ _ _ _ _).mono ?_; rintro e w1 ⟨rfl, d1⟩; obtain ⟨x1, rfl⟩ := Wb.start d1; clear d1) | (go_at_call 126; refine (kind_c _ _ _ _ _ _ _ _ _ _ _ _ _ _ _ _ (by decide) (by decide) (by decide)).mono ?_; rintro e w1 ⟨rfl, d1⟩; obtain ⟨x2, rfl⟩ := Wb.next d1; clear d1))
    go_ret
    exact ⟨ret_code (by rw [E.out]; simp [r1, GrI.code]), (((Below.refl _ _).alloc (Nat.le_refl _) _).alloc (by simp) _)⟩
  | true =>
    cases r2 : GrI.regB true n with
    | false =>
      go_enter Tryz.func86, Tryz.ntmps86
      go_wp2_with (first | (go_at_call 124; refine (register_any _ _ _).mono ?_; rintro e w1 ⟨rfl, rfl⟩) | (go_at_call 125; refine (NM.out _ _ _ _ _ _ _ _).mono ?_; rintro e w1 ⟨rfl, d1⟩; obtain ⟨x1, rfl⟩ := Wb.start d1; clear d1) | (go_at_call 126; refine (kind_c _ _ _ _ _ _ _ _ _ _ _ _ _ _ _ _ (by decide) (by decide) (by decide)).mono ?_; rintro e w1 ⟨rfl, d1⟩; obtain ⟨x2, rfl⟩ := Wb.next d1; clear d1))
      go_ret
      exact ⟨ret_code (by rw [E.out]; simp [r1, r2, GrI.code]), (((Below.refl _ _).alloc (Nat.le_refl _) _).alloc (by simp) _)⟩
    | true =>
      cases r3 : GrI.regB false m with
      | false =>
        go_enter Tryz.func86, Tryz.ntmps86
        go_wp2_with (first | (go_at_call 124; refine (register_any _ _ _).mono ?_; rintro e w1 ⟨rfl, rfl⟩) | (go_at_call 125; refine (NM.out _ _ _ _ _ _ _ _).mono ?_; rintro e w1 ⟨rfl, d1⟩; obtain ⟨x1, rfl⟩ := Wb.start d1; clear d1) | (go_at_call 126; refine (kind_c _ _ _ _ _ _ _ _ _ _ _ _ _ _ _ _ (by decide) (by decide) (by decide)).mono ?_; rintro e w1 ⟨rfl, d1⟩; obtain ⟨x2, rfl⟩ := Wb.next d1; clear d1))
        go_ret
        exact ⟨ret_code (by rw [E.out]; simp [r1, r2, r3, GrI.code]), (((Below.refl _ _).alloc (Nat.le_refl _) _).alloc (by simp) _)⟩
      | true =>
        cases r4 : GrI.numB 12 8 imm with
        | false =>
          go_enter Tryz.func86, Tryz.ntmps86
          go_wp2_with (first | (go_at_call 124; refine (register_any _ _ _).mono ?_; rintro e w1 ⟨rfl, rfl⟩) | (go_at_call 125; refine (NM.out _ _ _ _ _ _ _ _).mono ?_; rintro e w1 ⟨rfl, d1⟩; obtain ⟨x1, rfl⟩ := Wb.start d1; clear d1) | (go_at_call 126; refine (kind_c _ _ _ _ _ _ _ _ _ _ _ _ _ _ _ _ (by decide) (by decide) (by decide)).mono ?_; rintro e w1 ⟨rfl, d1⟩; obtain ⟨x2, rfl⟩ := Wb.next d1; clear d1))
          go_ret
          exact ⟨ret_code (by rw [E.out]; simp [r1, r2, r3, r4, GrI.code]), KB.out x1⟩
        | true =>
          cases r5 : GrI.kindB 2 d kind 0 with
          | false =>
            go_enter Tryz.func86, Tryz.ntmps86
            go_wp2_with (first | (go_at_call 124; refine (register_any _ _ _).mono ?_; rintro e w1 ⟨rfl, rfl⟩) | (go_at_call 125; refine (NM.out _ _ _ _ _ _ _ _).mono ?_; rintro e w1 ⟨rfl, d1⟩; obtain ⟨x1, rfl⟩ := Wb.start d1; clear d1) | (go_at_call 126; refine (kind_c _ _ _ _ _ _ _ _ _ _ _ _ _ _ _ _ (by decide) (by decide) (by decide)).mono ?_; rintro e w1 ⟨rfl, d1⟩; obtain ⟨x2, rfl⟩ := Wb.next d1; clear d1))
            go_ret
            exact ⟨ret_code (by rw [E.out]; simp [r1, r2, r3, r4, r5, GrI.code]), KB.out x2⟩
          | true =>
            go_enter Tryz.func86, Tryz.ntmps86
            go_wp2_with (first | (go_at_call 124; refine (register_any _ _ _).mono ?_; rintro e w1 ⟨rfl, rfl⟩) | (go_at_call 125; refine (NM.out _ _ _ _ _ _ _ _).mono ?_; rintro e w1 ⟨rfl, d1⟩; obtain ⟨x1, rfl⟩ := Wb.start d1; clear d1) | (go_at_call 126; refine (kind_c _ _ _ _ _ _ _ _ _ _ _ _ _ _ _ _ (by decide) (by decide) (by decide)).mono ?_; rintro e w1 ⟨rfl, d1⟩; obtain ⟨x2, rfl⟩ := Wb.next d1; clear d1))
            go_ret
            exact ⟨ret_code (by rw [E.out]; simp [r1, r2, r3, r4, r5, GrI.code]), KB.out x2⟩
theorem xright_eq_3 (d n m imm kind : Int) : decide (GrI.right ⟨3, d, n, m, imm, kind⟩) = (GrI.regB true d && (GrI.regB true n && (GrI.regB false m && (GrI.numB 12 8 imm && GrI.kindB 3 d kind 0)))) := by
  rw [Bool.eq_iff_iff]
  simp [GrI.right, GrI.parts, GrI.nums, GrI.regB, GrI.numB, GrI.kindB]
  try omega
set_option maxRecDepth 100000 in
set_option maxHeartbeats 6400000 in
theorem xright_3 (d n m imm kind : Int) (w : World) (hs : ShAt w) (hb0 : -9223372036854775808 ≤ imm) (hb1 : imm ≤ 9223372036854775807) :
    Calls Tryz.prog 86 #[.agg #[.int .i64 3, .int .i64 d, .int .i64 n, .int .i64 m, .int .i64 imm, .int .i64 kind]] w fun e w' => e = .returned (.int .i64 (GrI.code (decide (GrI.right ⟨3, d, n, m, imm, kind⟩)))) ∧ Below w.heap.size w w' := by
  have E := Lib.hid (xright_eq_3 d n m imm kind)
  have NM := Lib.hid (fun wd d n m a k ka w => number_12_8 wd d n m a k ka imm w hb0 hb1)
  obtain ⟨e0, e1, e2, e3, e4, e5, e6, e7, e8⟩ := shape9 (hs.alloc (.cells #[.int .i64 3, .int .i64 d, .int .i64 n, .int .i64 m, .int .i64 imm, .int .i64 kind] 84)) 27 28 29 30 31 32 33 34 35 (.int .u32 4177526784) (.bool true) (.bool true) (.bool false) (.int .i64 12) (.int .i64 10) (.int .i64 8) (.int .i64 0) (.int .i64 0) (by decide) ⟨rfl, rfl, rfl, rfl, rfl, rfl, rfl, rfl, rfl⟩
  obtain ⟨a0, a1, a2, a3, a4, a5⟩ := six_new w (.int .i64 3) (.int .i64 d) (.int .i64 n) (.int .i64 m) (.int .i64 imm) (.int .i64 kind) 84 (.cells #[.int .u32 4177526784, .bool true, .bool true, .bool false, .int .i64 12, .int .i64 10, .int .i64 8, .int .i64 0, .int .i64 0] 177)
  obtain ⟨b0, b1, b2, b3, b4, b5, b6, b7, b8⟩ := nine_new (w.alloc (.cells #[.int .i64 3, .int .i64 d, .int .i64 n, .int .i64 m, .int .i64 imm, .int .i64 kind] 84)) (.int .u32 4177526784) (.bool true) (.bool true) (.bool false) (.int .i64 12) (.int .i64 10) (.int .i64 8) (.int .i64 0) (.int .i64 0) 177 (w.heap.size + 1) (by simp)
  have KB := Lib.hid (fun (x : Wb ((w.alloc (.cells #[.int .i64 3, .int .i64 d, .int .i64 n, .int .i64 m, .int .i64 imm, .int .i64 kind] 84)).alloc (.cells #[.int .u32 4177526784, .bool true, .bool true, .bool false, .int .i64 12, .int .i64 10, .int .i64 8, .int .i64 0, .int .i64 0] 177))) => ((((Below.refl _ _).alloc (Nat.le_refl _) _).alloc (by simp) _).trans (x.bel.mono (by simp; omega)) : Below w.heap.size w x.at))
  clear hb0 hb1 hs
  cases r1 : GrI.regB true d with
  | false =>
    go_enter Tryz.func86, Tryz.ntmps86
    go_wp2_with (first | (go_at_call 124; refine (register_any _ _ _).mono ?_; rintro e w1 ⟨rfl, rfl⟩) | (go_at_call 125; refine (NM.out _ _ _ _ _ _ _ _).mono ?_; rintro e w1 ⟨rfl, d1⟩; obtain ⟨x1, rfl⟩ := Wb.start d1; clear d1) | (go_at_call 126; refine (kind_c _ _ _ _ _ _ _ _ _ _ _ _ _ _ _ _ (by decide) (by decide) (by decide)).mono ?_; rintro e w1 ⟨rfl, d1⟩; obtain ⟨x2, rfl⟩ := Wb.next d1; clear d1))
    go_ret
    exact ⟨ret_code (by rw [E.out]; simp [r1, GrI.code]), (((Below.refl _ _).alloc (Nat.le_refl _) _).alloc (by simp) _)⟩
  | true =>
    cases r2 : GrI.regB true n with
    | false =>
      go_enter Tryz.func86, Tryz.ntmps86
      go_wp2_with (first | (go_at_call 124; refine (register_any _ _ _).mono ?_; rintro e w1 ⟨rfl, rfl⟩) | (go_at_call 125; refine (NM.out _ _ _ _ _ _ _ _).mono ?_; rintro e w1 ⟨rfl, d1⟩; obtain ⟨x1, rfl⟩ := Wb.start d1; clear d1) | (go_at_call 126; refine (kind_c _ _ _ _ _ _ _ _ _ _ _ _ _ _ _ _ (by decide) (by decide) (by decide)).mono ?_; rintro e w1 ⟨rfl, d1⟩; obtain ⟨x2, rfl⟩ := Wb.next d1; clear d1))
      go_ret
      exact ⟨ret_code (by rw [E.out]; simp [r1, r2, GrI.code]), (((Below.refl _ _).alloc (Nat.le_refl _) _).alloc (by simp) _)⟩
    | true =>
      cases r3 : GrI.regB false m with
      | false =>
        go_enter Tryz.func86, Tryz.ntmps86
        go_wp2_with (first | (go_at_call 124; refine (register_any _ _ _).mono ?_; rintro e w1 ⟨rfl, rfl⟩) | (go_at_call 125; refine (NM.out _ _ _ _ _ _ _ _).mono ?_; rintro e w1 ⟨rfl, d1⟩; obtain ⟨x1, rfl⟩ := Wb.start d1; clear d1) | (go_at_call 126; refine (kind_c _ _ _ _ _ _ _ _ _ _ _ _ _ _ _ _ (by decide) (by decide) (by decide)).mono ?_; rintro e w1 ⟨rfl, d1⟩; obtain ⟨x2, rfl⟩ := Wb.next d1; clear d1))
        go_ret
        exact ⟨ret_code (by rw [E.out]; simp [r1, r2, r3, GrI.code]), (((Below.refl _ _).alloc (Nat.le_refl _) _).alloc (by simp) _)⟩
      | true =>
        cases r4 : GrI.numB 12 8 imm with
        | false =>
          go_enter Tryz.func86, Tryz.ntmps86
          go_wp2_with (first | (go_at_call 124; refine (register_any _ _ _).mono ?_; rintro e w1 ⟨rfl, rfl⟩) | (go_at_call 125; refine (NM.out _ _ _ _ _ _ _ _).mono ?_; rintro e w1 ⟨rfl, d1⟩; obtain ⟨x1, rfl⟩ := Wb.start d1; clear d1) | (go_at_call 126; refine (kind_c _ _ _ _ _ _ _ _ _ _ _ _ _ _ _ _ (by decide) (by decide) (by decide)).mono ?_; rintro e w1 ⟨rfl, d1⟩; obtain ⟨x2, rfl⟩ := Wb.next d1; clear d1))
          go_ret
          exact ⟨ret_code (by rw [E.out]; simp [r1, r2, r3, r4, GrI.code]), KB.out x1⟩
        | true =>
          cases r5 : GrI.kindB 3 d kind 0 with
          | false =>
            go_enter Tryz.func86, Tryz.ntmps86
            go_wp2_with (first | (go_at_call 124; refine (register_any _ _ _).mono ?_; rintro e w1 ⟨rfl, rfl⟩) | (go_at_call 125; refine (NM.out _ _ _ _ _ _ _ _).mono ?_; rintro e w1 ⟨rfl, d1⟩; obtain ⟨x1, rfl⟩ := Wb.start d1; clear d1) | (go_at_call 126; refine (kind_c _ _ _ _ _ _ _ _ _ _ _ _ _ _ _ _ (by decide) (by decide) (by decide)).mono ?_; rintro e w1 ⟨rfl, d1⟩; obtain ⟨x2, rfl⟩ := Wb.next d1; clear d1))
            go_ret
            exact ⟨ret_code (by rw [E.out]; simp [r1, r2, r3, r4, r5, GrI.code]), KB.out x2⟩
          | true =>
            go_enter Tryz.func86, Tryz.ntmps86
            go_wp2_with (first | (go_at_call 124; refine (register_any _ _ _).mono ?_; rintro e w1 ⟨rfl, rfl⟩) | (go_at_call 125; refine (NM.out _ _ _ _ _ _ _ _).mono ?_; rintro e w1 ⟨rfl, d1⟩; obtain ⟨x1, rfl⟩ := Wb.start d1; clear d1) | (go_at_call 126; refine (kind_c _ _ _ _ _ _ _ _ _ _ _ _ _ _ _ _ (by decide) (by decide) (by decide)).mono ?_; rintro e w1 ⟨rfl, d1⟩; obtain ⟨x2, rfl⟩ := Wb.next d1; clear d1))
            go_ret
            exact ⟨ret_code (by rw [E.out]; simp [r1, r2, r3, r4, r5, GrI.code]), KB.out x2⟩
theorem xright_eq_4 (d n m imm kind : Int) : decide (GrI.right ⟨4, d, n, m, imm, kind⟩) = (GrI.regB true d && (GrI.regB true n && (GrI.regB false m && (GrI.numB 0 0 imm && GrI.kindB 4 d kind 0)))) := by
  rw [Bool.eq_iff_iff]
  simp [GrI.right, GrI.parts, GrI.nums, GrI.regB, GrI.numB, GrI.kindB]
  try omega
set_option maxRecDepth 100000 in
set_option maxHeartbeats 6400000 in
theorem xright_4 (d n m imm kind : Int) (w : World) (hs : ShAt w) (hb0 : -9223372036854775808 ≤ imm) (hb1 : imm ≤ 9223372036854775807) :
    Calls Tryz.prog 86 #[.agg #[.int .i64 4, .int .i64 d, .int .i64 n, .int .i64 m, .int .i64 imm, .int .i64 kind]] w fun e w' => e = .returned (.int .i64 (GrI.code (decide (GrI.right ⟨4, d, n, m, imm, kind⟩)))) ∧ Below w.heap.size w w' := by
  have E := Lib.hid (xright_eq_4 d n m imm kind)
  have NM := Lib.hid (fun wd d n m a k ka w => number_0_0 wd d n m a k ka imm w hb0 hb1)
  obtain ⟨e0, e1, e2, e3, e4, e5, e6, e7, e8⟩ := shape9 (hs.alloc (.cells #[.int .i64 4, .int .i64 d, .int .i64 n, .int .i64 m, .int .i64 imm, .int .i64 kind] 84)) 36 37 38 39 40 41 42 43 44 (.int .u32 3370122240) (.bool true) (.bool true) (.bool false) (.int .i64 0) (.int .i64 0) (.int .i64 0) (.int .i64 0) (.int .i64 0) (by decide) ⟨rfl, rfl, rfl, rfl, rfl, rfl, rfl, rfl, rfl⟩
  obtain ⟨a0, a1, a2, a3, a4, a5⟩ := six_new w (.int .i64 4) (.int .i64 d) (.int .i64 n) (.int .i64 m) (.int .i64 imm) (.int .i64 kind) 84 (.cells #[.int .u32 3370122240, .bool true, .bool true, .bool false, .int .i64 0, .int .i64 0, .int .i64 0, .int .i64 0, .int .i64 0] 177)
  obtain ⟨b0, b1, b2, b3, b4, b5, b6, b7, b8⟩ := nine_new (w.alloc (.cells #[.int .i64 4, .int .i64 d, .int .i64 n, .int .i64 m, .int .i64 imm, .int .i64 kind] 84)) (.int .u32 3370122240) (.bool true) (.bool true) (.bool false) (.int .i64 0) (.int .i64 0) (.int .i64 0) (.int .i64 0) (.int .i64 0) 177 (w.heap.size + 1) (by simp)
  have KB := Lib.hid (fun (x : Wb ((w.alloc (.cells #[.int .i64 4, .int .i64 d, .int .i64 n, .int .i64 m, .int .i64 imm, .int .i64 kind] 84)).alloc (.cells #[.int .u32 3370122240, .bool true, .bool true, .bool false, .int .i64 0, .int .i64 0, .int .i64 0, .int .i64 0, .int .i64 0] 177))) => ((((Below.refl _ _).alloc (Nat.le_refl _) _).alloc (by simp) _).trans (x.bel.mono (by simp; omega)) : Below w.heap.size w x.at))
  clear hb0 hb1 hs
  cases r1 : GrI.regB true d with
  | false =>
    go_enter Tryz.func86, Tryz.ntmps86
    go_wp2_with (first | (go_at_call 124; refine (register_any _ _ _).mono ?_; rintro e w1 ⟨rfl, rfl⟩) | (go_at_call 125; refine (NM.out _ _ _ _ _ _ _ _).mono ?_; rintro e w1 ⟨rfl, d1⟩; obtain ⟨x1, rfl⟩ := Wb.start d1; clear d1) | (go_at_call 126; refine (kind_c _ _ _ _ _ _ _ _ _ _ _ _ _ _ _ _ (by decide) (by decide) (by decide)).mono ?_; rintro e w1 ⟨rfl, d1⟩; obtain ⟨x2, rfl⟩ := Wb.next d1; clear d1))
    go_ret
    exact ⟨ret_code (by rw [E.out]; simp [r1, GrI.code]), (((Below.refl _ _).alloc (Nat.le_refl _) _).alloc (by simp) _)⟩
  | true =>
    cases r2 : GrI.regB true n with
    | false =>
      go_enter Tryz.func86, Tryz.ntmps86
      go_wp2_with (first | (go_at_call 124; refine (register_any _ _ _).mono ?_; rintro e w1 ⟨rfl, rfl⟩) | (go_at_call 125; refine (NM.out _ _ _ _ _ _ _ _).mono ?_; rintro e w1 ⟨rfl, d1⟩; obtain ⟨x1, rfl⟩ := Wb.start d1; clear d1) | (go_at_call 126; refine (kind_c _ _ _ _ _ _ _ _ _ _ _ _ _ _ _ _ (by decide) (by decide) (by decide)).mono ?_; rintro e w1 ⟨rfl, d1⟩; obtain ⟨x2, rfl⟩ := Wb.next d1; clear d1))
      go_ret
      exact ⟨ret_code (by rw [E.out]; simp [r1, r2, GrI.code]), (((Below.refl _ _).alloc (Nat.le_refl _) _).alloc (by simp) _)⟩
    | true =>
      cases r3 : GrI.regB false m with
      | false =>
        go_enter Tryz.func86, Tryz.ntmps86
        go_wp2_with (first | (go_at_call 124; refine (register_any _ _ _).mono ?_; rintro e w1 ⟨rfl, rfl⟩) | (go_at_call 125; refine (NM.out _ _ _ _ _ _ _ _).mono ?_; rintro e w1 ⟨rfl, d1⟩; obtain ⟨x1, rfl⟩ := Wb.start d1; clear d1) | (go_at_call 126; refine (kind_c _ _ _ _ _ _ _ _ _ _ _ _ _ _ _ _ (by decide) (by decide) (by decide)).mono ?_; rintro e w1 ⟨rfl, d1⟩; obtain ⟨x2, rfl⟩ := Wb.next d1; clear d1))
        go_ret
        exact ⟨ret_code (by rw [E.out]; simp [r1, r2, r3, GrI.code]), (((Below.refl _ _).alloc (Nat.le_refl _) _).alloc (by simp) _)⟩
      | true =>
        cases r4 : GrI.numB 0 0 imm with
        | false =>
          go_enter Tryz.func86, Tryz.ntmps86
          go_wp2_with (first | (go_at_call 124; refine (register_any _ _ _).mono ?_; rintro e w1 ⟨rfl, rfl⟩) | (go_at_call 125; refine (NM.out _ _ _ _ _ _ _ _).mono ?_; rintro e w1 ⟨rfl, d1⟩; obtain ⟨x1, rfl⟩ := Wb.start d1; clear d1) | (go_at_call 126; refine (kind_c _ _ _ _ _ _ _ _ _ _ _ _ _ _ _ _ (by decide) (by decide) (by decide)).mono ?_; rintro e w1 ⟨rfl, d1⟩; obtain ⟨x2, rfl⟩ := Wb.next d1; clear d1))
          go_ret
          exact ⟨ret_code (by rw [E.out]; simp [r1, r2, r3, r4, GrI.code]), KB.out x1⟩
        | true =>
          cases r5 : GrI.kindB 4 d kind 0 with
          | false =>
            go_enter Tryz.func86, Tryz.ntmps86
            go_wp2_with (first | (go_at_call 124; refine (register_any _ _ _).mono ?_; rintro e w1 ⟨rfl, rfl⟩) | (go_at_call 125; refine (NM.out _ _ _ _ _ _ _ _).mono ?_; rintro e w1 ⟨rfl, d1⟩; obtain ⟨x1, rfl⟩ := Wb.start d1; clear d1) | (go_at_call 126; refine (kind_c _ _ _ _ _ _ _ _ _ _ _ _ _ _ _ _ (by decide) (by decide) (by decide)).mono ?_; rintro e w1 ⟨rfl, d1⟩; obtain ⟨x2, rfl⟩ := Wb.next d1; clear d1))
            go_ret
            exact ⟨ret_code (by rw [E.out]; simp [r1, r2, r3, r4, r5, GrI.code]), KB.out x2⟩
          | true =>
            go_enter Tryz.func86, Tryz.ntmps86
            go_wp2_with (first | (go_at_call 124; refine (register_any _ _ _).mono ?_; rintro e w1 ⟨rfl, rfl⟩) | (go_at_call 125; refine (NM.out _ _ _ _ _ _ _ _).mono ?_; rintro e w1 ⟨rfl, d1⟩; obtain ⟨x1, rfl⟩ := Wb.start d1; clear d1) | (go_at_call 126; refine (kind_c _ _ _ _ _ _ _ _ _ _ _ _ _ _ _ _ (by decide) (by decide) (by decide)).mono ?_; rintro e w1 ⟨rfl, d1⟩; obtain ⟨x2, rfl⟩ := Wb.next d1; clear d1))
            go_ret
            exact ⟨ret_code (by rw [E.out]; simp [r1, r2, r3, r4, r5, GrI.code]), KB.out x2⟩
theorem xright_eq_5 (d n m imm kind : Int) : decide (GrI.right ⟨5, d, n, m, imm, kind⟩) = (GrI.regB true d && (GrI.regB true n && (GrI.regB false m && (GrI.numB 0 0 imm && GrI.kindB 5 d kind 0)))) := by
  rw [Bool.eq_iff_iff]
  simp [GrI.right, GrI.parts, GrI.nums, GrI.regB, GrI.numB, GrI.kindB]
  try omega
set_option maxRecDepth 100000 in
set_option maxHeartbeats 6400000 in
theorem xright_5 (d n m imm kind : Int) (w : World) (hs : ShAt w) (hb0 : -9223372036854775808 ≤ imm) (hb1 : imm ≤ 9223372036854775807) :
    Calls Tryz.prog 86 #[.agg #[.int .i64 5, .int .i64 d, .int .i64 n, .int .i64 m, .int .i64 imm, .int .i64 kind]] w fun e w' => e = .returned (.int .i64 (GrI.code (decide (GrI.right ⟨5, d, n, m, imm, kind⟩)))) ∧ Below w.heap.size w w' := by
  have E := Lib.hid (xright_eq_5 d n m imm kind)
  have NM := Lib.hid (fun wd d n m a k ka w => number_0_0 wd d n m a k ka imm w hb0 hb1)
  obtain ⟨e0, e1, e2, e3, e4, e5, e6, e7, e8⟩ := shape9 (hs.alloc (.cells #[.int .i64 5, .int .i64 d, .int .i64 n, .int .i64 m, .int .i64 imm, .int .i64 kind] 84)) 45 46 47 48 49 50 51 52 53 (.int .u32 3365927936) (.bool true) (.bool true) (.bool false) (.int .i64 0) (.int .i64 0) (.int .i64 0) (.int .i64 0) (.int .i64 0) (by decide) ⟨rfl, rfl, rfl, rfl, rfl, rfl, rfl, rfl, rfl⟩
  obtain ⟨a0, a1, a2, a3, a4, a5⟩ := six_new w (.int .i64 5) (.int .i64 d) (.int .i64 n) (.int .i64 m) (.int .i64 imm) (.int .i64 kind) 84 (.cells #[.int .u32 3365927936, .bool true, .bool true, .bool false, .int .i64 0, .int .i64 0, .int .i64 0, .int .i64 0, .int .i64 0] 177)
  obtain ⟨b0, b1, b2, b3, b4, b5, b6, b7, b8⟩ := nine_new (w.alloc (.cells #[.int .i64 5, .int .i64 d, .int .i64 n, .int .i64 m, .int .i64 imm, .int .i64 kind] 84)) (.int .u32 3365927936) (.bool true) (.bool true) (.bool false) (.int .i64 0) (.int .i64 0) (.int .i64 0) (.int .i64 0) (.int .i64 0) 177 (w.heap.size + 1) (by simp)
  have KB := Lib.hid (fun (x : Wb ((w.alloc (.cells #[.int .i64 5, .int .i64 d, .int .i64 n, .int .i64 m, .int .i64 imm, .int .i64 kind] 84)).alloc (.cells #[.int .u32 3365927936, .bool true, .bool true, .bool false, .int .i64 0, .int .i64 0, .int .i64 0, .int .i64 0, .int .i64 0] 177))) => ((((Below.refl _ _).alloc (Nat.le_refl _) _).alloc (by simp) _).trans (x.bel.mono (by simp; omega)) : Below w.heap.size w x.at))
  clear hb0 hb1 hs
  cases r1 : GrI.regB true d with
  | false =>
    go_enter Tryz.func86, Tryz.ntmps86
    go_wp2_with (first | (go_at_call 124; refine (register_any _ _ _).mono ?_; rintro e w1 ⟨rfl, rfl⟩) | (go_at_call 125; refine (NM.out _ _ _ _ _ _ _ _).mono ?_; rintro e w1 ⟨rfl, d1⟩; obtain ⟨x1, rfl⟩ := Wb.start d1; clear d1) | (go_at_call 126; refine (kind_c _ _ _ _ _ _ _ _ _ _ _ _ _ _ _ _ (by decide) (by decide) (by decide)).mono ?_; rintro e w1 ⟨rfl, d1⟩; obtain ⟨x2, rfl⟩ := Wb.next d1; clear d1))
    go_ret
    exact ⟨ret_code (by rw [E.out]; simp [r1, GrI.code]), (((Below.refl _ _).alloc (Nat.le_refl _) _).alloc (by simp) _)⟩
  | true =>
    cases r2 : GrI.regB true n with
    | false =>
      go_enter Tryz.func86, Tryz.ntmps86
      go_wp2_with (first | (go_at_call 124; refine (register_any _ _ _).mono ?_; rintro e w1 ⟨rfl, rfl⟩) | (go_at_call 125; refine (NM.out _ _ _ _ _ _ _ _).mono ?_; rintro e w1 ⟨rfl, d1⟩; obtain ⟨x1, rfl⟩ := Wb.start d1; clear d1) | (go_at_call 126; refine (kind_c _ _ _ _ _ _ _ _ _ _ _ _ _ _ _ _ (by decide) (by decide) (by decide)).mono ?_; rintro e w1 ⟨rfl, d1⟩; obtain ⟨x2, rfl⟩ := Wb.next d1; clear d1))
      go_ret
      exact ⟨ret_code (by rw [E.out]; simp [r1, r2, GrI.code]), (((Below.refl _ _).alloc (Nat.le_refl _) _).alloc (by simp) _)⟩
    | true =>
      cases r3 : GrI.regB false m with
      | false =>
        go_enter Tryz.func86, Tryz.ntmps86
        go_wp2_with (first | (go_at_call 124; refine (register_any _ _ _).mono ?_; rintro e w1 ⟨rfl, rfl⟩) | (go_at_call 125; refine (NM.out _ _ _ _ _ _ _ _).mono ?_; rintro e w1 ⟨rfl, d1⟩; obtain ⟨x1, rfl⟩ := Wb.start d1; clear d1) | (go_at_call 126; refine (kind_c _ _ _ _ _ _ _ _ _ _ _ _ _ _ _ _ (by decide) (by decide) (by decide)).mono ?_; rintro e w1 ⟨rfl, d1⟩; obtain ⟨x2, rfl⟩ := Wb.next d1; clear d1))
        go_ret
        exact ⟨ret_code (by rw [E.out]; simp [r1, r2, r3, GrI.code]), (((Below.refl _ _).alloc (Nat.le_refl _) _).alloc (by simp) _)⟩
      | true =>
        cases r4 : GrI.numB 0 0 imm with
        | false =>
          go_enter Tryz.func86, Tryz.ntmps86
          go_wp2_with (first | (go_at_call 124; refine (register_any _ _ _).mono ?_; rintro e w1 ⟨rfl, rfl⟩) | (go_at_call 125; refine (NM.out _ _ _ _ _ _ _ _).mono ?_; rintro e w1 ⟨rfl, d1⟩; obtain ⟨x1, rfl⟩ := Wb.start d1; clear d1) | (go_at_call 126; refine (kind_c _ _ _ _ _ _ _ _ _ _ _ _ _ _ _ _ (by decide) (by decide) (by decide)).mono ?_; rintro e w1 ⟨rfl, d1⟩; obtain ⟨x2, rfl⟩ := Wb.next d1; clear d1))
          go_ret
          exact ⟨ret_code (by rw [E.out]; simp [r1, r2, r3, r4, GrI.code]), KB.out x1⟩
        | true =>
          cases r5 : GrI.kindB 5 d kind 0 with
          | false =>
            go_enter Tryz.func86, Tryz.ntmps86
            go_wp2_with (first | (go_at_call 124; refine (register_any _ _ _).mono ?_; rintro e w1 ⟨rfl, rfl⟩) | (go_at_call 125; refine (NM.out _ _ _ _ _ _ _ _).mono ?_; rintro e w1 ⟨rfl, d1⟩; obtain ⟨x1, rfl⟩ := Wb.start d1; clear d1) | (go_at_call 126; refine (kind_c _ _ _ _ _ _ _ _ _ _ _ _ _ _ _ _ (by decide) (by decide) (by decide)).mono ?_; rintro e w1 ⟨rfl, d1⟩; obtain ⟨x2, rfl⟩ := Wb.next d1; clear d1))
            go_ret
            exact ⟨ret_code (by rw [E.out]; simp [r1, r2, r3, r4, r5, GrI.code]), KB.out x2⟩
          | true =>
            go_enter Tryz.func86, Tryz.ntmps86
            go_wp2_with (first | (go_at_call 124; refine (register_any _ _ _).mono ?_; rintro e w1 ⟨rfl, rfl⟩) | (go_at_call 125; refine (NM.out _ _ _ _ _ _ _ _).mono ?_; rintro e w1 ⟨rfl, d1⟩; obtain ⟨x1, rfl⟩ := Wb.start d1; clear d1) | (go_at_call 126; refine (kind_c _ _ _ _ _ _ _ _ _ _ _ _ _ _ _ _ (by decide) (by decide) (by decide)).mono ?_; rintro e w1 ⟨rfl, d1⟩; obtain ⟨x2, rfl⟩ := Wb.next d1; clear d1))
            go_ret
            exact ⟨ret_code (by rw [E.out]; simp [r1, r2, r3, r4, r5, GrI.code]), KB.out x2⟩
theorem xright_eq_6 (d n m imm kind : Int) : decide (GrI.right ⟨6, d, n, m, imm, kind⟩) = (GrI.regB true d && (GrI.regB false n && (GrI.regB false m && (GrI.numB 16 1 imm && GrI.kindB 6 d kind 4)))) := by
  rw [Bool.eq_iff_iff]
  simp [GrI.right, GrI.parts, GrI.nums, GrI.regB, GrI.numB, GrI.kindB]
  try omega
set_option maxRecDepth 100000 in
set_option maxHeartbeats 6400000 in
theorem xright_6 (d n m imm kind : Int) (w : World) (hs : ShAt w) (hb0 : -9223372036854775808 ≤ imm) (hb1 : imm ≤ 9223372036854775807) :
    Calls Tryz.prog 86 #[.agg #[.int .i64 6, .int .i64 d, .int .i64 n, .int .i64 m, .int .i64 imm, .int .i64 kind]] w fun e w' => e = .returned (.int .i64 (GrI.code (decide (GrI.right ⟨6, d, n, m, imm, kind⟩)))) ∧ Below w.heap.size w w' := by
  have E := Lib.hid (xright_eq_6 d n m imm kind)
  have NM := Lib.hid (fun wd d n m a k ka w => number_16_1 wd d n m a k ka imm w hb0 hb1)
  obtain ⟨e0, e1, e2, e3, e4, e5, e6, e7, e8⟩ := shape9 (hs.alloc (.cells #[.int .i64 6, .int .i64 d, .int .i64 n, .int .i64 m, .int .i64 imm, .int .i64 kind] 84)) 54 55 56 57 58 59 60 61 62 (.int .u32 3531603968) (.bool true) (.bool false) (.bool false) (.int .i64 16) (.int .i64 5) (.int .i64 1) (.int .i64 4) (.int .i64 21) (by decide) ⟨rfl, rfl, rfl, rfl, rfl, rfl, rfl, rfl, rfl⟩
  obtain ⟨a0, a1, a2, a3, a4, a5⟩ := six_new w (.int .i64 6) (.int .i64 d) (.int .i64 n) (.int .i64 m) (.int .i64 imm) (.int .i64 kind) 84 (.cells #[.int .u32 3531603968, .bool true, .bool false, .bool false, .int .i64 16, .int .i64 5, .int .i64 1, .int .i64 4, .int .i64 21] 177)
  obtain ⟨b0, b1, b2, b3, b4, b5, b6, b7, b8⟩ := nine_new (w.alloc (.cells #[.int .i64 6, .int .i64 d, .int .i64 n, .int .i64 m, .int .i64 imm, .int .i64 kind] 84)) (.int .u32 3531603968) (.bool true) (.bool false) (.bool false) (.int .i64 16) (.int .i64 5) (.int .i64 1) (.int .i64 4) (.int .i64 21) 177 (w.heap.size + 1) (by simp)
  have KB := Lib.hid (fun (x : Wb ((w.alloc (.cells #[.int .i64 6, .int .i64 d, .int .i64 n, .int .i64 m, .int .i64 imm, .int .i64 kind] 84)).alloc (.cells #[.int .u32 3531603968, .bool true, .bool false, .bool false, .int .i64 16, .int .i64 5, .int .i64 1, .int .i64 4, .int .i64 21] 177))) => ((((Below.refl _ _).alloc (Nat.le_refl _) _).alloc (by simp) _).trans (x.bel.mono (by simp; omega)) : Below w.heap.size w x.at))
  clear hb0 hb1 hs
  cases r1 : GrI.regB true d with
  | false =>
    go_enter Tryz.func86, Tryz.ntmps86
    go_wp2_with (first | (go_at_call 124; refine (register_any _ _ _).mono ?_; rintro e w1 ⟨rfl, rfl⟩) | (go_at_call 125; refine (NM.out _ _ _ _ _ _ _ _).mono ?_; rintro e w1 ⟨rfl, d1⟩; obtain ⟨x1, rfl⟩ := Wb.start d1; clear d1) | (go_at_call 126; refine (kind_c _ _ _ _ _ _ _ _ _ _ _ _ _ _ _ _ (by decide) (by decide) (by decide)).mono ?_; rintro e w1 ⟨rfl, d1⟩; obtain ⟨x2, rfl⟩ := Wb.next d1; clear d1))
    go_ret
    exact ⟨ret_code (by rw [E.out]; simp [r1, GrI.code]), (((Below.refl _ _).alloc (Nat.le_refl _) _).alloc (by simp) _)⟩
  | true =>
    cases r2 : GrI.regB false n with
    | false =>
      go_enter Tryz.func86, Tryz.ntmps86
      go_wp2_with (first | (go_at_call 124; refine (register_any _ _ _).mono ?_; rintro e w1 ⟨rfl, rfl⟩) | (go_at_call 125; refine (NM.out _ _ _ _ _ _ _ _).mono ?_; rintro e w1 ⟨rfl, d1⟩; obtain ⟨x1, rfl⟩ := Wb.start d1; clear d1) | (go_at_call 126; refine (kind_c _ _ _ _ _ _ _ _ _ _ _ _ _ _ _ _ (by decide) (by decide) (by decide)).mono ?_; rintro e w1 ⟨rfl, d1⟩; obtain ⟨x2, rfl⟩ := Wb.next d1; clear d1))
      go_ret
      exact ⟨ret_code (by rw [E.out]; simp [r1, r2, GrI.code]), (((Below.refl _ _).alloc (Nat.le_refl _) _).alloc (by simp) _)⟩
    | true =>
      cases r3 : GrI.regB false m with
      | false =>
        go_enter Tryz.func86, Tryz.ntmps86
        go_wp2_with (first | (go_at_call 124; refine (register_any _ _ _).mono ?_; rintro e w1 ⟨rfl, rfl⟩) | (go_at_call 125; refine (NM.out _ _ _ _ _ _ _ _).mono ?_; rintro e w1 ⟨rfl, d1⟩; obtain ⟨x1, rfl⟩ := Wb.start d1; clear d1) | (go_at_call 126; refine (kind_c _ _ _ _ _ _ _ _ _ _ _ _ _ _ _ _ (by decide) (by decide) (by decide)).mono ?_; rintro e w1 ⟨rfl, d1⟩; obtain ⟨x2, rfl⟩ := Wb.next d1; clear d1))
        go_ret
        exact ⟨ret_code (by rw [E.out]; simp [r1, r2, r3, GrI.code]), (((Below.refl _ _).alloc (Nat.le_refl _) _).alloc (by simp) _)⟩
      | true =>
        cases r4 : GrI.numB 16 1 imm with
        | false =>
          go_enter Tryz.func86, Tryz.ntmps86
          go_wp2_with (first | (go_at_call 124; refine (register_any _ _ _).mono ?_; rintro e w1 ⟨rfl, rfl⟩) | (go_at_call 125; refine (NM.out _ _ _ _ _ _ _ _).mono ?_; rintro e w1 ⟨rfl, d1⟩; obtain ⟨x1, rfl⟩ := Wb.start d1; clear d1) | (go_at_call 126; refine (kind_c _ _ _ _ _ _ _ _ _ _ _ _ _ _ _ _ (by decide) (by decide) (by decide)).mono ?_; rintro e w1 ⟨rfl, d1⟩; obtain ⟨x2, rfl⟩ := Wb.next d1; clear d1))
          go_ret
          exact ⟨ret_code (by rw [E.out]; simp [r1, r2, r3, r4, GrI.code]), KB.out x1⟩
        | true =>
          cases r5 : GrI.kindB 6 d kind 4 with
          | false =>
            go_enter Tryz.func86, Tryz.ntmps86
            go_wp2_with (first | (go_at_call 124; refine (register_any _ _ _).mono ?_; rintro e w1 ⟨rfl, rfl⟩) | (go_at_call 125; refine (NM.out _ _ _ _ _ _ _ _).mono ?_; rintro e w1 ⟨rfl, d1⟩; obtain ⟨x1, rfl⟩ := Wb.start d1; clear d1) | (go_at_call 126; refine (kind_c _ _ _ _ _ _ _ _ _ _ _ _ _ _ _ _ (by decide) (by decide) (by decide)).mono ?_; rintro e w1 ⟨rfl, d1⟩; obtain ⟨x2, rfl⟩ := Wb.next d1; clear d1))
            go_ret
            exact ⟨ret_code (by rw [E.out]; simp [r1, r2, r3, r4, r5, GrI.code]), KB.out x2⟩
          | true =>
            go_enter Tryz.func86, Tryz.ntmps86
            go_wp2_with (first | (go_at_call 124; refine (register_any _ _ _).mono ?_; rintro e w1 ⟨rfl, rfl⟩) | (go_at_call 125; refine (NM.out _ _ _ _ _ _ _ _).mono ?_; rintro e w1 ⟨rfl, d1⟩; obtain ⟨x1, rfl⟩ := Wb.start d1; clear d1) | (go_at_call 126; refine (kind_c _ _ _ _ _ _ _ _ _ _ _ _ _ _ _ _ (by decide) (by decide) (by decide)).mono ?_; rintro e w1 ⟨rfl, d1⟩; obtain ⟨x2, rfl⟩ := Wb.next d1; clear d1))
            go_ret
            exact ⟨ret_code (by rw [E.out]; simp [r1, r2, r3, r4, r5, GrI.code]), KB.out x2⟩
end Go.Proofs.YtlflknfkenfpiaaGreatDoor
namespace Go.Proofs.YtlflknfkenfpiaaGreatDoor
open Go.RowKit
theorem xright_eq_7 (d n m imm kind : Int) : decide (GrI.right ⟨7, d, n, m, imm, kind⟩) = (GrI.regB true d && (GrI.regB true n && (GrI.regB false m && (GrI.numB 12 1 imm && GrI.kindB 7 d kind 0)))) := by
  rw [Bool.eq_iff_iff]
  simp [GrI.right, GrI.parts, GrI.nums, GrI.regB, GrI.numB, GrI.kindB]
  try omega
set_option maxRecDepth 100000 in
set_option maxHeartbeats 6400000 in
theorem xright_7 (d n m imm kind : Int) (w : World) (hs : ShAt w) (hb0 : -9223372036854775808 ≤ imm) (hb1 : imm ≤ 9223372036854775807) :
    Calls Tryz.prog 86 #[.agg #[.int .i64 7, .int .i64 d, .int .i64 n, .int .i64 m, .int .i64 imm, .int .i64 kind]] w fun e w' => e = .returned (.int .i64 (GrI.code (decide (GrI.right ⟨7, d, n, m, imm, kind⟩)))) ∧ Below w.heap.size w w' := by
  have E := Lib.hid (xright_eq_7 d n m imm kind)
  have NM := Lib.hid (fun wd d n m a k ka w => number_12_1 wd d n m a k ka imm w hb0 hb1)
  obtain ⟨e0, e1, e2, e3, e4, e5, e6, e7, e8⟩ := shape9 (hs.alloc (.cells #[.int .i64 7, .int .i64 d, .int .i64 n, .int .i64 m, .int .i64 imm, .int .i64 kind] 84)) 63 64 65 66 67 68 69 70 71 (.int .u32 2432696320) (.bool true) (.bool true) (.bool false) (.int .i64 12) (.int .i64 10) (.int .i64 1) (.int .i64 0) (.int .i64 0) (by decide) ⟨rfl, rfl, rfl, rfl, rfl, rfl, rfl, rfl, rfl⟩
  obtain ⟨a0, a1, a2, a3, a4, a5⟩ := six_new w (.int .i64 7) (.int .i64 d) (.int .i64 n) (.int .i64 m) (.int .i64 imm) (.int .i64 kind) 84 (.cells #[.int .u32 2432696320, .bool true, .bool true, .bool false, .int .i64 12, .int .i64 10, .int .i64 1, .int .i64 0, .int .i64 0] 177)
  obtain ⟨b0, b1, b2, b3, b4, b5, b6, b7, b8⟩ := nine_new (w.alloc (.cells #[.int .i64 7, .int .i64 d, .int .i64 n, .int .i64 m, .int .i64 imm, .int .i64 kind] 84)) (.int .u32 2432696320) (.bool true) (.bool true) (.bool false) (.int .i64 12) (.int .i64 10) (.int .i64 1) (.int .i64 0) (.int .i64 0) 177 (w.heap.size + 1) (by simp)
  have KB := Lib.hid (fun (x : Wb ((w.alloc (.cells #[.int .i64 7, .int .i64 d, .int .i64 n, .int .i64 m, .int .i64 imm, .int .i64 kind] 84)).alloc (.cells #[.int .u32 2432696320, .bool true, .bool true, .bool false, .int .i64 12, .int .i64 10, .int .i64 1, .int .i64 0, .int .i64 0] 177))) => ((((Below.refl _ _).alloc (Nat.le_refl _) _).alloc (by simp) _).trans (x.bel.mono (by simp; omega)) : Below w.heap.size w x.at))
  clear hb0 hb1 hs
  cases r1 : GrI.regB true d with
  | false =>
    go_enter Tryz.func86, Tryz.ntmps86
    go_wp2_with (first | (go_at_call 124; refine (register_any _ _ _).mono ?_; rintro e w1 ⟨rfl, rfl⟩) | (go_at_call 125; refine (NM.out _ _ _ _ _ _ _ _).mono ?_; rintro e w1 ⟨rfl, d1⟩; obtain ⟨x1, rfl⟩ := Wb.start d1; clear d1) | (go_at_call 126; refine (kind_c _ _ _ _ _ _ _ _ _ _ _ _ _ _ _ _ (by decide) (by decide) (by decide)).mono ?_; rintro e w1 ⟨rfl, d1⟩; obtain ⟨x2, rfl⟩ := Wb.next d1; clear d1))
    go_ret
    exact ⟨ret_code (by rw [E.out]; simp [r1, GrI.code]), (((Below.refl _ _).alloc (Nat.le_refl _) _).alloc (by simp) _)⟩
  | true =>
    cases r2 : GrI.regB true n with
    | false =>
      go_enter Tryz.func86, Tryz.ntmps86
      go_wp2_with (first | (go_at_call 124; refine (register_any _ _ _).mono ?_; rintro e w1 ⟨rfl, rfl⟩) | (go_at_call 125; refine (NM.out _ _ _ _ _ _ _ _).mono ?_; rintro e w1 ⟨rfl, d1⟩; obtain ⟨x1, rfl⟩ := Wb.start d1; clear d1) | (go_at_call 126; refine (kind_c _ _ _ _ _ _ _ _ _ _ _ _ _ _ _ _ (by decide) (by decide) (by decide)).mono ?_; rintro e w1 ⟨rfl, d1⟩; obtain ⟨x2, rfl⟩ := Wb.next d1; clear d1))
      go_ret
      exact ⟨ret_code (by rw [E.out]; simp [r1, r2, GrI.code]), (((Below.refl _ _).alloc (Nat.le_refl _) _).alloc (by simp) _)⟩
    | true =>
      cases r3 : GrI.regB false m with
      | false =>
        go_enter Tryz.func86, Tryz.ntmps86
        go_wp2_with (first | (go_at_call 124; refine (register_any _ _ _).mono ?_; rintro e w1 ⟨rfl, rfl⟩) | (go_at_call 125; refine (NM.out _ _ _ _ _ _ _ _).mono ?_; rintro e w1 ⟨rfl, d1⟩; obtain ⟨x1, rfl⟩ := Wb.start d1; clear d1) | (go_at_call 126; refine (kind_c _ _ _ _ _ _ _ _ _ _ _ _ _ _ _ _ (by decide) (by decide) (by decide)).mono ?_; rintro e w1 ⟨rfl, d1⟩; obtain ⟨x2, rfl⟩ := Wb.next d1; clear d1))
        go_ret
        exact ⟨ret_code (by rw [E.out]; simp [r1, r2, r3, GrI.code]), (((Below.refl _ _).alloc (Nat.le_refl _) _).alloc (by simp) _)⟩
      | true =>
        cases r4 : GrI.numB 12 1 imm with
        | false =>
          go_enter Tryz.func86, Tryz.ntmps86
          go_wp2_with (first | (go_at_call 124; refine (register_any _ _ _).mono ?_; rintro e w1 ⟨rfl, rfl⟩) | (go_at_call 125; refine (NM.out _ _ _ _ _ _ _ _).mono ?_; rintro e w1 ⟨rfl, d1⟩; obtain ⟨x1, rfl⟩ := Wb.start d1; clear d1) | (go_at_call 126; refine (kind_c _ _ _ _ _ _ _ _ _ _ _ _ _ _ _ _ (by decide) (by decide) (by decide)).mono ?_; rintro e w1 ⟨rfl, d1⟩; obtain ⟨x2, rfl⟩ := Wb.next d1; clear d1))
          go_ret
          exact ⟨ret_code (by rw [E.out]; simp [r1, r2, r3, r4, GrI.code]), KB.out x1⟩
        | true =>
          cases r5 : GrI.kindB 7 d kind 0 with
          | false =>
            go_enter Tryz.func86, Tryz.ntmps86
            go_wp2_with (first | (go_at_call 124; refine (register_any _ _ _).mono ?_; rintro e w1 ⟨rfl, rfl⟩) | (go_at_call 125; refine (NM.out _ _ _ _ _ _ _ _).mono ?_; rintro e w1 ⟨rfl, d1⟩; obtain ⟨x1, rfl⟩ := Wb.start d1; clear d1) | (go_at_call 126; refine (kind_c _ _ _ _ _ _ _ _ _ _ _ _ _ _ _ _ (by decide) (by decide) (by decide)).mono ?_; rintro e w1 ⟨rfl, d1⟩; obtain ⟨x2, rfl⟩ := Wb.next d1; clear d1))
            go_ret
            exact ⟨ret_code (by rw [E.out]; simp [r1, r2, r3, r4, r5, GrI.code]), KB.out x2⟩
          | true =>
            go_enter Tryz.func86, Tryz.ntmps86
            go_wp2_with (first | (go_at_call 124; refine (register_any _ _ _).mono ?_; rintro e w1 ⟨rfl, rfl⟩) | (go_at_call 125; refine (NM.out _ _ _ _ _ _ _ _).mono ?_; rintro e w1 ⟨rfl, d1⟩; obtain ⟨x1, rfl⟩ := Wb.start d1; clear d1) | (go_at_call 126; refine (kind_c _ _ _ _ _ _ _ _ _ _ _ _ _ _ _ _ (by decide) (by decide) (by decide)).mono ?_; rintro e w1 ⟨rfl, d1⟩; obtain ⟨x2, rfl⟩ := Wb.next d1; clear d1))
            go_ret
            exact ⟨ret_code (by rw [E.out]; simp [r1, r2, r3, r4, r5, GrI.code]), KB.out x2⟩
theorem xright_eq_8 (d n m imm kind : Int) : decide (GrI.right ⟨8, d, n, m, imm, kind⟩) = (GrI.regB true d && (GrI.regB true n && (GrI.regB true m && (GrI.numB 0 0 imm && GrI.kindB 8 d kind 0)))) := by
  rw [Bool.eq_iff_iff]
  simp [GrI.right, GrI.parts, GrI.nums, GrI.regB, GrI.numB, GrI.kindB]
  try omega
set_option maxRecDepth 100000 in
set_option maxHeartbeats 6400000 in
theorem xright_8 (d n m imm kind : Int) (w : World) (hs : ShAt w) (hb0 : -9223372036854775808 ≤ imm) (hb1 : imm ≤ 9223372036854775807) :
    Calls Tryz.prog 86 #[.agg #[.int .i64 8, .int .i64 d, .int .i64 n, .int .i64 m, .int .i64 imm, .int .i64 kind]] w fun e w' => e = .returned (.int .i64 (GrI.code (decide (GrI.right ⟨8, d, n, m, imm, kind⟩)))) ∧ Below w.heap.size w w' := by
  have E := Lib.hid (xright_eq_8 d n m imm kind)
  have NM := Lib.hid (fun wd d n m a k ka w => number_0_0 wd d n m a k ka imm w hb0 hb1)
  obtain ⟨e0, e1, e2, e3, e4, e5, e6, e7, e8⟩ := shape9 (hs.alloc (.cells #[.int .i64 8, .int .i64 d, .int .i64 n, .int .i64 m, .int .i64 imm, .int .i64 kind] 84)) 72 73 74 75 76 77 78 79 80 (.int .u32 2332033024) (.bool true) (.bool true) (.bool true) (.int .i64 0) (.int .i64 0) (.int .i64 0) (.int .i64 0) (.int .i64 0) (by decide) ⟨rfl, rfl, rfl, rfl, rfl, rfl, rfl, rfl, rfl⟩
  obtain ⟨a0, a1, a2, a3, a4, a5⟩ := six_new w (.int .i64 8) (.int .i64 d) (.int .i64 n) (.int .i64 m) (.int .i64 imm) (.int .i64 kind) 84 (.cells #[.int .u32 2332033024, .bool true, .bool true, .bool true, .int .i64 0, .int .i64 0, .int .i64 0, .int .i64 0, .int .i64 0] 177)
  obtain ⟨b0, b1, b2, b3, b4, b5, b6, b7, b8⟩ := nine_new (w.alloc (.cells #[.int .i64 8, .int .i64 d, .int .i64 n, .int .i64 m, .int .i64 imm, .int .i64 kind] 84)) (.int .u32 2332033024) (.bool true) (.bool true) (.bool true) (.int .i64 0) (.int .i64 0) (.int .i64 0) (.int .i64 0) (.int .i64 0) 177 (w.heap.size + 1) (by simp)
  have KB := Lib.hid (fun (x : Wb ((w.alloc (.cells #[.int .i64 8, .int .i64 d, .int .i64 n, .int .i64 m, .int .i64 imm, .int .i64 kind] 84)).alloc (.cells #[.int .u32 2332033024, .bool true, .bool true, .bool true, .int .i64 0, .int .i64 0, .int .i64 0, .int .i64 0, .int .i64 0] 177))) => ((((Below.refl _ _).alloc (Nat.le_refl _) _).alloc (by simp) _).trans (x.bel.mono (by simp; omega)) : Below w.heap.size w x.at))
  clear hb0 hb1 hs
  cases r1 : GrI.regB true d with
  | false =>
    go_enter Tryz.func86, Tryz.ntmps86
    go_wp2_with (first | (go_at_call 124; refine (register_any _ _ _).mono ?_; rintro e w1 ⟨rfl, rfl⟩) | (go_at_call 125; refine (NM.out _ _ _ _ _ _ _ _).mono ?_; rintro e w1 ⟨rfl, d1⟩; obtain ⟨x1, rfl⟩ := Wb.start d1; clear d1) | (go_at_call 126; refine (kind_c _ _ _ _ _ _ _ _ _ _ _ _ _ _ _ _ (by decide) (by decide) (by decide)).mono ?_; rintro e w1 ⟨rfl, d1⟩; obtain ⟨x2, rfl⟩ := Wb.next d1; clear d1))
    go_ret
    exact ⟨ret_code (by rw [E.out]; simp [r1, GrI.code]), (((Below.refl _ _).alloc (Nat.le_refl _) _).alloc (by simp) _)⟩
  | true =>
    cases r2 : GrI.regB true n with
    | false =>
      go_enter Tryz.func86, Tryz.ntmps86
      go_wp2_with (first | (go_at_call 124; refine (register_any _ _ _).mono ?_; rintro e w1 ⟨rfl, rfl⟩) | (go_at_call 125; refine (NM.out _ _ _ _ _ _ _ _).mono ?_; rintro e w1 ⟨rfl, d1⟩; obtain ⟨x1, rfl⟩ := Wb.start d1; clear d1) | (go_at_call 126; refine (kind_c _ _ _ _ _ _ _ _ _ _ _ _ _ _ _ _ (by decide) (by decide) (by decide)).mono ?_; rintro e w1 ⟨rfl, d1⟩; obtain ⟨x2, rfl⟩ := Wb.next d1; clear d1))
      go_ret
      exact ⟨ret_code (by rw [E.out]; simp [r1, r2, GrI.code]), (((Below.refl _ _).alloc (Nat.le_refl _) _).alloc (by simp) _)⟩
    | true =>
      cases r3 : GrI.regB true m with
      | false =>
        go_enter Tryz.func86, Tryz.ntmps86
        go_wp2_with (first | (go_at_call 124; refine (register_any _ _ _).mono ?_; rintro e w1 ⟨rfl, rfl⟩) | (go_at_call 125; refine (NM.out _ _ _ _ _ _ _ _).mono ?_; rintro e w1 ⟨rfl, d1⟩; obtain ⟨x1, rfl⟩ := Wb.start d1; clear d1) | (go_at_call 126; refine (kind_c _ _ _ _ _ _ _ _ _ _ _ _ _ _ _ _ (by decide) (by decide) (by decide)).mono ?_; rintro e w1 ⟨rfl, d1⟩; obtain ⟨x2, rfl⟩ := Wb.next d1; clear d1))
        go_ret
        exact ⟨ret_code (by rw [E.out]; simp [r1, r2, r3, GrI.code]), (((Below.refl _ _).alloc (Nat.le_refl _) _).alloc (by simp) _)⟩
      | true =>
        cases r4 : GrI.numB 0 0 imm with
        | false =>
          go_enter Tryz.func86, Tryz.ntmps86
          go_wp2_with (first | (go_at_call 124; refine (register_any _ _ _).mono ?_; rintro e w1 ⟨rfl, rfl⟩) | (go_at_call 125; refine (NM.out _ _ _ _ _ _ _ _).mono ?_; rintro e w1 ⟨rfl, d1⟩; obtain ⟨x1, rfl⟩ := Wb.start d1; clear d1) | (go_at_call 126; refine (kind_c _ _ _ _ _ _ _ _ _ _ _ _ _ _ _ _ (by decide) (by decide) (by decide)).mono ?_; rintro e w1 ⟨rfl, d1⟩; obtain ⟨x2, rfl⟩ := Wb.next d1; clear d1))
          go_ret
          exact ⟨ret_code (by rw [E.out]; simp [r1, r2, r3, r4, GrI.code]), KB.out x1⟩
        | true =>
          cases r5 : GrI.kindB 8 d kind 0 with
          | false =>
            go_enter Tryz.func86, Tryz.ntmps86
            go_wp2_with (first | (go_at_call 124; refine (register_any _ _ _).mono ?_; rintro e w1 ⟨rfl, rfl⟩) | (go_at_call 125; refine (NM.out _ _ _ _ _ _ _ _).mono ?_; rintro e w1 ⟨rfl, d1⟩; obtain ⟨x1, rfl⟩ := Wb.start d1; clear d1) | (go_at_call 126; refine (kind_c _ _ _ _ _ _ _ _ _ _ _ _ _ _ _ _ (by decide) (by decide) (by decide)).mono ?_; rintro e w1 ⟨rfl, d1⟩; obtain ⟨x2, rfl⟩ := Wb.next d1; clear d1))
            go_ret
            exact ⟨ret_code (by rw [E.out]; simp [r1, r2, r3, r4, r5, GrI.code]), KB.out x2⟩
          | true =>
            go_enter Tryz.func86, Tryz.ntmps86
            go_wp2_with (first | (go_at_call 124; refine (register_any _ _ _).mono ?_; rintro e w1 ⟨rfl, rfl⟩) | (go_at_call 125; refine (NM.out _ _ _ _ _ _ _ _).mono ?_; rintro e w1 ⟨rfl, d1⟩; obtain ⟨x1, rfl⟩ := Wb.start d1; clear d1) | (go_at_call 126; refine (kind_c _ _ _ _ _ _ _ _ _ _ _ _ _ _ _ _ (by decide) (by decide) (by decide)).mono ?_; rintro e w1 ⟨rfl, d1⟩; obtain ⟨x2, rfl⟩ := Wb.next d1; clear d1))
            go_ret
            exact ⟨ret_code (by rw [E.out]; simp [r1, r2, r3, r4, r5, GrI.code]), KB.out x2⟩
theorem xright_eq_9 (d n m imm kind : Int) : decide (GrI.right ⟨9, d, n, m, imm, kind⟩) = (GrI.regB true d && (GrI.regB true n && (GrI.regB true m && (GrI.numB 0 0 imm && GrI.kindB 9 d kind 0)))) := by
  rw [Bool.eq_iff_iff]
  simp [GrI.right, GrI.parts, GrI.nums, GrI.regB, GrI.numB, GrI.kindB]
  try omega
set_option maxRecDepth 100000 in
set_option maxHeartbeats 6400000 in
theorem xright_9 (d n m imm kind : Int) (w : World) (hs : ShAt w) (hb0 : -9223372036854775808 ≤ imm) (hb1 : imm ≤ 9223372036854775807) :
    Calls Tryz.prog 86 #[.agg #[.int .i64 9, .int .i64 d, .int .i64 n, .int .i64 m, .int .i64 imm, .int .i64 kind]] w fun e w' => e = .returned (.int .i64 (GrI.code (decide (GrI.right ⟨9, d, n, m, imm, kind⟩)))) ∧ Below w.heap.size w w' := by
  have E := Lib.hid (xright_eq_9 d n m imm kind)
  have NM := Lib.hid (fun wd d n m a k ka w => number_0_0 wd d n m a k ka imm w hb0 hb1)
  obtain ⟨e0, e1, e2, e3, e4, e5, e6, e7, e8⟩ := shape9 (hs.alloc (.cells #[.int .i64 9, .int .i64 d, .int .i64 n, .int .i64 m, .int .i64 imm, .int .i64 kind] 84)) 81 82 83 84 85 86 87 88 89 (.int .u32 3405774848) (.bool true) (.bool true) (.bool true) (.int .i64 0) (.int .i64 0) (.int .i64 0) (.int .i64 0) (.int .i64 0) (by decide) ⟨rfl, rfl, rfl, rfl, rfl, rfl, rfl, rfl, rfl⟩
  obtain ⟨a0, a1, a2, a3, a4, a5⟩ := six_new w (.int .i64 9) (.int .i64 d) (.int .i64 n) (.int .i64 m) (.int .i64 imm) (.int .i64 kind) 84 (.cells #[.int .u32 3405774848, .bool true, .bool true, .bool true, .int .i64 0, .int .i64 0, .int .i64 0, .int .i64 0, .int .i64 0] 177)
  obtain ⟨b0, b1, b2, b3, b4, b5, b6, b7, b8⟩ := nine_new (w.alloc (.cells #[.int .i64 9, .int .i64 d, .int .i64 n, .int .i64 m, .int .i64 imm, .int .i64 kind] 84)) (.int .u32 3405774848) (.bool true) (.bool true) (.bool true) (.int .i64 0) (.int .i64 0) (.int .i64 0) (.int .i64 0) (.int .i64 0) 177 (w.heap.size + 1) (by simp)
  have KB := Lib.hid (fun (x : Wb ((w.alloc (.cells #[.int .i64 9, .int .i64 d, .int .i64 n, .int .i64 m, .int .i64 imm, .int .i64 kind] 84)).alloc (.cells #[.int .u32 3405774848, .bool true, .bool true, .bool true, .int .i64 0, .int .i64 0, .int .i64 0, .int .i64 0, .int .i64 0] 177))) => ((((Below.refl _ _).alloc (Nat.le_refl _) _).alloc (by simp) _).trans (x.bel.mono (by simp; omega)) : Below w.heap.size w x.at))
  clear hb0 hb1 hs
  cases r1 : GrI.regB true d with
  | false =>
    go_enter Tryz.func86, Tryz.ntmps86
    go_wp2_with (first | (go_at_call 124; refine (register_any _ _ _).mono ?_; rintro e w1 ⟨rfl, rfl⟩) | (go_at_call 125; refine (NM.out _ _ _ _ _ _ _ _).mono ?_; rintro e w1 ⟨rfl, d1⟩; obtain ⟨x1, rfl⟩ := Wb.start d1; clear d1) | (go_at_call 126; refine (kind_c _ _ _ _ _ _ _ _ _ _ _ _ _ _ _ _ (by decide) (by decide) (by decide)).mono ?_; rintro e w1 ⟨rfl, d1⟩; obtain ⟨x2, rfl⟩ := Wb.next d1; clear d1))
    go_ret
    exact ⟨ret_code (by rw [E.out]; simp [r1, GrI.code]), (((Below.refl _ _).alloc (Nat.le_refl _) _).alloc (by simp) _)⟩
  | true =>
    cases r2 : GrI.regB true n with
    | false =>
      go_enter Tryz.func86, Tryz.ntmps86
      go_wp2_with (first | (go_at_call 124; refine (register_any _ _ _).mono ?_; rintro e w1 ⟨rfl, rfl⟩) | (go_at_call 125; refine (NM.out _ _ _ _ _ _ _ _).mono ?_; rintro e w1 ⟨rfl, d1⟩; obtain ⟨x1, rfl⟩ := Wb.start d1; clear d1) | (go_at_call 126; refine (kind_c _ _ _ _ _ _ _ _ _ _ _ _ _ _ _ _ (by decide) (by decide) (by decide)).mono ?_; rintro e w1 ⟨rfl, d1⟩; obtain ⟨x2, rfl⟩ := Wb.next d1; clear d1))
      go_ret
      exact ⟨ret_code (by rw [E.out]; simp [r1, r2, GrI.code]), (((Below.refl _ _).alloc (Nat.le_refl _) _).alloc (by simp) _)⟩
    | true =>
      cases r3 : GrI.regB true m with
      | false =>
        go_enter Tryz.func86, Tryz.ntmps86
        go_wp2_with (first | (go_at_call 124; refine (register_any _ _ _).mono ?_; rintro e w1 ⟨rfl, rfl⟩) | (go_at_call 125; refine (NM.out _ _ _ _ _ _ _ _).mono ?_; rintro e w1 ⟨rfl, d1⟩; obtain ⟨x1, rfl⟩ := Wb.start d1; clear d1) | (go_at_call 126; refine (kind_c _ _ _ _ _ _ _ _ _ _ _ _ _ _ _ _ (by decide) (by decide) (by decide)).mono ?_; rintro e w1 ⟨rfl, d1⟩; obtain ⟨x2, rfl⟩ := Wb.next d1; clear d1))
        go_ret
        exact ⟨ret_code (by rw [E.out]; simp [r1, r2, r3, GrI.code]), (((Below.refl _ _).alloc (Nat.le_refl _) _).alloc (by simp) _)⟩
      | true =>
        cases r4 : GrI.numB 0 0 imm with
        | false =>
          go_enter Tryz.func86, Tryz.ntmps86
          go_wp2_with (first | (go_at_call 124; refine (register_any _ _ _).mono ?_; rintro e w1 ⟨rfl, rfl⟩) | (go_at_call 125; refine (NM.out _ _ _ _ _ _ _ _).mono ?_; rintro e w1 ⟨rfl, d1⟩; obtain ⟨x1, rfl⟩ := Wb.start d1; clear d1) | (go_at_call 126; refine (kind_c _ _ _ _ _ _ _ _ _ _ _ _ _ _ _ _ (by decide) (by decide) (by decide)).mono ?_; rintro e w1 ⟨rfl, d1⟩; obtain ⟨x2, rfl⟩ := Wb.next d1; clear d1))
          go_ret
          exact ⟨ret_code (by rw [E.out]; simp [r1, r2, r3, r4, GrI.code]), KB.out x1⟩
        | true =>
          cases r5 : GrI.kindB 9 d kind 0 with
          | false =>
            go_enter Tryz.func86, Tryz.ntmps86
            go_wp2_with (first | (go_at_call 124; refine (register_any _ _ _).mono ?_; rintro e w1 ⟨rfl, rfl⟩) | (go_at_call 125; refine (NM.out _ _ _ _ _ _ _ _).mono ?_; rintro e w1 ⟨rfl, d1⟩; obtain ⟨x1, rfl⟩ := Wb.start d1; clear d1) | (go_at_call 126; refine (kind_c _ _ _ _ _ _ _ _ _ _ _ _ _ _ _ _ (by decide) (by decide) (by decide)).mono ?_; rintro e w1 ⟨rfl, d1⟩; obtain ⟨x2, rfl⟩ := Wb.next d1; clear d1))
            go_ret
            exact ⟨ret_code (by rw [E.out]; simp [r1, r2, r3, r4, r5, GrI.code]), KB.out x2⟩
          | true =>
            go_enter Tryz.func86, Tryz.ntmps86
            go_wp2_with (first | (go_at_call 124; refine (register_any _ _ _).mono ?_; rintro e w1 ⟨rfl, rfl⟩) | (go_at_call 125; refine (NM.out _ _ _ _ _ _ _ _).mono ?_; rintro e w1 ⟨rfl, d1⟩; obtain ⟨x1, rfl⟩ := Wb.start d1; clear d1) | (go_at_call 126; refine (kind_c _ _ _ _ _ _ _ _ _ _ _ _ _ _ _ _ (by decide) (by decide) (by decide)).mono ?_; rintro e w1 ⟨rfl, d1⟩; obtain ⟨x2, rfl⟩ := Wb.next d1; clear d1))
            go_ret
            exact ⟨ret_code (by rw [E.out]; simp [r1, r2, r3, r4, r5, GrI.code]), KB.out x2⟩
theorem xright_eq_10 (d n m imm kind : Int) : decide (GrI.right ⟨10, d, n, m, imm, kind⟩) = (GrI.regB true d && (GrI.regB true n && (GrI.regB true m && (GrI.numB 0 0 imm && GrI.kindB 10 d kind 0)))) := by
  rw [Bool.eq_iff_iff]
  simp [GrI.right, GrI.parts, GrI.nums, GrI.regB, GrI.numB, GrI.kindB]
  try omega
set_option maxRecDepth 100000 in
set_option maxHeartbeats 6400000 in
theorem xright_10 (d n m imm kind : Int) (w : World) (hs : ShAt w) (hb0 : -9223372036854775808 ≤ imm) (hb1 : imm ≤ 9223372036854775807) :
    Calls Tryz.prog 86 #[.agg #[.int .i64 10, .int .i64 d, .int .i64 n, .int .i64 m, .int .i64 imm, .int .i64 kind]] w fun e w' => e = .returned (.int .i64 (GrI.code (decide (GrI.right ⟨10, d, n, m, imm, kind⟩)))) ∧ Below w.heap.size w w' := by
  have E := Lib.hid (xright_eq_10 d n m imm kind)
  have NM := Lib.hid (fun wd d n m a k ka w => number_0_0 wd d n m a k ka imm w hb0 hb1)
  obtain ⟨e0, e1, e2, e3, e4, e5, e6, e7, e8⟩ := shape9 (hs.alloc (.cells #[.int .i64 10, .int .i64 d, .int .i64 n, .int .i64 m, .int .i64 imm, .int .i64 kind] 84)) 90 91 92 93 94 95 96 97 98 (.int .u32 2315255808) (.bool true) (.bool true) (.bool true) (.int .i64 0) (.int .i64 0) (.int .i64 0) (.int .i64 0) (.int .i64 0) (by decide) ⟨rfl, rfl, rfl, rfl, rfl, rfl, rfl, rfl, rfl⟩
  obtain ⟨a0, a1, a2, a3, a4, a5⟩ := six_new w (.int .i64 10) (.int .i64 d) (.int .i64 n) (.int .i64 m) (.int .i64 imm) (.int .i64 kind) 84 (.cells #[.int .u32 2315255808, .bool true, .bool true, .bool true, .int .i64 0, .int .i64 0, .int .i64 0, .int .i64 0, .int .i64 0] 177)
  obtain ⟨b0, b1, b2, b3, b4, b5, b6, b7, b8⟩ := nine_new (w.alloc (.cells #[.int .i64 10, .int .i64 d, .int .i64 n, .int .i64 m, .int .i64 imm, .int .i64 kind] 84)) (.int .u32 2315255808) (.bool true) (.bool true) (.bool true) (.int .i64 0) (.int .i64 0) (.int .i64 0) (.int .i64 0) (.int .i64 0) 177 (w.heap.size + 1) (by simp)
  have KB := Lib.hid (fun (x : Wb ((w.alloc (.cells #[.int .i64 10, .int .i64 d, .int .i64 n, .int .i64 m, .int .i64 imm, .int .i64 kind] 84)).alloc (.cells #[.int .u32 2315255808, .bool true, .bool true, .bool true, .int .i64 0, .int .i64 0, .int .i64 0, .int .i64 0, .int .i64 0] 177))) => ((((Below.refl _ _).alloc (Nat.le_refl _) _).alloc (by simp) _).trans (x.bel.mono (by simp; omega)) : Below w.heap.size w x.at))
  clear hb0 hb1 hs
  cases r1 : GrI.regB true d with
  | false =>
    go_enter Tryz.func86, Tryz.ntmps86
    go_wp2_with (first | (go_at_call 124; refine (register_any _ _ _).mono ?_; rintro e w1 ⟨rfl, rfl⟩) | (go_at_call 125; refine (NM.out _ _ _ _ _ _ _ _).mono ?_; rintro e w1 ⟨rfl, d1⟩; obtain ⟨x1, rfl⟩ := Wb.start d1; clear d1) | (go_at_call 126; refine (kind_c _ _ _ _ _ _ _ _ _ _ _ _ _ _ _ _ (by decide) (by decide) (by decide)).mono ?_; rintro e w1 ⟨rfl, d1⟩; obtain ⟨x2, rfl⟩ := Wb.next d1; clear d1))
    go_ret
    exact ⟨ret_code (by rw [E.out]; simp [r1, GrI.code]), (((Below.refl _ _).alloc (Nat.le_refl _) _).alloc (by simp) _)⟩
  | true =>
    cases r2 : GrI.regB true n with
    | false =>
      go_enter Tryz.func86, Tryz.ntmps86
      go_wp2_with (first | (go_at_call 124; refine (register_any _ _ _).mono ?_; rintro e w1 ⟨rfl, rfl⟩) | (go_at_call 125; refine (NM.out _ _ _ _ _ _ _ _).mono ?_; rintro e w1 ⟨rfl, d1⟩; obtain ⟨x1, rfl⟩ := Wb.start d1; clear d1) | (go_at_call 126; refine (kind_c _ _ _ _ _ _ _ _ _ _ _ _ _ _ _ _ (by decide) (by decide) (by decide)).mono ?_; rintro e w1 ⟨rfl, d1⟩; obtain ⟨x2, rfl⟩ := Wb.next d1; clear d1))
      go_ret
      exact ⟨ret_code (by rw [E.out]; simp [r1, r2, GrI.code]), (((Below.refl _ _).alloc (Nat.le_refl _) _).alloc (by simp) _)⟩
    | true =>
      cases r3 : GrI.regB true m with
      | false =>
        go_enter Tryz.func86, Tryz.ntmps86
        go_wp2_with (first | (go_at_call 124; refine (register_any _ _ _).mono ?_; rintro e w1 ⟨rfl, rfl⟩) | (go_at_call 125; refine (NM.out _ _ _ _ _ _ _ _).mono ?_; rintro e w1 ⟨rfl, d1⟩; obtain ⟨x1, rfl⟩ := Wb.start d1; clear d1) | (go_at_call 126; refine (kind_c _ _ _ _ _ _ _ _ _ _ _ _ _ _ _ _ (by decide) (by decide) (by decide)).mono ?_; rintro e w1 ⟨rfl, d1⟩; obtain ⟨x2, rfl⟩ := Wb.next d1; clear d1))
        go_ret
        exact ⟨ret_code (by rw [E.out]; simp [r1, r2, r3, GrI.code]), (((Below.refl _ _).alloc (Nat.le_refl _) _).alloc (by simp) _)⟩
      | true =>
        cases r4 : GrI.numB 0 0 imm with
        | false =>
          go_enter Tryz.func86, Tryz.ntmps86
          go_wp2_with (first | (go_at_call 124; refine (register_any _ _ _).mono ?_; rintro e w1 ⟨rfl, rfl⟩) | (go_at_call 125; refine (NM.out _ _ _ _ _ _ _ _).mono ?_; rintro e w1 ⟨rfl, d1⟩; obtain ⟨x1, rfl⟩ := Wb.start d1; clear d1) | (go_at_call 126; refine (kind_c _ _ _ _ _ _ _ _ _ _ _ _ _ _ _ _ (by decide) (by decide) (by decide)).mono ?_; rintro e w1 ⟨rfl, d1⟩; obtain ⟨x2, rfl⟩ := Wb.next d1; clear d1))
          go_ret
          exact ⟨ret_code (by rw [E.out]; simp [r1, r2, r3, r4, GrI.code]), KB.out x1⟩
        | true =>
          cases r5 : GrI.kindB 10 d kind 0 with
          | false =>
            go_enter Tryz.func86, Tryz.ntmps86
            go_wp2_with (first | (go_at_call 124; refine (register_any _ _ _).mono ?_; rintro e w1 ⟨rfl, rfl⟩) | (go_at_call 125; refine (NM.out _ _ _ _ _ _ _ _).mono ?_; rintro e w1 ⟨rfl, d1⟩; obtain ⟨x1, rfl⟩ := Wb.start d1; clear d1) | (go_at_call 126; refine (kind_c _ _ _ _ _ _ _ _ _ _ _ _ _ _ _ _ (by decide) (by decide) (by decide)).mono ?_; rintro e w1 ⟨rfl, d1⟩; obtain ⟨x2, rfl⟩ := Wb.next d1; clear d1))
            go_ret
            exact ⟨ret_code (by rw [E.out]; simp [r1, r2, r3, r4, r5, GrI.code]), KB.out x2⟩
          | true =>
            go_enter Tryz.func86, Tryz.ntmps86
            go_wp2_with (first | (go_at_call 124; refine (register_any _ _ _).mono ?_; rintro e w1 ⟨rfl, rfl⟩) | (go_at_call 125; refine (NM.out _ _ _ _ _ _ _ _).mono ?_; rintro e w1 ⟨rfl, d1⟩; obtain ⟨x1, rfl⟩ := Wb.start d1; clear d1) | (go_at_call 126; refine (kind_c _ _ _ _ _ _ _ _ _ _ _ _ _ _ _ _ (by decide) (by decide) (by decide)).mono ?_; rintro e w1 ⟨rfl, d1⟩; obtain ⟨x2, rfl⟩ := Wb.next d1; clear d1))
            go_ret
            exact ⟨ret_code (by rw [E.out]; simp [r1, r2, r3, r4, r5, GrI.code]), KB.out x2⟩
theorem xright_eq_11 (d n m imm kind : Int) : decide (GrI.right ⟨11, d, n, m, imm, kind⟩) = (GrI.regB true d && (GrI.regB true n && (GrI.regB true m && (GrI.numB 0 0 imm && GrI.kindB 11 d kind 0)))) := by
  rw [Bool.eq_iff_iff]
  simp [GrI.right, GrI.parts, GrI.nums, GrI.regB, GrI.numB, GrI.kindB]
  try omega
set_option maxRecDepth 100000 in
set_option maxHeartbeats 6400000 in
theorem xright_11 (d n m imm kind : Int) (w : World) (hs : ShAt w) (hb0 : -9223372036854775808 ≤ imm) (hb1 : imm ≤ 9223372036854775807) :
    Calls Tryz.prog 86 #[.agg #[.int .i64 11, .int .i64 d, .int .i64 n, .int .i64 m, .int .i64 imm, .int .i64 kind]] w fun e w' => e = .returned (.int .i64 (GrI.code (decide (GrI.right ⟨11, d, n, m, imm, kind⟩)))) ∧ Below w.heap.size w w' := by
  have E := Lib.hid (xright_eq_11 d n m imm kind)
  have NM := Lib.hid (fun wd d n m a k ka w => number_0_0 wd d n m a k ka imm w hb0 hb1)
  obtain ⟨e0, e1, e2, e3, e4, e5, e6, e7, e8⟩ := shape9 (hs.alloc (.cells #[.int .i64 11, .int .i64 d, .int .i64 n, .int .i64 m, .int .i64 imm, .int .i64 kind] 84)) 99 100 101 102 103 104 105 106 107 (.int .u32 2852126720) (.bool true) (.bool true) (.bool true) (.int .i64 0) (.int .i64 0) (.int .i64 0) (.int .i64 0) (.int .i64 0) (by decide) ⟨rfl, rfl, rfl, rfl, rfl, rfl, rfl, rfl, rfl⟩
  obtain ⟨a0, a1, a2, a3, a4, a5⟩ := six_new w (.int .i64 11) (.int .i64 d) (.int .i64 n) (.int .i64 m) (.int .i64 imm) (.int .i64 kind) 84 (.cells #[.int .u32 2852126720, .bool true, .bool true, .bool true, .int .i64 0, .int .i64 0, .int .i64 0, .int .i64 0, .int .i64 0] 177)
  obtain ⟨b0, b1, b2, b3, b4, b5, b6, b7, b8⟩ := nine_new (w.alloc (.cells #[.int .i64 11, .int .i64 d, .int .i64 n, .int .i64 m, .int .i64 imm, .int .i64 kind] 84)) (.int .u32 2852126720) (.bool true) (.bool true) (.bool true) (.int .i64 0) (.int .i64 0) (.int .i64 0) (.int .i64 0) (.int .i64 0) 177 (w.heap.size + 1) (by simp)
  have KB := Lib.hid (fun (x : Wb ((w.alloc (.cells #[.int .i64 11, .int .i64 d, .int .i64 n, .int .i64 m, .int .i64 imm, .int .i64 kind] 84)).alloc (.cells #[.int .u32 2852126720, .bool true, .bool true, .bool true, .int .i64 0, .int .i64 0, .int .i64 0, .int .i64 0, .int .i64 0] 177))) => ((((Below.refl _ _).alloc (Nat.le_refl _) _).alloc (by simp) _).trans (x.bel.mono (by simp; omega)) : Below w.heap.size w x.at))
  clear hb0 hb1 hs
  cases r1 : GrI.regB true d with
  | false =>
    go_enter Tryz.func86, Tryz.ntmps86
    go_wp2_with (first | (go_at_call 124; refine (register_any _ _ _).mono ?_; rintro e w1 ⟨rfl, rfl⟩) | (go_at_call 125; refine (NM.out _ _ _ _ _ _ _ _).mono ?_; rintro e w1 ⟨rfl, d1⟩; obtain ⟨x1, rfl⟩ := Wb.start d1; clear d1) | (go_at_call 126; refine (kind_c _ _ _ _ _ _ _ _ _ _ _ _ _ _ _ _ (by decide) (by decide) (by decide)).mono ?_; rintro e w1 ⟨rfl, d1⟩; obtain ⟨x2, rfl⟩ := Wb.next d1; clear d1))
    go_ret
    exact ⟨ret_code (by rw [E.out]; simp [r1, GrI.code]), (((Below.refl _ _).alloc (Nat.le_refl _) _).alloc (by simp) _)⟩
  | true =>
    cases r2 : GrI.regB true n with
    | false =>
      go_enter Tryz.func86, Tryz.ntmps86
      go_wp2_with (first | (go_at_call 124; refine (register_any _ _ _).mono ?_; rintro e w1 ⟨rfl, rfl⟩) | (go_at_call 125; refine (NM.out _ _ _ _ _ _ _ _).mono ?_; rintro e w1 ⟨rfl, d1⟩; obtain ⟨x1, rfl⟩ := Wb.start d1; clear d1) | (go_at_call 126; refine (kind_c _ _ _ _ _ _ _ _ _ _ _ _ _ _ _ _ (by decide) (by decide) (by decide)).mono ?_; rintro e w1 ⟨rfl, d1⟩; obtain ⟨x2, rfl⟩ := Wb.next d1; clear d1))
      go_ret
      exact ⟨ret_code (by rw [E.out]; simp [r1, r2, GrI.code]), (((Below.refl _ _).alloc (Nat.le_refl _) _).alloc (by simp) _)⟩
    | true =>
      cases r3 : GrI.regB true m with
      | false =>
        go_enter Tryz.func86, Tryz.ntmps86
        go_wp2_with (first | (go_at_call 124; refine (register_any _ _ _).mono ?_; rintro e w1 ⟨rfl, rfl⟩) | (go_at_call 125; refine (NM.out _ _ _ _ _ _ _ _).mono ?_; rintro e w1 ⟨rfl, d1⟩; obtain ⟨x1, rfl⟩ := Wb.start d1; clear d1) | (go_at_call 126; refine (kind_c _ _ _ _ _ _ _ _ _ _ _ _ _ _ _ _ (by decide) (by decide) (by decide)).mono ?_; rintro e w1 ⟨rfl, d1⟩; obtain ⟨x2, rfl⟩ := Wb.next d1; clear d1))
        go_ret
        exact ⟨ret_code (by rw [E.out]; simp [r1, r2, r3, GrI.code]), (((Below.refl _ _).alloc (Nat.le_refl _) _).alloc (by simp) _)⟩
      | true =>
        cases r4 : GrI.numB 0 0 imm with
        | false =>
          go_enter Tryz.func86, Tryz.ntmps86
          go_wp2_with (first | (go_at_call 124; refine (register_any _ _ _).mono ?_; rintro e w1 ⟨rfl, rfl⟩) | (go_at_call 125; refine (NM.out _ _ _ _ _ _ _ _).mono ?_; rintro e w1 ⟨rfl, d1⟩; obtain ⟨x1, rfl⟩ := Wb.start d1; clear d1) | (go_at_call 126; refine (kind_c _ _ _ _ _ _ _ _ _ _ _ _ _ _ _ _ (by decide) (by decide) (by decide)).mono ?_; rintro e w1 ⟨rfl, d1⟩; obtain ⟨x2, rfl⟩ := Wb.next d1; clear d1))
          go_ret
          exact ⟨ret_code (by rw [E.out]; simp [r1, r2, r3, r4, GrI.code]), KB.out x1⟩
        | true =>
          cases r5 : GrI.kindB 11 d kind 0 with
          | false =>
            go_enter Tryz.func86, Tryz.ntmps86
            go_wp2_with (first | (go_at_call 124; refine (register_any _ _ _).mono ?_; rintro e w1 ⟨rfl, rfl⟩) | (go_at_call 125; refine (NM.out _ _ _ _ _ _ _ _).mono ?_; rintro e w1 ⟨rfl, d1⟩; obtain ⟨x1, rfl⟩ := Wb.start d1; clear d1) | (go_at_call 126; refine (kind_c _ _ _ _ _ _ _ _ _ _ _ _ _ _ _ _ (by decide) (by decide) (by decide)).mono ?_; rintro e w1 ⟨rfl, d1⟩; obtain ⟨x2, rfl⟩ := Wb.next d1; clear d1))
            go_ret
            exact ⟨ret_code (by rw [E.out]; simp [r1, r2, r3, r4, r5, GrI.code]), KB.out x2⟩
          | true =>
            go_enter Tryz.func86, Tryz.ntmps86
            go_wp2_with (first | (go_at_call 124; refine (register_any _ _ _).mono ?_; rintro e w1 ⟨rfl, rfl⟩) | (go_at_call 125; refine (NM.out _ _ _ _ _ _ _ _).mono ?_; rintro e w1 ⟨rfl, d1⟩; obtain ⟨x1, rfl⟩ := Wb.start d1; clear d1) | (go_at_call 126; refine (kind_c _ _ _ _ _ _ _ _ _ _ _ _ _ _ _ _ (by decide) (by decide) (by decide)).mono ?_; rintro e w1 ⟨rfl, d1⟩; obtain ⟨x2, rfl⟩ := Wb.next d1; clear d1))
            go_ret
            exact ⟨ret_code (by rw [E.out]; simp [r1, r2, r3, r4, r5, GrI.code]), KB.out x2⟩
theorem xright_eq_12 (d n m imm kind : Int) : decide (GrI.right ⟨12, d, n, m, imm, kind⟩) = (GrI.regB true d && (GrI.regB true n && (GrI.regB true m && (GrI.numB 0 0 imm && GrI.kindB 12 d kind 0)))) := by
  rw [Bool.eq_iff_iff]
  simp [GrI.right, GrI.parts, GrI.nums, GrI.regB, GrI.numB, GrI.kindB]
  try omega
set_option maxRecDepth 100000 in
set_option maxHeartbeats 6400000 in
theorem xright_12 (d n m imm kind : Int) (w : World) (hs : ShAt w) (hb0 : -9223372036854775808 ≤ imm) (hb1 : imm ≤ 9223372036854775807) :
    Calls Tryz.prog 86 #[.agg #[.int .i64 12, .int .i64 d, .int .i64 n, .int .i64 m, .int .i64 imm, .int .i64 kind]] w fun e w' => e = .returned (.int .i64 (GrI.code (decide (GrI.right ⟨12, d, n, m, imm, kind⟩)))) ∧ Below w.heap.size w w' := by
  have E := Lib.hid (xright_eq_12 d n m imm kind)
  have NM := Lib.hid (fun wd d n m a k ka w => number_0_0 wd d n m a k ka imm w hb0 hb1)
  obtain ⟨e0, e1, e2, e3, e4, e5, e6, e7, e8⟩ := shape9 (hs.alloc (.cells #[.int .i64 12, .int .i64 d, .int .i64 n, .int .i64 m, .int .i64 imm, .int .i64 kind] 84)) 108 109 110 111 112 113 114 115 116 (.int .u32 3388997632) (.bool true) (.bool true) (.bool true) (.int .i64 0) (.int .i64 0) (.int .i64 0) (.int .i64 0) (.int .i64 0) (by decide) ⟨rfl, rfl, rfl, rfl, rfl, rfl, rfl, rfl, rfl⟩
  obtain ⟨a0, a1, a2, a3, a4, a5⟩ := six_new w (.int .i64 12) (.int .i64 d) (.int .i64 n) (.int .i64 m) (.int .i64 imm) (.int .i64 kind) 84 (.cells #[.int .u32 3388997632, .bool true, .bool true, .bool true, .int .i64 0, .int .i64 0, .int .i64 0, .int .i64 0, .int .i64 0] 177)
  obtain ⟨b0, b1, b2, b3, b4, b5, b6, b7, b8⟩ := nine_new (w.alloc (.cells #[.int .i64 12, .int .i64 d, .int .i64 n, .int .i64 m, .int .i64 imm, .int .i64 kind] 84)) (.int .u32 3388997632) (.bool true) (.bool true) (.bool true) (.int .i64 0) (.int .i64 0) (.int .i64 0) (.int .i64 0) (.int .i64 0) 177 (w.heap.size + 1) (by simp)
  have KB := Lib.hid (fun (x : Wb ((w.alloc (.cells #[.int .i64 12, .int .i64 d, .int .i64 n, .int .i64 m, .int .i64 imm, .int .i64 kind] 84)).alloc (.cells #[.int .u32 3388997632, .bool true, .bool true, .bool true, .int .i64 0, .int .i64 0, .int .i64 0, .int .i64 0, .int .i64 0] 177))) => ((((Below.refl _ _).alloc (Nat.le_refl _) _).alloc (by simp) _).trans (x.bel.mono (by simp; omega)) : Below w.heap.size w x.at))
  clear hb0 hb1 hs
  cases r1 : GrI.regB true d with
  | false =>
    go_enter Tryz.func86, Tryz.ntmps86
    go_wp2_with (first | (go_at_call 124; refine (register_any _ _ _).mono ?_; rintro e w1 ⟨rfl, rfl⟩) | (go_at_call 125; refine (NM.out _ _ _ _ _ _ _ _).mono ?_; rintro e w1 ⟨rfl, d1⟩; obtain ⟨x1, rfl⟩ := Wb.start d1; clear d1) | (go_at_call 126; refine (kind_c _ _ _ _ _ _ _ _ _ _ _ _ _ _ _ _ (by decide) (by decide) (by decide)).mono ?_; rintro e w1 ⟨rfl, d1⟩; obtain ⟨x2, rfl⟩ := Wb.next d1; clear d1))
    go_ret
    exact ⟨ret_code (by rw [E.out]; simp [r1, GrI.code]), (((Below.refl _ _).alloc (Nat.le_refl _) _).alloc (by simp) _)⟩
  | true =>
    cases r2 : GrI.regB true n with
    | false =>
      go_enter Tryz.func86, Tryz.ntmps86
      go_wp2_with (first | (go_at_call 124; refine (register_any _ _ _).mono ?_; rintro e w1 ⟨rfl, rfl⟩) | (go_at_call 125; refine (NM.out _ _ _ _ _ _ _ _).mono ?_; rintro e w1 ⟨rfl, d1⟩; obtain ⟨x1, rfl⟩ := Wb.start d1; clear d1) | (go_at_call 126; refine (kind_c _ _ _ _ _ _ _ _ _ _ _ _ _ _ _ _ (by decide) (by decide) (by decide)).mono ?_; rintro e w1 ⟨rfl, d1⟩; obtain ⟨x2, rfl⟩ := Wb.next d1; clear d1))
      go_ret
      exact ⟨ret_code (by rw [E.out]; simp [r1, r2, GrI.code]), (((Below.refl _ _).alloc (Nat.le_refl _) _).alloc (by simp) _)⟩
    | true =>
      cases r3 : GrI.regB true m with
      | false =>
        go_enter Tryz.func86, Tryz.ntmps86
        go_wp2_with (first | (go_at_call 124; refine (register_any _ _ _).mono ?_; rintro e w1 ⟨rfl, rfl⟩) | (go_at_call 125; refine (NM.out _ _ _ _ _ _ _ _).mono ?_; rintro e w1 ⟨rfl, d1⟩; obtain ⟨x1, rfl⟩ := Wb.start d1; clear d1) | (go_at_call 126; refine (kind_c _ _ _ _ _ _ _ _ _ _ _ _ _ _ _ _ (by decide) (by decide) (by decide)).mono ?_; rintro e w1 ⟨rfl, d1⟩; obtain ⟨x2, rfl⟩ := Wb.next d1; clear d1))
        go_ret
        exact ⟨ret_code (by rw [E.out]; simp [r1, r2, r3, GrI.code]), (((Below.refl _ _).alloc (Nat.le_refl _) _).alloc (by simp) _)⟩
      | true =>
        cases r4 : GrI.numB 0 0 imm with
        | false =>
          go_enter Tryz.func86, Tryz.ntmps86
          go_wp2_with (first | (go_at_call 124; refine (register_any _ _ _).mono ?_; rintro e w1 ⟨rfl, rfl⟩) | (go_at_call 125; refine (NM.out _ _ _ _ _ _ _ _).mono ?_; rintro e w1 ⟨rfl, d1⟩; obtain ⟨x1, rfl⟩ := Wb.start d1; clear d1) | (go_at_call 126; refine (kind_c _ _ _ _ _ _ _ _ _ _ _ _ _ _ _ _ (by decide) (by decide) (by decide)).mono ?_; rintro e w1 ⟨rfl, d1⟩; obtain ⟨x2, rfl⟩ := Wb.next d1; clear d1))
          go_ret
          exact ⟨ret_code (by rw [E.out]; simp [r1, r2, r3, r4, GrI.code]), KB.out x1⟩
        | true =>
          cases r5 : GrI.kindB 12 d kind 0 with
          | false =>
            go_enter Tryz.func86, Tryz.ntmps86
            go_wp2_with (first | (go_at_call 124; refine (register_any _ _ _).mono ?_; rintro e w1 ⟨rfl, rfl⟩) | (go_at_call 125; refine (NM.out _ _ _ _ _ _ _ _).mono ?_; rintro e w1 ⟨rfl, d1⟩; obtain ⟨x1, rfl⟩ := Wb.start d1; clear d1) | (go_at_call 126; refine (kind_c _ _ _ _ _ _ _ _ _ _ _ _ _ _ _ _ (by decide) (by decide) (by decide)).mono ?_; rintro e w1 ⟨rfl, d1⟩; obtain ⟨x2, rfl⟩ := Wb.next d1; clear d1))
            go_ret
            exact ⟨ret_code (by rw [E.out]; simp [r1, r2, r3, r4, r5, GrI.code]), KB.out x2⟩
          | true =>
            go_enter Tryz.func86, Tryz.ntmps86
            go_wp2_with (first | (go_at_call 124; refine (register_any _ _ _).mono ?_; rintro e w1 ⟨rfl, rfl⟩) | (go_at_call 125; refine (NM.out _ _ _ _ _ _ _ _).mono ?_; rintro e w1 ⟨rfl, d1⟩; obtain ⟨x1, rfl⟩ := Wb.start d1; clear d1) | (go_at_call 126; refine (kind_c _ _ _ _ _ _ _ _ _ _ _ _ _ _ _ _ (by decide) (by decide) (by decide)).mono ?_; rintro e w1 ⟨rfl, d1⟩; obtain ⟨x2, rfl⟩ := Wb.next d1; clear d1))
            go_ret
            exact ⟨ret_code (by rw [E.out]; simp [r1, r2, r3, r4, r5, GrI.code]), KB.out x2⟩
end Go.Proofs.YtlflknfkenfpiaaGreatDoor
