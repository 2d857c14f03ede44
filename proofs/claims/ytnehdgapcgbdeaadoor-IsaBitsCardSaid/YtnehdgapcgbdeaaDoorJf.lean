/-
  Layer 3, the code's walks: Right, operations 13 to 18.
-/
import Derived.Test.YtnehdgapcgbdeaaDoorJc
set_option linter.unusedSimpArgs false
set_option linter.unusedVariables false
namespace Go.Proofs.YtnehdgapcgbdeaaDoor
open Go.RowKit

theorem xright_eq_13 (d n m imm kind : Int) : decide (GrI.right ⟨13, d, n, m, imm, kind⟩) = (GrI.regB true d && (GrI.regB true n && (GrI.regB true m && (GrI.numB 0 0 imm && GrI.kindB 13 d kind 0)))) := by
  rw [Bool.eq_iff_iff]
  simp [GrI.right, GrI.parts, GrI.nums, GrI.regB, GrI.numB, GrI.kindB]
  try omega

set_option maxRecDepth 100000 in
set_option maxHeartbeats 6400000 in
theorem xright_13 (d n m imm kind : Int) (w : World) (hs : ShAt w) (hb0 : -9223372036854775808 ≤ imm) (hb1 : imm ≤ 9223372036854775807) :
    Calls Tryd.prog 12 #[.agg #[.int .i64 13, .int .i64 d, .int .i64 n, .int .i64 m, .int .i64 imm, .int .i64 kind]] w fun e w' => e = .returned (.int .i64 (GrI.code (decide (GrI.right ⟨13, d, n, m, imm, kind⟩)))) ∧ Below w.heap.size w w' := by
  have E := Lib.hid (xright_eq_13 d n m imm kind)
  have NM := Lib.hid (fun wd d n m a k ka w => number_0_0 wd d n m a k ka imm w hb0 hb1)
  have e0 : (w.alloc (.cells #[.int .i64 13, .int .i64 d, .int .i64 n, .int .i64 m, .int .i64 imm, .int .i64 kind] 23)).cell? ⟨0, 117, none⟩ = some (.int .u32 3942645760) := hs.alloc _ 117 (by decide)
  have e1 : (w.alloc (.cells #[.int .i64 13, .int .i64 d, .int .i64 n, .int .i64 m, .int .i64 imm, .int .i64 kind] 23)).cell? ⟨0, 118, none⟩ = some (.bool true) := hs.alloc _ 118 (by decide)
  have e2 : (w.alloc (.cells #[.int .i64 13, .int .i64 d, .int .i64 n, .int .i64 m, .int .i64 imm, .int .i64 kind] 23)).cell? ⟨0, 119, none⟩ = some (.bool true) := hs.alloc _ 119 (by decide)
  have e3 : (w.alloc (.cells #[.int .i64 13, .int .i64 d, .int .i64 n, .int .i64 m, .int .i64 imm, .int .i64 kind] 23)).cell? ⟨0, 120, none⟩ = some (.bool true) := hs.alloc _ 120 (by decide)
  have e4 : (w.alloc (.cells #[.int .i64 13, .int .i64 d, .int .i64 n, .int .i64 m, .int .i64 imm, .int .i64 kind] 23)).cell? ⟨0, 121, none⟩ = some (.int .i64 0) := hs.alloc _ 121 (by decide)
  have e5 : (w.alloc (.cells #[.int .i64 13, .int .i64 d, .int .i64 n, .int .i64 m, .int .i64 imm, .int .i64 kind] 23)).cell? ⟨0, 122, none⟩ = some (.int .i64 0) := hs.alloc _ 122 (by decide)
  have e6 : (w.alloc (.cells #[.int .i64 13, .int .i64 d, .int .i64 n, .int .i64 m, .int .i64 imm, .int .i64 kind] 23)).cell? ⟨0, 123, none⟩ = some (.int .i64 0) := hs.alloc _ 123 (by decide)
  have e7 : (w.alloc (.cells #[.int .i64 13, .int .i64 d, .int .i64 n, .int .i64 m, .int .i64 imm, .int .i64 kind] 23)).cell? ⟨0, 124, none⟩ = some (.int .i64 0) := hs.alloc _ 124 (by decide)
  have e8 : (w.alloc (.cells #[.int .i64 13, .int .i64 d, .int .i64 n, .int .i64 m, .int .i64 imm, .int .i64 kind] 23)).cell? ⟨0, 125, none⟩ = some (.int .i64 0) := hs.alloc _ 125 (by decide)
  have a0 : ∀ x : Wb ((w.alloc (.cells #[.int .i64 13, .int .i64 d, .int .i64 n, .int .i64 m, .int .i64 imm, .int .i64 kind] 23)).alloc (.cells #[.int .u32 3942645760, .bool true, .bool true, .bool true, .int .i64 0, .int .i64 0, .int .i64 0, .int .i64 0, .int .i64 0] 40)), x.at.cell? ⟨w.heap.size, 0, none⟩ = some (.int .i64 13) := fun x => by rw [x.cell _ (by simp; omega)]; simp [World.cell?_alloc_new]
  have a1 : ∀ x : Wb ((w.alloc (.cells #[.int .i64 13, .int .i64 d, .int .i64 n, .int .i64 m, .int .i64 imm, .int .i64 kind] 23)).alloc (.cells #[.int .u32 3942645760, .bool true, .bool true, .bool true, .int .i64 0, .int .i64 0, .int .i64 0, .int .i64 0, .int .i64 0] 40)), x.at.cell? ⟨w.heap.size, 1, none⟩ = some (.int .i64 d) := fun x => by rw [x.cell _ (by simp; omega)]; simp [World.cell?_alloc_new]
  have a2 : ∀ x : Wb ((w.alloc (.cells #[.int .i64 13, .int .i64 d, .int .i64 n, .int .i64 m, .int .i64 imm, .int .i64 kind] 23)).alloc (.cells #[.int .u32 3942645760, .bool true, .bool true, .bool true, .int .i64 0, .int .i64 0, .int .i64 0, .int .i64 0, .int .i64 0] 40)), x.at.cell? ⟨w.heap.size, 2, none⟩ = some (.int .i64 n) := fun x => by rw [x.cell _ (by simp; omega)]; simp [World.cell?_alloc_new]
  have a3 : ∀ x : Wb ((w.alloc (.cells #[.int .i64 13, .int .i64 d, .int .i64 n, .int .i64 m, .int .i64 imm, .int .i64 kind] 23)).alloc (.cells #[.int .u32 3942645760, .bool true, .bool true, .bool true, .int .i64 0, .int .i64 0, .int .i64 0, .int .i64 0, .int .i64 0] 40)), x.at.cell? ⟨w.heap.size, 3, none⟩ = some (.int .i64 m) := fun x => by rw [x.cell _ (by simp; omega)]; simp [World.cell?_alloc_new]
  have a4 : ∀ x : Wb ((w.alloc (.cells #[.int .i64 13, .int .i64 d, .int .i64 n, .int .i64 m, .int .i64 imm, .int .i64 kind] 23)).alloc (.cells #[.int .u32 3942645760, .bool true, .bool true, .bool true, .int .i64 0, .int .i64 0, .int .i64 0, .int .i64 0, .int .i64 0] 40)), x.at.cell? ⟨w.heap.size, 4, none⟩ = some (.int .i64 imm) := fun x => by rw [x.cell _ (by simp; omega)]; simp [World.cell?_alloc_new]
  have a5 : ∀ x : Wb ((w.alloc (.cells #[.int .i64 13, .int .i64 d, .int .i64 n, .int .i64 m, .int .i64 imm, .int .i64 kind] 23)).alloc (.cells #[.int .u32 3942645760, .bool true, .bool true, .bool true, .int .i64 0, .int .i64 0, .int .i64 0, .int .i64 0, .int .i64 0] 40)), x.at.cell? ⟨w.heap.size, 5, none⟩ = some (.int .i64 kind) := fun x => by rw [x.cell _ (by simp; omega)]; simp [World.cell?_alloc_new]
  have b0 : ∀ x : Wb ((w.alloc (.cells #[.int .i64 13, .int .i64 d, .int .i64 n, .int .i64 m, .int .i64 imm, .int .i64 kind] 23)).alloc (.cells #[.int .u32 3942645760, .bool true, .bool true, .bool true, .int .i64 0, .int .i64 0, .int .i64 0, .int .i64 0, .int .i64 0] 40)), x.at.cell? ⟨w.heap.size + 1, 0, none⟩ = some (.int .u32 3942645760) := fun x => by rw [x.cell _ (by simp)]; simp [World.cell?_alloc_new]
  have b1 : ∀ x : Wb ((w.alloc (.cells #[.int .i64 13, .int .i64 d, .int .i64 n, .int .i64 m, .int .i64 imm, .int .i64 kind] 23)).alloc (.cells #[.int .u32 3942645760, .bool true, .bool true, .bool true, .int .i64 0, .int .i64 0, .int .i64 0, .int .i64 0, .int .i64 0] 40)), x.at.cell? ⟨w.heap.size + 1, 1, none⟩ = some (.bool true) := fun x => by rw [x.cell _ (by simp)]; simp [World.cell?_alloc_new]
  have b2 : ∀ x : Wb ((w.alloc (.cells #[.int .i64 13, .int .i64 d, .int .i64 n, .int .i64 m, .int .i64 imm, .int .i64 kind] 23)).alloc (.cells #[.int .u32 3942645760, .bool true, .bool true, .bool true, .int .i64 0, .int .i64 0, .int .i64 0, .int .i64 0, .int .i64 0] 40)), x.at.cell? ⟨w.heap.size + 1, 2, none⟩ = some (.bool true) := fun x => by rw [x.cell _ (by simp)]; simp [World.cell?_alloc_new]
  have b3 : ∀ x : Wb ((w.alloc (.cells #[.int .i64 13, .int .i64 d, .int .i64 n, .int .i64 m, .int .i64 imm, .int .i64 kind] 23)).alloc (.cells #[.int .u32 3942645760, .bool true, .bool true, .bool true, .int .i64 0, .int .i64 0, .int .i64 0, .int .i64 0, .int .i64 0] 40)), x.at.cell? ⟨w.heap.size + 1, 3, none⟩ = some (.bool true) := fun x => by rw [x.cell _ (by simp)]; simp [World.cell?_alloc_new]
  have b4 : ∀ x : Wb ((w.alloc (.cells #[.int .i64 13, .int .i64 d, .int .i64 n, .int .i64 m, .int .i64 imm, .int .i64 kind] 23)).alloc (.cells #[.int .u32 3942645760, .bool true, .bool true, .bool true, .int .i64 0, .int .i64 0, .int .i64 0, .int .i64 0, .int .i64 0] 40)), x.at.cell? ⟨w.heap.size + 1, 4, none⟩ = some (.int .i64 0) := fun x => by rw [x.cell _ (by simp)]; simp [World.cell?_alloc_new]
  have b5 : ∀ x : Wb ((w.alloc (.cells #[.int .i64 13, .int .i64 d, .int .i64 n, .int .i64 m, .int .i64 imm, .int .i64 kind] 23)).alloc (.cells #[.int .u32 3942645760, .bool true, .bool true, .bool true, .int .i64 0, .int .i64 0, .int .i64 0, .int .i64 0, .int .i64 0] 40)), x.at.cell? ⟨w.heap.size + 1, 5, none⟩ = some (.int .i64 0) := fun x => by rw [x.cell _ (by simp)]; simp [World.cell?_alloc_new]
  have b6 : ∀ x : Wb ((w.alloc (.cells #[.int .i64 13, .int .i64 d, .int .i64 n, .int .i64 m, .int .i64 imm, .int .i64 kind] 23)).alloc (.cells #[.int .u32 3942645760, .bool true, .bool true, .bool true, .int .i64 0, .int .i64 0, .int .i64 0, .int .i64 0, .int .i64 0] 40)), x.at.cell? ⟨w.heap.size + 1, 6, none⟩ = some (.int .i64 0) := fun x => by rw [x.cell _ (by simp)]; simp [World.cell?_alloc_new]
  have b7 : ∀ x : Wb ((w.alloc (.cells #[.int .i64 13, .int .i64 d, .int .i64 n, .int .i64 m, .int .i64 imm, .int .i64 kind] 23)).alloc (.cells #[.int .u32 3942645760, .bool true, .bool true, .bool true, .int .i64 0, .int .i64 0, .int .i64 0, .int .i64 0, .int .i64 0] 40)), x.at.cell? ⟨w.heap.size + 1, 7, none⟩ = some (.int .i64 0) := fun x => by rw [x.cell _ (by simp)]; simp [World.cell?_alloc_new]
  have b8 : ∀ x : Wb ((w.alloc (.cells #[.int .i64 13, .int .i64 d, .int .i64 n, .int .i64 m, .int .i64 imm, .int .i64 kind] 23)).alloc (.cells #[.int .u32 3942645760, .bool true, .bool true, .bool true, .int .i64 0, .int .i64 0, .int .i64 0, .int .i64 0, .int .i64 0] 40)), x.at.cell? ⟨w.heap.size + 1, 8, none⟩ = some (.int .i64 0) := fun x => by rw [x.cell _ (by simp)]; simp [World.cell?_alloc_new]
  have KB := Lib.hid (fun (x : Wb ((w.alloc (.cells #[.int .i64 13, .int .i64 d, .int .i64 n, .int .i64 m, .int .i64 imm, .int .i64 kind] 23)).alloc (.cells #[.int .u32 3942645760, .bool true, .bool true, .bool true, .int .i64 0, .int .i64 0, .int .i64 0, .int .i64 0, .int .i64 0] 40))) => ((((Below.refl _ _).alloc (Nat.le_refl _) _).alloc (by simp) _).trans (x.bel.mono (by simp; omega)) : Below w.heap.size w x.at))
  clear hb0 hb1 hs
  cases r1 : GrI.regB true d with
  | false =>
    go_enter Tryd.func12, Tryd.ntmps12
    go_wp2_with (first | (go_at_call 22; refine (register_any _ _ _).mono ?_; rintro e w1 ⟨rfl, rfl⟩) | (go_at_call 23; refine (NM.out _ _ _ _ _ _ _ _).mono ?_; rintro e w1 ⟨rfl, d1⟩; obtain ⟨x1, rfl⟩ := Wb.start d1; clear d1) | (go_at_call 24; refine (kind_c _ _ _ _ _ _ _ _ _ _ _ _ _ _ _ _ (by decide) (by decide) (by decide)).mono ?_; rintro e w1 ⟨rfl, d1⟩; obtain ⟨x2, rfl⟩ := Wb.next d1; clear d1))
    go_ret
    exact ⟨ret_code (by rw [E.out]; simp [r1, GrI.code]), (((Below.refl _ _).alloc (Nat.le_refl _) _).alloc (by simp) _)⟩
  | true =>
    cases r2 : GrI.regB true n with
    | false =>
      go_enter Tryd.func12, Tryd.ntmps12
      go_wp2_with (first | (go_at_call 22; refine (register_any _ _ _).mono ?_; rintro e w1 ⟨rfl, rfl⟩) | (go_at_call 23; refine (NM.out _ _ _ _ _ _ _ _).mono ?_; rintro e w1 ⟨rfl, d1⟩; obtain ⟨x1, rfl⟩ := Wb.start d1; clear d1) | (go_at_call 24; refine (kind_c _ _ _ _ _ _ _ _ _ _ _ _ _ _ _ _ (by decide) (by decide) (by decide)).mono ?_; rintro e w1 ⟨rfl, d1⟩; obtain ⟨x2, rfl⟩ := Wb.next d1; clear d1))
      go_ret
      exact ⟨ret_code (by rw [E.out]; simp [r1, r2, GrI.code]), (((Below.refl _ _).alloc (Nat.le_refl _) _).alloc (by simp) _)⟩
    | true =>
      cases r3 : GrI.regB true m with
      | false =>
        go_enter Tryd.func12, Tryd.ntmps12
        go_wp2_with (first | (go_at_call 22; refine (register_any _ _ _).mono ?_; rintro e w1 ⟨rfl, rfl⟩) | (go_at_call 23; refine (NM.out _ _ _ _ _ _ _ _).mono ?_; rintro e w1 ⟨rfl, d1⟩; obtain ⟨x1, rfl⟩ := Wb.start d1; clear d1) | (go_at_call 24; refine (kind_c _ _ _ _ _ _ _ _ _ _ _ _ _ _ _ _ (by decide) (by decide) (by decide)).mono ?_; rintro e w1 ⟨rfl, d1⟩; obtain ⟨x2, rfl⟩ := Wb.next d1; clear d1))
        go_ret
        exact ⟨ret_code (by rw [E.out]; simp [r1, r2, r3, GrI.code]), (((Below.refl _ _).alloc (Nat.le_refl _) _).alloc (by simp) _)⟩
      | true =>
        cases r4 : GrI.numB 0 0 imm with
        | false =>
          go_enter Tryd.func12, Tryd.ntmps12
          go_wp2_with (first | (go_at_call 22; refine (register_any _ _ _).mono ?_; rintro e w1 ⟨rfl, rfl⟩) | (go_at_call 23; refine (NM.out _ _ _ _ _ _ _ _).mono ?_; rintro e w1 ⟨rfl, d1⟩; obtain ⟨x1, rfl⟩ := Wb.start d1; clear d1) | (go_at_call 24; refine (kind_c _ _ _ _ _ _ _ _ _ _ _ _ _ _ _ _ (by decide) (by decide) (by decide)).mono ?_; rintro e w1 ⟨rfl, d1⟩; obtain ⟨x2, rfl⟩ := Wb.next d1; clear d1))
          go_ret
          exact ⟨ret_code (by rw [E.out]; simp [r1, r2, r3, r4, GrI.code]), KB.out x1⟩
        | true =>
          cases r5 : GrI.kindB 13 d kind 0 with
          | false =>
            go_enter Tryd.func12, Tryd.ntmps12
            go_wp2_with (first | (go_at_call 22; refine (register_any _ _ _).mono ?_; rintro e w1 ⟨rfl, rfl⟩) | (go_at_call 23; refine (NM.out _ _ _ _ _ _ _ _).mono ?_; rintro e w1 ⟨rfl, d1⟩; obtain ⟨x1, rfl⟩ := Wb.start d1; clear d1) | (go_at_call 24; refine (kind_c _ _ _ _ _ _ _ _ _ _ _ _ _ _ _ _ (by decide) (by decide) (by decide)).mono ?_; rintro e w1 ⟨rfl, d1⟩; obtain ⟨x2, rfl⟩ := Wb.next d1; clear d1))
            go_ret
            exact ⟨ret_code (by rw [E.out]; simp [r1, r2, r3, r4, r5, GrI.code]), KB.out x2⟩
          | true =>
            go_enter Tryd.func12, Tryd.ntmps12
            go_wp2_with (first | (go_at_call 22; refine (register_any _ _ _).mono ?_; rintro e w1 ⟨rfl, rfl⟩) | (go_at_call 23; refine (NM.out _ _ _ _ _ _ _ _).mono ?_; rintro e w1 ⟨rfl, d1⟩; obtain ⟨x1, rfl⟩ := Wb.start d1; clear d1) | (go_at_call 24; refine (kind_c _ _ _ _ _ _ _ _ _ _ _ _ _ _ _ _ (by decide) (by decide) (by decide)).mono ?_; rintro e w1 ⟨rfl, d1⟩; obtain ⟨x2, rfl⟩ := Wb.next d1; clear d1))
            go_ret
            exact ⟨ret_code (by rw [E.out]; simp [r1, r2, r3, r4, r5, GrI.code]), KB.out x2⟩

theorem xright_eq_14 (d n m imm kind : Int) : decide (GrI.right ⟨14, d, n, m, imm, kind⟩) = (GrI.regB false d && (GrI.regB false n && (GrI.regB false m && (GrI.numB (-26) 1 imm && GrI.kindB 14 d kind 0)))) := by
  rw [Bool.eq_iff_iff]
  have hf := fits_26 imm
  simp [GrI.right, GrI.parts, GrI.nums, GrI.regB, GrI.numB, GrI.kindB, hf]
  try omega

set_option maxRecDepth 100000 in
set_option maxHeartbeats 6400000 in
theorem xright_14 (d n m imm kind : Int) (w : World) (hs : ShAt w) (hb0 : -9223372036854775808 ≤ imm) (hb1 : imm ≤ 9223372036854775807) :
    Calls Tryd.prog 12 #[.agg #[.int .i64 14, .int .i64 d, .int .i64 n, .int .i64 m, .int .i64 imm, .int .i64 kind]] w fun e w' => e = .returned (.int .i64 (GrI.code (decide (GrI.right ⟨14, d, n, m, imm, kind⟩)))) ∧ Below w.heap.size w w' := by
  have E := Lib.hid (xright_eq_14 d n m imm kind)
  have NM := Lib.hid (fun wd d n m a k ka w => number_n26_1 wd d n m a k ka imm w hb0 hb1)
  have e0 : (w.alloc (.cells #[.int .i64 14, .int .i64 d, .int .i64 n, .int .i64 m, .int .i64 imm, .int .i64 kind] 23)).cell? ⟨0, 126, none⟩ = some (.int .u32 335544320) := hs.alloc _ 126 (by decide)
  have e1 : (w.alloc (.cells #[.int .i64 14, .int .i64 d, .int .i64 n, .int .i64 m, .int .i64 imm, .int .i64 kind] 23)).cell? ⟨0, 127, none⟩ = some (.bool false) := hs.alloc _ 127 (by decide)
  have e2 : (w.alloc (.cells #[.int .i64 14, .int .i64 d, .int .i64 n, .int .i64 m, .int .i64 imm, .int .i64 kind] 23)).cell? ⟨0, 128, none⟩ = some (.bool false) := hs.alloc _ 128 (by decide)
  have e3 : (w.alloc (.cells #[.int .i64 14, .int .i64 d, .int .i64 n, .int .i64 m, .int .i64 imm, .int .i64 kind] 23)).cell? ⟨0, 129, none⟩ = some (.bool false) := hs.alloc _ 129 (by decide)
  have e4 : (w.alloc (.cells #[.int .i64 14, .int .i64 d, .int .i64 n, .int .i64 m, .int .i64 imm, .int .i64 kind] 23)).cell? ⟨0, 130, none⟩ = some (.int .i64 (-26)) := hs.alloc _ 130 (by decide)
  have e5 : (w.alloc (.cells #[.int .i64 14, .int .i64 d, .int .i64 n, .int .i64 m, .int .i64 imm, .int .i64 kind] 23)).cell? ⟨0, 131, none⟩ = some (.int .i64 0) := hs.alloc _ 131 (by decide)
  have e6 : (w.alloc (.cells #[.int .i64 14, .int .i64 d, .int .i64 n, .int .i64 m, .int .i64 imm, .int .i64 kind] 23)).cell? ⟨0, 132, none⟩ = some (.int .i64 1) := hs.alloc _ 132 (by decide)
  have e7 : (w.alloc (.cells #[.int .i64 14, .int .i64 d, .int .i64 n, .int .i64 m, .int .i64 imm, .int .i64 kind] 23)).cell? ⟨0, 133, none⟩ = some (.int .i64 0) := hs.alloc _ 133 (by decide)
  have e8 : (w.alloc (.cells #[.int .i64 14, .int .i64 d, .int .i64 n, .int .i64 m, .int .i64 imm, .int .i64 kind] 23)).cell? ⟨0, 134, none⟩ = some (.int .i64 0) := hs.alloc _ 134 (by decide)
  have a0 : ∀ x : Wb ((w.alloc (.cells #[.int .i64 14, .int .i64 d, .int .i64 n, .int .i64 m, .int .i64 imm, .int .i64 kind] 23)).alloc (.cells #[.int .u32 335544320, .bool false, .bool false, .bool false, .int .i64 (-26), .int .i64 0, .int .i64 1, .int .i64 0, .int .i64 0] 40)), x.at.cell? ⟨w.heap.size, 0, none⟩ = some (.int .i64 14) := fun x => by rw [x.cell _ (by simp; omega)]; simp [World.cell?_alloc_new]
  have a1 : ∀ x : Wb ((w.alloc (.cells #[.int .i64 14, .int .i64 d, .int .i64 n, .int .i64 m, .int .i64 imm, .int .i64 kind] 23)).alloc (.cells #[.int .u32 335544320, .bool false, .bool false, .bool false, .int .i64 (-26), .int .i64 0, .int .i64 1, .int .i64 0, .int .i64 0] 40)), x.at.cell? ⟨w.heap.size, 1, none⟩ = some (.int .i64 d) := fun x => by rw [x.cell _ (by simp; omega)]; simp [World.cell?_alloc_new]
  have a2 : ∀ x : Wb ((w.alloc (.cells #[.int .i64 14, .int .i64 d, .int .i64 n, .int .i64 m, .int .i64 imm, .int .i64 kind] 23)).alloc (.cells #[.int .u32 335544320, .bool false, .bool false, .bool false, .int .i64 (-26), .int .i64 0, .int .i64 1, .int .i64 0, .int .i64 0] 40)), x.at.cell? ⟨w.heap.size, 2, none⟩ = some (.int .i64 n) := fun x => by rw [x.cell _ (by simp; omega)]; simp [World.cell?_alloc_new]
  have a3 : ∀ x : Wb ((w.alloc (.cells #[.int .i64 14, .int .i64 d, .int .i64 n, .int .i64 m, .int .i64 imm, .int .i64 kind] 23)).alloc (.cells #[.int .u32 335544320, .bool false, .bool false, .bool false, .int .i64 (-26), .int .i64 0, .int .i64 1, .int .i64 0, .int .i64 0] 40)), x.at.cell? ⟨w.heap.size, 3, none⟩ = some (.int .i64 m) := fun x => by rw [x.cell _ (by simp; omega)]; simp [World.cell?_alloc_new]
  have a4 : ∀ x : Wb ((w.alloc (.cells #[.int .i64 14, .int .i64 d, .int .i64 n, .int .i64 m, .int .i64 imm, .int .i64 kind] 23)).alloc (.cells #[.int .u32 335544320, .bool false, .bool false, .bool false, .int .i64 (-26), .int .i64 0, .int .i64 1, .int .i64 0, .int .i64 0] 40)), x.at.cell? ⟨w.heap.size, 4, none⟩ = some (.int .i64 imm) := fun x => by rw [x.cell _ (by simp; omega)]; simp [World.cell?_alloc_new]
  have a5 : ∀ x : Wb ((w.alloc (.cells #[.int .i64 14, .int .i64 d, .int .i64 n, .int .i64 m, .int .i64 imm, .int .i64 kind] 23)).alloc (.cells #[.int .u32 335544320, .bool false, .bool false, .bool false, .int .i64 (-26), .int .i64 0, .int .i64 1, .int .i64 0, .int .i64 0] 40)), x.at.cell? ⟨w.heap.size, 5, none⟩ = some (.int .i64 kind) := fun x => by rw [x.cell _ (by simp; omega)]; simp [World.cell?_alloc_new]
  have b0 : ∀ x : Wb ((w.alloc (.cells #[.int .i64 14, .int .i64 d, .int .i64 n, .int .i64 m, .int .i64 imm, .int .i64 kind] 23)).alloc (.cells #[.int .u32 335544320, .bool false, .bool false, .bool false, .int .i64 (-26), .int .i64 0, .int .i64 1, .int .i64 0, .int .i64 0] 40)), x.at.cell? ⟨w.heap.size + 1, 0, none⟩ = some (.int .u32 335544320) := fun x => by rw [x.cell _ (by simp)]; simp [World.cell?_alloc_new]
  have b1 : ∀ x : Wb ((w.alloc (.cells #[.int .i64 14, .int .i64 d, .int .i64 n, .int .i64 m, .int .i64 imm, .int .i64 kind] 23)).alloc (.cells #[.int .u32 335544320, .bool false, .bool false, .bool false, .int .i64 (-26), .int .i64 0, .int .i64 1, .int .i64 0, .int .i64 0] 40)), x.at.cell? ⟨w.heap.size + 1, 1, none⟩ = some (.bool false) := fun x => by rw [x.cell _ (by simp)]; simp [World.cell?_alloc_new]
  have b2 : ∀ x : Wb ((w.alloc (.cells #[.int .i64 14, .int .i64 d, .int .i64 n, .int .i64 m, .int .i64 imm, .int .i64 kind] 23)).alloc (.cells #[.int .u32 335544320, .bool false, .bool false, .bool false, .int .i64 (-26), .int .i64 0, .int .i64 1, .int .i64 0, .int .i64 0] 40)), x.at.cell? ⟨w.heap.size + 1, 2, none⟩ = some (.bool false) := fun x => by rw [x.cell _ (by simp)]; simp [World.cell?_alloc_new]
  have b3 : ∀ x : Wb ((w.alloc (.cells #[.int .i64 14, .int .i64 d, .int .i64 n, .int .i64 m, .int .i64 imm, .int .i64 kind] 23)).alloc (.cells #[.int .u32 335544320, .bool false, .bool false, .bool false, .int .i64 (-26), .int .i64 0, .int .i64 1, .int .i64 0, .int .i64 0] 40)), x.at.cell? ⟨w.heap.size + 1, 3, none⟩ = some (.bool false) := fun x => by rw [x.cell _ (by simp)]; simp [World.cell?_alloc_new]
  have b4 : ∀ x : Wb ((w.alloc (.cells #[.int .i64 14, .int .i64 d, .int .i64 n, .int .i64 m, .int .i64 imm, .int .i64 kind] 23)).alloc (.cells #[.int .u32 335544320, .bool false, .bool false, .bool false, .int .i64 (-26), .int .i64 0, .int .i64 1, .int .i64 0, .int .i64 0] 40)), x.at.cell? ⟨w.heap.size + 1, 4, none⟩ = some (.int .i64 (-26)) := fun x => by rw [x.cell _ (by simp)]; simp [World.cell?_alloc_new]
  have b5 : ∀ x : Wb ((w.alloc (.cells #[.int .i64 14, .int .i64 d, .int .i64 n, .int .i64 m, .int .i64 imm, .int .i64 kind] 23)).alloc (.cells #[.int .u32 335544320, .bool false, .bool false, .bool false, .int .i64 (-26), .int .i64 0, .int .i64 1, .int .i64 0, .int .i64 0] 40)), x.at.cell? ⟨w.heap.size + 1, 5, none⟩ = some (.int .i64 0) := fun x => by rw [x.cell _ (by simp)]; simp [World.cell?_alloc_new]
  have b6 : ∀ x : Wb ((w.alloc (.cells #[.int .i64 14, .int .i64 d, .int .i64 n, .int .i64 m, .int .i64 imm, .int .i64 kind] 23)).alloc (.cells #[.int .u32 335544320, .bool false, .bool false, .bool false, .int .i64 (-26), .int .i64 0, .int .i64 1, .int .i64 0, .int .i64 0] 40)), x.at.cell? ⟨w.heap.size + 1, 6, none⟩ = some (.int .i64 1) := fun x => by rw [x.cell _ (by simp)]; simp [World.cell?_alloc_new]
  have b7 : ∀ x : Wb ((w.alloc (.cells #[.int .i64 14, .int .i64 d, .int .i64 n, .int .i64 m, .int .i64 imm, .int .i64 kind] 23)).alloc (.cells #[.int .u32 335544320, .bool false, .bool false, .bool false, .int .i64 (-26), .int .i64 0, .int .i64 1, .int .i64 0, .int .i64 0] 40)), x.at.cell? ⟨w.heap.size + 1, 7, none⟩ = some (.int .i64 0) := fun x => by rw [x.cell _ (by simp)]; simp [World.cell?_alloc_new]
  have b8 : ∀ x : Wb ((w.alloc (.cells #[.int .i64 14, .int .i64 d, .int .i64 n, .int .i64 m, .int .i64 imm, .int .i64 kind] 23)).alloc (.cells #[.int .u32 335544320, .bool false, .bool false, .bool false, .int .i64 (-26), .int .i64 0, .int .i64 1, .int .i64 0, .int .i64 0] 40)), x.at.cell? ⟨w.heap.size + 1, 8, none⟩ = some (.int .i64 0) := fun x => by rw [x.cell _ (by simp)]; simp [World.cell?_alloc_new]
  have KB := Lib.hid (fun (x : Wb ((w.alloc (.cells #[.int .i64 14, .int .i64 d, .int .i64 n, .int .i64 m, .int .i64 imm, .int .i64 kind] 23)).alloc (.cells #[.int .u32 335544320, .bool false, .bool false, .bool false, .int .i64 (-26), .int .i64 0, .int .i64 1, .int .i64 0, .int .i64 0] 40))) => ((((Below.refl _ _).alloc (Nat.le_refl _) _).alloc (by simp) _).trans (x.bel.mono (by simp; omega)) : Below w.heap.size w x.at))
  clear hb0 hb1 hs
  cases r1 : GrI.regB false d with
  | false =>
    go_enter Tryd.func12, Tryd.ntmps12
    go_wp2_with (first | (go_at_call 22; refine (register_any _ _ _).mono ?_; rintro e w1 ⟨rfl, rfl⟩) | (go_at_call 23; refine (NM.out _ _ _ _ _ _ _ _).mono ?_; rintro e w1 ⟨rfl, d1⟩; obtain ⟨x1, rfl⟩ := Wb.start d1; clear d1) | (go_at_call 24; refine (kind_c _ _ _ _ _ _ _ _ _ _ _ _ _ _ _ _ (by decide) (by decide) (by decide)).mono ?_; rintro e w1 ⟨rfl, d1⟩; obtain ⟨x2, rfl⟩ := Wb.next d1; clear d1))
    go_ret
    exact ⟨ret_code (by rw [E.out]; simp [r1, GrI.code]), (((Below.refl _ _).alloc (Nat.le_refl _) _).alloc (by simp) _)⟩
  | true =>
    cases r2 : GrI.regB false n with
    | false =>
      go_enter Tryd.func12, Tryd.ntmps12
      go_wp2_with (first | (go_at_call 22; refine (register_any _ _ _).mono ?_; rintro e w1 ⟨rfl, rfl⟩) | (go_at_call 23; refine (NM.out _ _ _ _ _ _ _ _).mono ?_; rintro e w1 ⟨rfl, d1⟩; obtain ⟨x1, rfl⟩ := Wb.start d1; clear d1) | (go_at_call 24; refine (kind_c _ _ _ _ _ _ _ _ _ _ _ _ _ _ _ _ (by decide) (by decide) (by decide)).mono ?_; rintro e w1 ⟨rfl, d1⟩; obtain ⟨x2, rfl⟩ := Wb.next d1; clear d1))
      go_ret
      exact ⟨ret_code (by rw [E.out]; simp [r1, r2, GrI.code]), (((Below.refl _ _).alloc (Nat.le_refl _) _).alloc (by simp) _)⟩
    | true =>
      cases r3 : GrI.regB false m with
      | false =>
        go_enter Tryd.func12, Tryd.ntmps12
        go_wp2_with (first | (go_at_call 22; refine (register_any _ _ _).mono ?_; rintro e w1 ⟨rfl, rfl⟩) | (go_at_call 23; refine (NM.out _ _ _ _ _ _ _ _).mono ?_; rintro e w1 ⟨rfl, d1⟩; obtain ⟨x1, rfl⟩ := Wb.start d1; clear d1) | (go_at_call 24; refine (kind_c _ _ _ _ _ _ _ _ _ _ _ _ _ _ _ _ (by decide) (by decide) (by decide)).mono ?_; rintro e w1 ⟨rfl, d1⟩; obtain ⟨x2, rfl⟩ := Wb.next d1; clear d1))
        go_ret
        exact ⟨ret_code (by rw [E.out]; simp [r1, r2, r3, GrI.code]), (((Below.refl _ _).alloc (Nat.le_refl _) _).alloc (by simp) _)⟩
      | true =>
        cases r4 : GrI.numB (-26) 1 imm with
        | false =>
          go_enter Tryd.func12, Tryd.ntmps12
          go_wp2_with (first | (go_at_call 22; refine (register_any _ _ _).mono ?_; rintro e w1 ⟨rfl, rfl⟩) | (go_at_call 23; refine (NM.out _ _ _ _ _ _ _ _).mono ?_; rintro e w1 ⟨rfl, d1⟩; obtain ⟨x1, rfl⟩ := Wb.start d1; clear d1) | (go_at_call 24; refine (kind_c _ _ _ _ _ _ _ _ _ _ _ _ _ _ _ _ (by decide) (by decide) (by decide)).mono ?_; rintro e w1 ⟨rfl, d1⟩; obtain ⟨x2, rfl⟩ := Wb.next d1; clear d1))
          go_ret
          exact ⟨ret_code (by rw [E.out]; simp [r1, r2, r3, r4, GrI.code]), KB.out x1⟩
        | true =>
          cases r5 : GrI.kindB 14 d kind 0 with
          | false =>
            go_enter Tryd.func12, Tryd.ntmps12
            go_wp2_with (first | (go_at_call 22; refine (register_any _ _ _).mono ?_; rintro e w1 ⟨rfl, rfl⟩) | (go_at_call 23; refine (NM.out _ _ _ _ _ _ _ _).mono ?_; rintro e w1 ⟨rfl, d1⟩; obtain ⟨x1, rfl⟩ := Wb.start d1; clear d1) | (go_at_call 24; refine (kind_c _ _ _ _ _ _ _ _ _ _ _ _ _ _ _ _ (by decide) (by decide) (by decide)).mono ?_; rintro e w1 ⟨rfl, d1⟩; obtain ⟨x2, rfl⟩ := Wb.next d1; clear d1))
            go_ret
            exact ⟨ret_code (by rw [E.out]; simp [r1, r2, r3, r4, r5, GrI.code]), KB.out x2⟩
          | true =>
            go_enter Tryd.func12, Tryd.ntmps12
            go_wp2_with (first | (go_at_call 22; refine (register_any _ _ _).mono ?_; rintro e w1 ⟨rfl, rfl⟩) | (go_at_call 23; refine (NM.out _ _ _ _ _ _ _ _).mono ?_; rintro e w1 ⟨rfl, d1⟩; obtain ⟨x1, rfl⟩ := Wb.start d1; clear d1) | (go_at_call 24; refine (kind_c _ _ _ _ _ _ _ _ _ _ _ _ _ _ _ _ (by decide) (by decide) (by decide)).mono ?_; rintro e w1 ⟨rfl, d1⟩; obtain ⟨x2, rfl⟩ := Wb.next d1; clear d1))
            go_ret
            exact ⟨ret_code (by rw [E.out]; simp [r1, r2, r3, r4, r5, GrI.code]), KB.out x2⟩

theorem xright_eq_15 (d n m imm kind : Int) : decide (GrI.right ⟨15, d, n, m, imm, kind⟩) = (GrI.regB true d && (GrI.regB false n && (GrI.regB false m && (GrI.numB (-19) 1 imm && GrI.kindB 15 d kind 0)))) := by
  rw [Bool.eq_iff_iff]
  have hf := fits_19 imm
  simp [GrI.right, GrI.parts, GrI.nums, GrI.regB, GrI.numB, GrI.kindB, hf]
  try omega

set_option maxRecDepth 100000 in
set_option maxHeartbeats 6400000 in
theorem xright_15 (d n m imm kind : Int) (w : World) (hs : ShAt w) (hb0 : -9223372036854775808 ≤ imm) (hb1 : imm ≤ 9223372036854775807) :
    Calls Tryd.prog 12 #[.agg #[.int .i64 15, .int .i64 d, .int .i64 n, .int .i64 m, .int .i64 imm, .int .i64 kind]] w fun e w' => e = .returned (.int .i64 (GrI.code (decide (GrI.right ⟨15, d, n, m, imm, kind⟩)))) ∧ Below w.heap.size w w' := by
  have E := Lib.hid (xright_eq_15 d n m imm kind)
  have NM := Lib.hid (fun wd d n m a k ka w => number_n19_1 wd d n m a k ka imm w hb0 hb1)
  have e0 : (w.alloc (.cells #[.int .i64 15, .int .i64 d, .int .i64 n, .int .i64 m, .int .i64 imm, .int .i64 kind] 23)).cell? ⟨0, 135, none⟩ = some (.int .u32 3019898880) := hs.alloc _ 135 (by decide)
  have e1 : (w.alloc (.cells #[.int .i64 15, .int .i64 d, .int .i64 n, .int .i64 m, .int .i64 imm, .int .i64 kind] 23)).cell? ⟨0, 136, none⟩ = some (.bool true) := hs.alloc _ 136 (by decide)
  have e2 : (w.alloc (.cells #[.int .i64 15, .int .i64 d, .int .i64 n, .int .i64 m, .int .i64 imm, .int .i64 kind] 23)).cell? ⟨0, 137, none⟩ = some (.bool false) := hs.alloc _ 137 (by decide)
  have e3 : (w.alloc (.cells #[.int .i64 15, .int .i64 d, .int .i64 n, .int .i64 m, .int .i64 imm, .int .i64 kind] 23)).cell? ⟨0, 138, none⟩ = some (.bool false) := hs.alloc _ 138 (by decide)
  have e4 : (w.alloc (.cells #[.int .i64 15, .int .i64 d, .int .i64 n, .int .i64 m, .int .i64 imm, .int .i64 kind] 23)).cell? ⟨0, 139, none⟩ = some (.int .i64 (-19)) := hs.alloc _ 139 (by decide)
  have e5 : (w.alloc (.cells #[.int .i64 15, .int .i64 d, .int .i64 n, .int .i64 m, .int .i64 imm, .int .i64 kind] 23)).cell? ⟨0, 140, none⟩ = some (.int .i64 5) := hs.alloc _ 140 (by decide)
  have e6 : (w.alloc (.cells #[.int .i64 15, .int .i64 d, .int .i64 n, .int .i64 m, .int .i64 imm, .int .i64 kind] 23)).cell? ⟨0, 141, none⟩ = some (.int .i64 1) := hs.alloc _ 141 (by decide)
  have e7 : (w.alloc (.cells #[.int .i64 15, .int .i64 d, .int .i64 n, .int .i64 m, .int .i64 imm, .int .i64 kind] 23)).cell? ⟨0, 142, none⟩ = some (.int .i64 0) := hs.alloc _ 142 (by decide)
  have e8 : (w.alloc (.cells #[.int .i64 15, .int .i64 d, .int .i64 n, .int .i64 m, .int .i64 imm, .int .i64 kind] 23)).cell? ⟨0, 143, none⟩ = some (.int .i64 0) := hs.alloc _ 143 (by decide)
  have a0 : ∀ x : Wb ((w.alloc (.cells #[.int .i64 15, .int .i64 d, .int .i64 n, .int .i64 m, .int .i64 imm, .int .i64 kind] 23)).alloc (.cells #[.int .u32 3019898880, .bool true, .bool false, .bool false, .int .i64 (-19), .int .i64 5, .int .i64 1, .int .i64 0, .int .i64 0] 40)), x.at.cell? ⟨w.heap.size, 0, none⟩ = some (.int .i64 15) := fun x => by rw [x.cell _ (by simp; omega)]; simp [World.cell?_alloc_new]
  have a1 : ∀ x : Wb ((w.alloc (.cells #[.int .i64 15, .int .i64 d, .int .i64 n, .int .i64 m, .int .i64 imm, .int .i64 kind] 23)).alloc (.cells #[.int .u32 3019898880, .bool true, .bool false, .bool false, .int .i64 (-19), .int .i64 5, .int .i64 1, .int .i64 0, .int .i64 0] 40)), x.at.cell? ⟨w.heap.size, 1, none⟩ = some (.int .i64 d) := fun x => by rw [x.cell _ (by simp; omega)]; simp [World.cell?_alloc_new]
  have a2 : ∀ x : Wb ((w.alloc (.cells #[.int .i64 15, .int .i64 d, .int .i64 n, .int .i64 m, .int .i64 imm, .int .i64 kind] 23)).alloc (.cells #[.int .u32 3019898880, .bool true, .bool false, .bool false, .int .i64 (-19), .int .i64 5, .int .i64 1, .int .i64 0, .int .i64 0] 40)), x.at.cell? ⟨w.heap.size, 2, none⟩ = some (.int .i64 n) := fun x => by rw [x.cell _ (by simp; omega)]; simp [World.cell?_alloc_new]
  have a3 : ∀ x : Wb ((w.alloc (.cells #[.int .i64 15, .int .i64 d, .int .i64 n, .int .i64 m, .int .i64 imm, .int .i64 kind] 23)).alloc (.cells #[.int .u32 3019898880, .bool true, .bool false, .bool false, .int .i64 (-19), .int .i64 5, .int .i64 1, .int .i64 0, .int .i64 0] 40)), x.at.cell? ⟨w.heap.size, 3, none⟩ = some (.int .i64 m) := fun x => by rw [x.cell _ (by simp; omega)]; simp [World.cell?_alloc_new]
  have a4 : ∀ x : Wb ((w.alloc (.cells #[.int .i64 15, .int .i64 d, .int .i64 n, .int .i64 m, .int .i64 imm, .int .i64 kind] 23)).alloc (.cells #[.int .u32 3019898880, .bool true, .bool false, .bool false, .int .i64 (-19), .int .i64 5, .int .i64 1, .int .i64 0, .int .i64 0] 40)), x.at.cell? ⟨w.heap.size, 4, none⟩ = some (.int .i64 imm) := fun x => by rw [x.cell _ (by simp; omega)]; simp [World.cell?_alloc_new]
  have a5 : ∀ x : Wb ((w.alloc (.cells #[.int .i64 15, .int .i64 d, .int .i64 n, .int .i64 m, .int .i64 imm, .int .i64 kind] 23)).alloc (.cells #[.int .u32 3019898880, .bool true, .bool false, .bool false, .int .i64 (-19), .int .i64 5, .int .i64 1, .int .i64 0, .int .i64 0] 40)), x.at.cell? ⟨w.heap.size, 5, none⟩ = some (.int .i64 kind) := fun x => by rw [x.cell _ (by simp; omega)]; simp [World.cell?_alloc_new]
  have b0 : ∀ x : Wb ((w.alloc (.cells #[.int .i64 15, .int .i64 d, .int .i64 n, .int .i64 m, .int .i64 imm, .int .i64 kind] 23)).alloc (.cells #[.int .u32 3019898880, .bool true, .bool false, .bool false, .int .i64 (-19), .int .i64 5, .int .i64 1, .int .i64 0, .int .i64 0] 40)), x.at.cell? ⟨w.heap.size + 1, 0, none⟩ = some (.int .u32 3019898880) := fun x => by rw [x.cell _ (by simp)]; simp [World.cell?_alloc_new]
  have b1 : ∀ x : Wb ((w.alloc (.cells #[.int .i64 15, .int .i64 d, .int .i64 n, .int .i64 m, .int .i64 imm, .int .i64 kind] 23)).alloc (.cells #[.int .u32 3019898880, .bool true, .bool false, .bool false, .int .i64 (-19), .int .i64 5, .int .i64 1, .int .i64 0, .int .i64 0] 40)), x.at.cell? ⟨w.heap.size + 1, 1, none⟩ = some (.bool true) := fun x => by rw [x.cell _ (by simp)]; simp [World.cell?_alloc_new]
  have b2 : ∀ x : Wb ((w.alloc (.cells #[.int .i64 15, .int .i64 d, .int .i64 n, .int .i64 m, .int .i64 imm, .int .i64 kind] 23)).alloc (.cells #[.int .u32 3019898880, .bool true, .bool false, .bool false, .int .i64 (-19), .int .i64 5, .int .i64 1, .int .i64 0, .int .i64 0] 40)), x.at.cell? ⟨w.heap.size + 1, 2, none⟩ = some (.bool false) := fun x => by rw [x.cell _ (by simp)]; simp [World.cell?_alloc_new]
  have b3 : ∀ x : Wb ((w.alloc (.cells #[.int .i64 15, .int .i64 d, .int .i64 n, .int .i64 m, .int .i64 imm, .int .i64 kind] 23)).alloc (.cells #[.int .u32 3019898880, .bool true, .bool false, .bool false, .int .i64 (-19), .int .i64 5, .int .i64 1, .int .i64 0, .int .i64 0] 40)), x.at.cell? ⟨w.heap.size + 1, 3, none⟩ = some (.bool false) := fun x => by rw [x.cell _ (by simp)]; simp [World.cell?_alloc_new]
  have b4 : ∀ x : Wb ((w.alloc (.cells #[.int .i64 15, .int .i64 d, .int .i64 n, .int .i64 m, .int .i64 imm, .int .i64 kind] 23)).alloc (.cells #[.int .u32 3019898880, .bool true, .bool false, .bool false, .int .i64 (-19), .int .i64 5, .int .i64 1, .int .i64 0, .int .i64 0] 40)), x.at.cell? ⟨w.heap.size + 1, 4, none⟩ = some (.int .i64 (-19)) := fun x => by rw [x.cell _ (by simp)]; simp [World.cell?_alloc_new]
  have b5 : ∀ x : Wb ((w.alloc (.cells #[.int .i64 15, .int .i64 d, .int .i64 n, .int .i64 m, .int .i64 imm, .int .i64 kind] 23)).alloc (.cells #[.int .u32 3019898880, .bool true, .bool false, .bool false, .int .i64 (-19), .int .i64 5, .int .i64 1, .int .i64 0, .int .i64 0] 40)), x.at.cell? ⟨w.heap.size + 1, 5, none⟩ = some (.int .i64 5) := fun x => by rw [x.cell _ (by simp)]; simp [World.cell?_alloc_new]
  have b6 : ∀ x : Wb ((w.alloc (.cells #[.int .i64 15, .int .i64 d, .int .i64 n, .int .i64 m, .int .i64 imm, .int .i64 kind] 23)).alloc (.cells #[.int .u32 3019898880, .bool true, .bool false, .bool false, .int .i64 (-19), .int .i64 5, .int .i64 1, .int .i64 0, .int .i64 0] 40)), x.at.cell? ⟨w.heap.size + 1, 6, none⟩ = some (.int .i64 1) := fun x => by rw [x.cell _ (by simp)]; simp [World.cell?_alloc_new]
  have b7 : ∀ x : Wb ((w.alloc (.cells #[.int .i64 15, .int .i64 d, .int .i64 n, .int .i64 m, .int .i64 imm, .int .i64 kind] 23)).alloc (.cells #[.int .u32 3019898880, .bool true, .bool false, .bool false, .int .i64 (-19), .int .i64 5, .int .i64 1, .int .i64 0, .int .i64 0] 40)), x.at.cell? ⟨w.heap.size + 1, 7, none⟩ = some (.int .i64 0) := fun x => by rw [x.cell _ (by simp)]; simp [World.cell?_alloc_new]
  have b8 : ∀ x : Wb ((w.alloc (.cells #[.int .i64 15, .int .i64 d, .int .i64 n, .int .i64 m, .int .i64 imm, .int .i64 kind] 23)).alloc (.cells #[.int .u32 3019898880, .bool true, .bool false, .bool false, .int .i64 (-19), .int .i64 5, .int .i64 1, .int .i64 0, .int .i64 0] 40)), x.at.cell? ⟨w.heap.size + 1, 8, none⟩ = some (.int .i64 0) := fun x => by rw [x.cell _ (by simp)]; simp [World.cell?_alloc_new]
  have KB := Lib.hid (fun (x : Wb ((w.alloc (.cells #[.int .i64 15, .int .i64 d, .int .i64 n, .int .i64 m, .int .i64 imm, .int .i64 kind] 23)).alloc (.cells #[.int .u32 3019898880, .bool true, .bool false, .bool false, .int .i64 (-19), .int .i64 5, .int .i64 1, .int .i64 0, .int .i64 0] 40))) => ((((Below.refl _ _).alloc (Nat.le_refl _) _).alloc (by simp) _).trans (x.bel.mono (by simp; omega)) : Below w.heap.size w x.at))
  clear hb0 hb1 hs
  cases r1 : GrI.regB true d with
  | false =>
    go_enter Tryd.func12, Tryd.ntmps12
    go_wp2_with (first | (go_at_call 22; refine (register_any _ _ _).mono ?_; rintro e w1 ⟨rfl, rfl⟩) | (go_at_call 23; refine (NM.out _ _ _ _ _ _ _ _).mono ?_; rintro e w1 ⟨rfl, d1⟩; obtain ⟨x1, rfl⟩ := Wb.start d1; clear d1) | (go_at_call 24; refine (kind_c _ _ _ _ _ _ _ _ _ _ _ _ _ _ _ _ (by decide) (by decide) (by decide)).mono ?_; rintro e w1 ⟨rfl, d1⟩; obtain ⟨x2, rfl⟩ := Wb.next d1; clear d1))
    go_ret
    exact ⟨ret_code (by rw [E.out]; simp [r1, GrI.code]), (((Below.refl _ _).alloc (Nat.le_refl _) _).alloc (by simp) _)⟩
  | true =>
    cases r2 : GrI.regB false n with
    | false =>
      go_enter Tryd.func12, Tryd.ntmps12
      go_wp2_with (first | (go_at_call 22; refine (register_any _ _ _).mono ?_; rintro e w1 ⟨rfl, rfl⟩) | (go_at_call 23; refine (NM.out _ _ _ _ _ _ _ _).mono ?_; rintro e w1 ⟨rfl, d1⟩; obtain ⟨x1, rfl⟩ := Wb.start d1; clear d1) | (go_at_call 24; refine (kind_c _ _ _ _ _ _ _ _ _ _ _ _ _ _ _ _ (by decide) (by decide) (by decide)).mono ?_; rintro e w1 ⟨rfl, d1⟩; obtain ⟨x2, rfl⟩ := Wb.next d1; clear d1))
      go_ret
      exact ⟨ret_code (by rw [E.out]; simp [r1, r2, GrI.code]), (((Below.refl _ _).alloc (Nat.le_refl _) _).alloc (by simp) _)⟩
    | true =>
      cases r3 : GrI.regB false m with
      | false =>
        go_enter Tryd.func12, Tryd.ntmps12
        go_wp2_with (first | (go_at_call 22; refine (register_any _ _ _).mono ?_; rintro e w1 ⟨rfl, rfl⟩) | (go_at_call 23; refine (NM.out _ _ _ _ _ _ _ _).mono ?_; rintro e w1 ⟨rfl, d1⟩; obtain ⟨x1, rfl⟩ := Wb.start d1; clear d1) | (go_at_call 24; refine (kind_c _ _ _ _ _ _ _ _ _ _ _ _ _ _ _ _ (by decide) (by decide) (by decide)).mono ?_; rintro e w1 ⟨rfl, d1⟩; obtain ⟨x2, rfl⟩ := Wb.next d1; clear d1))
        go_ret
        exact ⟨ret_code (by rw [E.out]; simp [r1, r2, r3, GrI.code]), (((Below.refl _ _).alloc (Nat.le_refl _) _).alloc (by simp) _)⟩
      | true =>
        cases r4 : GrI.numB (-19) 1 imm with
        | false =>
          go_enter Tryd.func12, Tryd.ntmps12
          go_wp2_with (first | (go_at_call 22; refine (register_any _ _ _).mono ?_; rintro e w1 ⟨rfl, rfl⟩) | (go_at_call 23; refine (NM.out _ _ _ _ _ _ _ _).mono ?_; rintro e w1 ⟨rfl, d1⟩; obtain ⟨x1, rfl⟩ := Wb.start d1; clear d1) | (go_at_call 24; refine (kind_c _ _ _ _ _ _ _ _ _ _ _ _ _ _ _ _ (by decide) (by decide) (by decide)).mono ?_; rintro e w1 ⟨rfl, d1⟩; obtain ⟨x2, rfl⟩ := Wb.next d1; clear d1))
          go_ret
          exact ⟨ret_code (by rw [E.out]; simp [r1, r2, r3, r4, GrI.code]), KB.out x1⟩
        | true =>
          cases r5 : GrI.kindB 15 d kind 0 with
          | false =>
            go_enter Tryd.func12, Tryd.ntmps12
            go_wp2_with (first | (go_at_call 22; refine (register_any _ _ _).mono ?_; rintro e w1 ⟨rfl, rfl⟩) | (go_at_call 23; refine (NM.out _ _ _ _ _ _ _ _).mono ?_; rintro e w1 ⟨rfl, d1⟩; obtain ⟨x1, rfl⟩ := Wb.start d1; clear d1) | (go_at_call 24; refine (kind_c _ _ _ _ _ _ _ _ _ _ _ _ _ _ _ _ (by decide) (by decide) (by decide)).mono ?_; rintro e w1 ⟨rfl, d1⟩; obtain ⟨x2, rfl⟩ := Wb.next d1; clear d1))
            go_ret
            exact ⟨ret_code (by rw [E.out]; simp [r1, r2, r3, r4, r5, GrI.code]), KB.out x2⟩
          | true =>
            go_enter Tryd.func12, Tryd.ntmps12
            go_wp2_with (first | (go_at_call 22; refine (register_any _ _ _).mono ?_; rintro e w1 ⟨rfl, rfl⟩) | (go_at_call 23; refine (NM.out _ _ _ _ _ _ _ _).mono ?_; rintro e w1 ⟨rfl, d1⟩; obtain ⟨x1, rfl⟩ := Wb.start d1; clear d1) | (go_at_call 24; refine (kind_c _ _ _ _ _ _ _ _ _ _ _ _ _ _ _ _ (by decide) (by decide) (by decide)).mono ?_; rintro e w1 ⟨rfl, d1⟩; obtain ⟨x2, rfl⟩ := Wb.next d1; clear d1))
            go_ret
            exact ⟨ret_code (by rw [E.out]; simp [r1, r2, r3, r4, r5, GrI.code]), KB.out x2⟩

theorem xright_eq_16 (d n m imm kind : Int) : decide (GrI.right ⟨16, d, n, m, imm, kind⟩) = (GrI.regB true d && (GrI.regB false n && (GrI.regB false m && (GrI.numB (-19) 1 imm && GrI.kindB 16 d kind 0)))) := by
  rw [Bool.eq_iff_iff]
  have hf := fits_19 imm
  simp [GrI.right, GrI.parts, GrI.nums, GrI.regB, GrI.numB, GrI.kindB, hf]
  try omega

set_option maxRecDepth 100000 in
set_option maxHeartbeats 6400000 in
theorem xright_16 (d n m imm kind : Int) (w : World) (hs : ShAt w) (hb0 : -9223372036854775808 ≤ imm) (hb1 : imm ≤ 9223372036854775807) :
    Calls Tryd.prog 12 #[.agg #[.int .i64 16, .int .i64 d, .int .i64 n, .int .i64 m, .int .i64 imm, .int .i64 kind]] w fun e w' => e = .returned (.int .i64 (GrI.code (decide (GrI.right ⟨16, d, n, m, imm, kind⟩)))) ∧ Below w.heap.size w w' := by
  have E := Lib.hid (xright_eq_16 d n m imm kind)
  have NM := Lib.hid (fun wd d n m a k ka w => number_n19_1 wd d n m a k ka imm w hb0 hb1)
  have e0 : (w.alloc (.cells #[.int .i64 16, .int .i64 d, .int .i64 n, .int .i64 m, .int .i64 imm, .int .i64 kind] 23)).cell? ⟨0, 144, none⟩ = some (.int .u32 3036676096) := hs.alloc _ 144 (by decide)
  have e1 : (w.alloc (.cells #[.int .i64 16, .int .i64 d, .int .i64 n, .int .i64 m, .int .i64 imm, .int .i64 kind] 23)).cell? ⟨0, 145, none⟩ = some (.bool true) := hs.alloc _ 145 (by decide)
  have e2 : (w.alloc (.cells #[.int .i64 16, .int .i64 d, .int .i64 n, .int .i64 m, .int .i64 imm, .int .i64 kind] 23)).cell? ⟨0, 146, none⟩ = some (.bool false) := hs.alloc _ 146 (by decide)
  have e3 : (w.alloc (.cells #[.int .i64 16, .int .i64 d, .int .i64 n, .int .i64 m, .int .i64 imm, .int .i64 kind] 23)).cell? ⟨0, 147, none⟩ = some (.bool false) := hs.alloc _ 147 (by decide)
  have e4 : (w.alloc (.cells #[.int .i64 16, .int .i64 d, .int .i64 n, .int .i64 m, .int .i64 imm, .int .i64 kind] 23)).cell? ⟨0, 148, none⟩ = some (.int .i64 (-19)) := hs.alloc _ 148 (by decide)
  have e5 : (w.alloc (.cells #[.int .i64 16, .int .i64 d, .int .i64 n, .int .i64 m, .int .i64 imm, .int .i64 kind] 23)).cell? ⟨0, 149, none⟩ = some (.int .i64 5) := hs.alloc _ 149 (by decide)
  have e6 : (w.alloc (.cells #[.int .i64 16, .int .i64 d, .int .i64 n, .int .i64 m, .int .i64 imm, .int .i64 kind] 23)).cell? ⟨0, 150, none⟩ = some (.int .i64 1) := hs.alloc _ 150 (by decide)
  have e7 : (w.alloc (.cells #[.int .i64 16, .int .i64 d, .int .i64 n, .int .i64 m, .int .i64 imm, .int .i64 kind] 23)).cell? ⟨0, 151, none⟩ = some (.int .i64 0) := hs.alloc _ 151 (by decide)
  have e8 : (w.alloc (.cells #[.int .i64 16, .int .i64 d, .int .i64 n, .int .i64 m, .int .i64 imm, .int .i64 kind] 23)).cell? ⟨0, 152, none⟩ = some (.int .i64 0) := hs.alloc _ 152 (by decide)
  have a0 : ∀ x : Wb ((w.alloc (.cells #[.int .i64 16, .int .i64 d, .int .i64 n, .int .i64 m, .int .i64 imm, .int .i64 kind] 23)).alloc (.cells #[.int .u32 3036676096, .bool true, .bool false, .bool false, .int .i64 (-19), .int .i64 5, .int .i64 1, .int .i64 0, .int .i64 0] 40)), x.at.cell? ⟨w.heap.size, 0, none⟩ = some (.int .i64 16) := fun x => by rw [x.cell _ (by simp; omega)]; simp [World.cell?_alloc_new]
  have a1 : ∀ x : Wb ((w.alloc (.cells #[.int .i64 16, .int .i64 d, .int .i64 n, .int .i64 m, .int .i64 imm, .int .i64 kind] 23)).alloc (.cells #[.int .u32 3036676096, .bool true, .bool false, .bool false, .int .i64 (-19), .int .i64 5, .int .i64 1, .int .i64 0, .int .i64 0] 40)), x.at.cell? ⟨w.heap.size, 1, none⟩ = some (.int .i64 d) := fun x => by rw [x.cell _ (by simp; omega)]; simp [World.cell?_alloc_new]
  have a2 : ∀ x : Wb ((w.alloc (.cells #[.int .i64 16, .int .i64 d, .int .i64 n, .int .i64 m, .int .i64 imm, .int .i64 kind] 23)).alloc (.cells #[.int .u32 3036676096, .bool true, .bool false, .bool false, .int .i64 (-19), .int .i64 5, .int .i64 1, .int .i64 0, .int .i64 0] 40)), x.at.cell? ⟨w.heap.size, 2, none⟩ = some (.int .i64 n) := fun x => by rw [x.cell _ (by simp; omega)]; simp [World.cell?_alloc_new]
  have a3 : ∀ x : Wb ((w.alloc (.cells #[.int .i64 16, .int .i64 d, .int .i64 n, .int .i64 m, .int .i64 imm, .int .i64 kind] 23)).alloc (.cells #[.int .u32 3036676096, .bool true, .bool false, .bool false, .int .i64 (-19), .int .i64 5, .int .i64 1, .int .i64 0, .int .i64 0] 40)), x.at.cell? ⟨w.heap.size, 3, none⟩ = some (.int .i64 m) := fun x => by rw [x.cell _ (by simp; omega)]; simp [World.cell?_alloc_new]
  have a4 : ∀ x : Wb ((w.alloc (.cells #[.int .i64 16, .int .i64 d, .int .i64 n, .int .i64 m, .int .i64 imm, .int .i64 kind] 23)).alloc (.cells #[.int .u32 3036676096, .bool true, .bool false, .bool false, .int .i64 (-19), .int .i64 5, .int .i64 1, .int .i64 0, .int .i64 0] 40)), x.at.cell? ⟨w.heap.size, 4, none⟩ = some (.int .i64 imm) := fun x => by rw [x.cell _ (by simp; omega)]; simp [World.cell?_alloc_new]
  have a5 : ∀ x : Wb ((w.alloc (.cells #[.int .i64 16, .int .i64 d, .int .i64 n, .int .i64 m, .int .i64 imm, .int .i64 kind] 23)).alloc (.cells #[.int .u32 3036676096, .bool true, .bool false, .bool false, .int .i64 (-19), .int .i64 5, .int .i64 1, .int .i64 0, .int .i64 0] 40)), x.at.cell? ⟨w.heap.size, 5, none⟩ = some (.int .i64 kind) := fun x => by rw [x.cell _ (by simp; omega)]; simp [World.cell?_alloc_new]
  have b0 : ∀ x : Wb ((w.alloc (.cells #[.int .i64 16, .int .i64 d, .int .i64 n, .int .i64 m, .int .i64 imm, .int .i64 kind] 23)).alloc (.cells #[.int .u32 3036676096, .bool true, .bool false, .bool false, .int .i64 (-19), .int .i64 5, .int .i64 1, .int .i64 0, .int .i64 0] 40)), x.at.cell? ⟨w.heap.size + 1, 0, none⟩ = some (.int .u32 3036676096) := fun x => by rw [x.cell _ (by simp)]; simp [World.cell?_alloc_new]
  have b1 : ∀ x : Wb ((w.alloc (.cells #[.int .i64 16, .int .i64 d, .int .i64 n, .int .i64 m, .int .i64 imm, .int .i64 kind] 23)).alloc (.cells #[.int .u32 3036676096, .bool true, .bool false, .bool false, .int .i64 (-19), .int .i64 5, .int .i64 1, .int .i64 0, .int .i64 0] 40)), x.at.cell? ⟨w.heap.size + 1, 1, none⟩ = some (.bool true) := fun x => by rw [x.cell _ (by simp)]; simp [World.cell?_alloc_new]
  have b2 : ∀ x : Wb ((w.alloc (.cells #[.int .i64 16, .int .i64 d, .int .i64 n, .int .i64 m, .int .i64 imm, .int .i64 kind] 23)).alloc (.cells #[.int .u32 3036676096, .bool true, .bool false, .bool false, .int .i64 (-19), .int .i64 5, .int .i64 1, .int .i64 0, .int .i64 0] 40)), x.at.cell? ⟨w.heap.size + 1, 2, none⟩ = some (.bool false) := fun x => by rw [x.cell _ (by simp)]; simp [World.cell?_alloc_new]
  have b3 : ∀ x : Wb ((w.alloc (.cells #[.int .i64 16, .int .i64 d, .int .i64 n, .int .i64 m, .int .i64 imm, .int .i64 kind] 23)).alloc (.cells #[.int .u32 3036676096, .bool true, .bool false, .bool false, .int .i64 (-19), .int .i64 5, .int .i64 1, .int .i64 0, .int .i64 0] 40)), x.at.cell? ⟨w.heap.size + 1, 3, none⟩ = some (.bool false) := fun x => by rw [x.cell _ (by simp)]; simp [World.cell?_alloc_new]
  have b4 : ∀ x : Wb ((w.alloc (.cells #[.int .i64 16, .int .i64 d, .int .i64 n, .int .i64 m, .int .i64 imm, .int .i64 kind] 23)).alloc (.cells #[.int .u32 3036676096, .bool true, .bool false, .bool false, .int .i64 (-19), .int .i64 5, .int .i64 1, .int .i64 0, .int .i64 0] 40)), x.at.cell? ⟨w.heap.size + 1, 4, none⟩ = some (.int .i64 (-19)) := fun x => by rw [x.cell _ (by simp)]; simp [World.cell?_alloc_new]
  have b5 : ∀ x : Wb ((w.alloc (.cells #[.int .i64 16, .int .i64 d, .int .i64 n, .int .i64 m, .int .i64 imm, .int .i64 kind] 23)).alloc (.cells #[.int .u32 3036676096, .bool true, .bool false, .bool false, .int .i64 (-19), .int .i64 5, .int .i64 1, .int .i64 0, .int .i64 0] 40)), x.at.cell? ⟨w.heap.size + 1, 5, none⟩ = some (.int .i64 5) := fun x => by rw [x.cell _ (by simp)]; simp [World.cell?_alloc_new]
  have b6 : ∀ x : Wb ((w.alloc (.cells #[.int .i64 16, .int .i64 d, .int .i64 n, .int .i64 m, .int .i64 imm, .int .i64 kind] 23)).alloc (.cells #[.int .u32 3036676096, .bool true, .bool false, .bool false, .int .i64 (-19), .int .i64 5, .int .i64 1, .int .i64 0, .int .i64 0] 40)), x.at.cell? ⟨w.heap.size + 1, 6, none⟩ = some (.int .i64 1) := fun x => by rw [x.cell _ (by simp)]; simp [World.cell?_alloc_new]
  have b7 : ∀ x : Wb ((w.alloc (.cells #[.int .i64 16, .int .i64 d, .int .i64 n, .int .i64 m, .int .i64 imm, .int .i64 kind] 23)).alloc (.cells #[.int .u32 3036676096, .bool true, .bool false, .bool false, .int .i64 (-19), .int .i64 5, .int .i64 1, .int .i64 0, .int .i64 0] 40)), x.at.cell? ⟨w.heap.size + 1, 7, none⟩ = some (.int .i64 0) := fun x => by rw [x.cell _ (by simp)]; simp [World.cell?_alloc_new]
  have b8 : ∀ x : Wb ((w.alloc (.cells #[.int .i64 16, .int .i64 d, .int .i64 n, .int .i64 m, .int .i64 imm, .int .i64 kind] 23)).alloc (.cells #[.int .u32 3036676096, .bool true, .bool false, .bool false, .int .i64 (-19), .int .i64 5, .int .i64 1, .int .i64 0, .int .i64 0] 40)), x.at.cell? ⟨w.heap.size + 1, 8, none⟩ = some (.int .i64 0) := fun x => by rw [x.cell _ (by simp)]; simp [World.cell?_alloc_new]
  have KB := Lib.hid (fun (x : Wb ((w.alloc (.cells #[.int .i64 16, .int .i64 d, .int .i64 n, .int .i64 m, .int .i64 imm, .int .i64 kind] 23)).alloc (.cells #[.int .u32 3036676096, .bool true, .bool false, .bool false, .int .i64 (-19), .int .i64 5, .int .i64 1, .int .i64 0, .int .i64 0] 40))) => ((((Below.refl _ _).alloc (Nat.le_refl _) _).alloc (by simp) _).trans (x.bel.mono (by simp; omega)) : Below w.heap.size w x.at))
  clear hb0 hb1 hs
  cases r1 : GrI.regB true d with
  | false =>
    go_enter Tryd.func12, Tryd.ntmps12
    go_wp2_with (first | (go_at_call 22; refine (register_any _ _ _).mono ?_; rintro e w1 ⟨rfl, rfl⟩) | (go_at_call 23; refine (NM.out _ _ _ _ _ _ _ _).mono ?_; rintro e w1 ⟨rfl, d1⟩; obtain ⟨x1, rfl⟩ := Wb.start d1; clear d1) | (go_at_call 24; refine (kind_c _ _ _ _ _ _ _ _ _ _ _ _ _ _ _ _ (by decide) (by decide) (by decide)).mono ?_; rintro e w1 ⟨rfl, d1⟩; obtain ⟨x2, rfl⟩ := Wb.next d1; clear d1))
    go_ret
    exact ⟨ret_code (by rw [E.out]; simp [r1, GrI.code]), (((Below.refl _ _).alloc (Nat.le_refl _) _).alloc (by simp) _)⟩
  | true =>
    cases r2 : GrI.regB false n with
    | false =>
      go_enter Tryd.func12, Tryd.ntmps12
      go_wp2_with (first | (go_at_call 22; refine (register_any _ _ _).mono ?_; rintro e w1 ⟨rfl, rfl⟩) | (go_at_call 23; refine (NM.out _ _ _ _ _ _ _ _).mono ?_; rintro e w1 ⟨rfl, d1⟩; obtain ⟨x1, rfl⟩ := Wb.start d1; clear d1) | (go_at_call 24; refine (kind_c _ _ _ _ _ _ _ _ _ _ _ _ _ _ _ _ (by decide) (by decide) (by decide)).mono ?_; rintro e w1 ⟨rfl, d1⟩; obtain ⟨x2, rfl⟩ := Wb.next d1; clear d1))
      go_ret
      exact ⟨ret_code (by rw [E.out]; simp [r1, r2, GrI.code]), (((Below.refl _ _).alloc (Nat.le_refl _) _).alloc (by simp) _)⟩
    | true =>
      cases r3 : GrI.regB false m with
      | false =>
        go_enter Tryd.func12, Tryd.ntmps12
        go_wp2_with (first | (go_at_call 22; refine (register_any _ _ _).mono ?_; rintro e w1 ⟨rfl, rfl⟩) | (go_at_call 23; refine (NM.out _ _ _ _ _ _ _ _).mono ?_; rintro e w1 ⟨rfl, d1⟩; obtain ⟨x1, rfl⟩ := Wb.start d1; clear d1) | (go_at_call 24; refine (kind_c _ _ _ _ _ _ _ _ _ _ _ _ _ _ _ _ (by decide) (by decide) (by decide)).mono ?_; rintro e w1 ⟨rfl, d1⟩; obtain ⟨x2, rfl⟩ := Wb.next d1; clear d1))
        go_ret
        exact ⟨ret_code (by rw [E.out]; simp [r1, r2, r3, GrI.code]), (((Below.refl _ _).alloc (Nat.le_refl _) _).alloc (by simp) _)⟩
      | true =>
        cases r4 : GrI.numB (-19) 1 imm with
        | false =>
          go_enter Tryd.func12, Tryd.ntmps12
          go_wp2_with (first | (go_at_call 22; refine (register_any _ _ _).mono ?_; rintro e w1 ⟨rfl, rfl⟩) | (go_at_call 23; refine (NM.out _ _ _ _ _ _ _ _).mono ?_; rintro e w1 ⟨rfl, d1⟩; obtain ⟨x1, rfl⟩ := Wb.start d1; clear d1) | (go_at_call 24; refine (kind_c _ _ _ _ _ _ _ _ _ _ _ _ _ _ _ _ (by decide) (by decide) (by decide)).mono ?_; rintro e w1 ⟨rfl, d1⟩; obtain ⟨x2, rfl⟩ := Wb.next d1; clear d1))
          go_ret
          exact ⟨ret_code (by rw [E.out]; simp [r1, r2, r3, r4, GrI.code]), KB.out x1⟩
        | true =>
          cases r5 : GrI.kindB 16 d kind 0 with
          | false =>
            go_enter Tryd.func12, Tryd.ntmps12
            go_wp2_with (first | (go_at_call 22; refine (register_any _ _ _).mono ?_; rintro e w1 ⟨rfl, rfl⟩) | (go_at_call 23; refine (NM.out _ _ _ _ _ _ _ _).mono ?_; rintro e w1 ⟨rfl, d1⟩; obtain ⟨x1, rfl⟩ := Wb.start d1; clear d1) | (go_at_call 24; refine (kind_c _ _ _ _ _ _ _ _ _ _ _ _ _ _ _ _ (by decide) (by decide) (by decide)).mono ?_; rintro e w1 ⟨rfl, d1⟩; obtain ⟨x2, rfl⟩ := Wb.next d1; clear d1))
            go_ret
            exact ⟨ret_code (by rw [E.out]; simp [r1, r2, r3, r4, r5, GrI.code]), KB.out x2⟩
          | true =>
            go_enter Tryd.func12, Tryd.ntmps12
            go_wp2_with (first | (go_at_call 22; refine (register_any _ _ _).mono ?_; rintro e w1 ⟨rfl, rfl⟩) | (go_at_call 23; refine (NM.out _ _ _ _ _ _ _ _).mono ?_; rintro e w1 ⟨rfl, d1⟩; obtain ⟨x1, rfl⟩ := Wb.start d1; clear d1) | (go_at_call 24; refine (kind_c _ _ _ _ _ _ _ _ _ _ _ _ _ _ _ _ (by decide) (by decide) (by decide)).mono ?_; rintro e w1 ⟨rfl, d1⟩; obtain ⟨x2, rfl⟩ := Wb.next d1; clear d1))
            go_ret
            exact ⟨ret_code (by rw [E.out]; simp [r1, r2, r3, r4, r5, GrI.code]), KB.out x2⟩

theorem xright_eq_17 (d n m imm kind : Int) : decide (GrI.right ⟨17, d, n, m, imm, kind⟩) = (GrI.regB false d && (GrI.regB false n && (GrI.regB false m && (GrI.numB (-19) 1 imm && GrI.kindB 17 d kind 2)))) := by
  rw [Bool.eq_iff_iff]
  have hf := fits_19 imm
  simp [GrI.right, GrI.parts, GrI.nums, GrI.regB, GrI.numB, GrI.kindB, hf]
  try omega

set_option maxRecDepth 100000 in
set_option maxHeartbeats 6400000 in
theorem xright_17 (d n m imm kind : Int) (w : World) (hs : ShAt w) (hb0 : -9223372036854775808 ≤ imm) (hb1 : imm ≤ 9223372036854775807) :
    Calls Tryd.prog 12 #[.agg #[.int .i64 17, .int .i64 d, .int .i64 n, .int .i64 m, .int .i64 imm, .int .i64 kind]] w fun e w' => e = .returned (.int .i64 (GrI.code (decide (GrI.right ⟨17, d, n, m, imm, kind⟩)))) ∧ Below w.heap.size w w' := by
  have E := Lib.hid (xright_eq_17 d n m imm kind)
  have NM := Lib.hid (fun wd d n m a k ka w => number_n19_1 wd d n m a k ka imm w hb0 hb1)
  have e0 : (w.alloc (.cells #[.int .i64 17, .int .i64 d, .int .i64 n, .int .i64 m, .int .i64 imm, .int .i64 kind] 23)).cell? ⟨0, 153, none⟩ = some (.int .u32 1409286144) := hs.alloc _ 153 (by decide)
  have e1 : (w.alloc (.cells #[.int .i64 17, .int .i64 d, .int .i64 n, .int .i64 m, .int .i64 imm, .int .i64 kind] 23)).cell? ⟨0, 154, none⟩ = some (.bool false) := hs.alloc _ 154 (by decide)
  have e2 : (w.alloc (.cells #[.int .i64 17, .int .i64 d, .int .i64 n, .int .i64 m, .int .i64 imm, .int .i64 kind] 23)).cell? ⟨0, 155, none⟩ = some (.bool false) := hs.alloc _ 155 (by decide)
  have e3 : (w.alloc (.cells #[.int .i64 17, .int .i64 d, .int .i64 n, .int .i64 m, .int .i64 imm, .int .i64 kind] 23)).cell? ⟨0, 156, none⟩ = some (.bool false) := hs.alloc _ 156 (by decide)
  have e4 : (w.alloc (.cells #[.int .i64 17, .int .i64 d, .int .i64 n, .int .i64 m, .int .i64 imm, .int .i64 kind] 23)).cell? ⟨0, 157, none⟩ = some (.int .i64 (-19)) := hs.alloc _ 157 (by decide)
  have e5 : (w.alloc (.cells #[.int .i64 17, .int .i64 d, .int .i64 n, .int .i64 m, .int .i64 imm, .int .i64 kind] 23)).cell? ⟨0, 158, none⟩ = some (.int .i64 5) := hs.alloc _ 158 (by decide)
  have e6 : (w.alloc (.cells #[.int .i64 17, .int .i64 d, .int .i64 n, .int .i64 m, .int .i64 imm, .int .i64 kind] 23)).cell? ⟨0, 159, none⟩ = some (.int .i64 1) := hs.alloc _ 159 (by decide)
  have e7 : (w.alloc (.cells #[.int .i64 17, .int .i64 d, .int .i64 n, .int .i64 m, .int .i64 imm, .int .i64 kind] 23)).cell? ⟨0, 160, none⟩ = some (.int .i64 2) := hs.alloc _ 160 (by decide)
  have e8 : (w.alloc (.cells #[.int .i64 17, .int .i64 d, .int .i64 n, .int .i64 m, .int .i64 imm, .int .i64 kind] 23)).cell? ⟨0, 161, none⟩ = some (.int .i64 0) := hs.alloc _ 161 (by decide)
  have a0 : ∀ x : Wb ((w.alloc (.cells #[.int .i64 17, .int .i64 d, .int .i64 n, .int .i64 m, .int .i64 imm, .int .i64 kind] 23)).alloc (.cells #[.int .u32 1409286144, .bool false, .bool false, .bool false, .int .i64 (-19), .int .i64 5, .int .i64 1, .int .i64 2, .int .i64 0] 40)), x.at.cell? ⟨w.heap.size, 0, none⟩ = some (.int .i64 17) := fun x => by rw [x.cell _ (by simp; omega)]; simp [World.cell?_alloc_new]
  have a1 : ∀ x : Wb ((w.alloc (.cells #[.int .i64 17, .int .i64 d, .int .i64 n, .int .i64 m, .int .i64 imm, .int .i64 kind] 23)).alloc (.cells #[.int .u32 1409286144, .bool false, .bool false, .bool false, .int .i64 (-19), .int .i64 5, .int .i64 1, .int .i64 2, .int .i64 0] 40)), x.at.cell? ⟨w.heap.size, 1, none⟩ = some (.int .i64 d) := fun x => by rw [x.cell _ (by simp; omega)]; simp [World.cell?_alloc_new]
  have a2 : ∀ x : Wb ((w.alloc (.cells #[.int .i64 17, .int .i64 d, .int .i64 n, .int .i64 m, .int .i64 imm, .int .i64 kind] 23)).alloc (.cells #[.int .u32 1409286144, .bool false, .bool false, .bool false, .int .i64 (-19), .int .i64 5, .int .i64 1, .int .i64 2, .int .i64 0] 40)), x.at.cell? ⟨w.heap.size, 2, none⟩ = some (.int .i64 n) := fun x => by rw [x.cell _ (by simp; omega)]; simp [World.cell?_alloc_new]
  have a3 : ∀ x : Wb ((w.alloc (.cells #[.int .i64 17, .int .i64 d, .int .i64 n, .int .i64 m, .int .i64 imm, .int .i64 kind] 23)).alloc (.cells #[.int .u32 1409286144, .bool false, .bool false, .bool false, .int .i64 (-19), .int .i64 5, .int .i64 1, .int .i64 2, .int .i64 0] 40)), x.at.cell? ⟨w.heap.size, 3, none⟩ = some (.int .i64 m) := fun x => by rw [x.cell _ (by simp; omega)]; simp [World.cell?_alloc_new]
  have a4 : ∀ x : Wb ((w.alloc (.cells #[.int .i64 17, .int .i64 d, .int .i64 n, .int .i64 m, .int .i64 imm, .int .i64 kind] 23)).alloc (.cells #[.int .u32 1409286144, .bool false, .bool false, .bool false, .int .i64 (-19), .int .i64 5, .int .i64 1, .int .i64 2, .int .i64 0] 40)), x.at.cell? ⟨w.heap.size, 4, none⟩ = some (.int .i64 imm) := fun x => by rw [x.cell _ (by simp; omega)]; simp [World.cell?_alloc_new]
  have a5 : ∀ x : Wb ((w.alloc (.cells #[.int .i64 17, .int .i64 d, .int .i64 n, .int .i64 m, .int .i64 imm, .int .i64 kind] 23)).alloc (.cells #[.int .u32 1409286144, .bool false, .bool false, .bool false, .int .i64 (-19), .int .i64 5, .int .i64 1, .int .i64 2, .int .i64 0] 40)), x.at.cell? ⟨w.heap.size, 5, none⟩ = some (.int .i64 kind) := fun x => by rw [x.cell _ (by simp; omega)]; simp [World.cell?_alloc_new]
  have b0 : ∀ x : Wb ((w.alloc (.cells #[.int .i64 17, .int .i64 d, .int .i64 n, .int .i64 m, .int .i64 imm, .int .i64 kind] 23)).alloc (.cells #[.int .u32 1409286144, .bool false, .bool false, .bool false, .int .i64 (-19), .int .i64 5, .int .i64 1, .int .i64 2, .int .i64 0] 40)), x.at.cell? ⟨w.heap.size + 1, 0, none⟩ = some (.int .u32 1409286144) := fun x => by rw [x.cell _ (by simp)]; simp [World.cell?_alloc_new]
  have b1 : ∀ x : Wb ((w.alloc (.cells #[.int .i64 17, .int .i64 d, .int .i64 n, .int .i64 m, .int .i64 imm, .int .i64 kind] 23)).alloc (.cells #[.int .u32 1409286144, .bool false, .bool false, .bool false, .int .i64 (-19), .int .i64 5, .int .i64 1, .int .i64 2, .int .i64 0] 40)), x.at.cell? ⟨w.heap.size + 1, 1, none⟩ = some (.bool false) := fun x => by rw [x.cell _ (by simp)]; simp [World.cell?_alloc_new]
  have b2 : ∀ x : Wb ((w.alloc (.cells #[.int .i64 17, .int .i64 d, .int .i64 n, .int .i64 m, .int .i64 imm, .int .i64 kind] 23)).alloc (.cells #[.int .u32 1409286144, .bool false, .bool false, .bool false, .int .i64 (-19), .int .i64 5, .int .i64 1, .int .i64 2, .int .i64 0] 40)), x.at.cell? ⟨w.heap.size + 1, 2, none⟩ = some (.bool false) := fun x => by rw [x.cell _ (by simp)]; simp [World.cell?_alloc_new]
  have b3 : ∀ x : Wb ((w.alloc (.cells #[.int .i64 17, .int .i64 d, .int .i64 n, .int .i64 m, .int .i64 imm, .int .i64 kind] 23)).alloc (.cells #[.int .u32 1409286144, .bool false, .bool false, .bool false, .int .i64 (-19), .int .i64 5, .int .i64 1, .int .i64 2, .int .i64 0] 40)), x.at.cell? ⟨w.heap.size + 1, 3, none⟩ = some (.bool false) := fun x => by rw [x.cell _ (by simp)]; simp [World.cell?_alloc_new]
  have b4 : ∀ x : Wb ((w.alloc (.cells #[.int .i64 17, .int .i64 d, .int .i64 n, .int .i64 m, .int .i64 imm, .int .i64 kind] 23)).alloc (.cells #[.int .u32 1409286144, .bool false, .bool false, .bool false, .int .i64 (-19), .int .i64 5, .int .i64 1, .int .i64 2, .int .i64 0] 40)), x.at.cell? ⟨w.heap.size + 1, 4, none⟩ = some (.int .i64 (-19)) := fun x => by rw [x.cell _ (by simp)]; simp [World.cell?_alloc_new]
  have b5 : ∀ x : Wb ((w.alloc (.cells #[.int .i64 17, .int .i64 d, .int .i64 n, .int .i64 m, .int .i64 imm, .int .i64 kind] 23)).alloc (.cells #[.int .u32 1409286144, .bool false, .bool false, .bool false, .int .i64 (-19), .int .i64 5, .int .i64 1, .int .i64 2, .int .i64 0] 40)), x.at.cell? ⟨w.heap.size + 1, 5, none⟩ = some (.int .i64 5) := fun x => by rw [x.cell _ (by simp)]; simp [World.cell?_alloc_new]
  have b6 : ∀ x : Wb ((w.alloc (.cells #[.int .i64 17, .int .i64 d, .int .i64 n, .int .i64 m, .int .i64 imm, .int .i64 kind] 23)).alloc (.cells #[.int .u32 1409286144, .bool false, .bool false, .bool false, .int .i64 (-19), .int .i64 5, .int .i64 1, .int .i64 2, .int .i64 0] 40)), x.at.cell? ⟨w.heap.size + 1, 6, none⟩ = some (.int .i64 1) := fun x => by rw [x.cell _ (by simp)]; simp [World.cell?_alloc_new]
  have b7 : ∀ x : Wb ((w.alloc (.cells #[.int .i64 17, .int .i64 d, .int .i64 n, .int .i64 m, .int .i64 imm, .int .i64 kind] 23)).alloc (.cells #[.int .u32 1409286144, .bool false, .bool false, .bool false, .int .i64 (-19), .int .i64 5, .int .i64 1, .int .i64 2, .int .i64 0] 40)), x.at.cell? ⟨w.heap.size + 1, 7, none⟩ = some (.int .i64 2) := fun x => by rw [x.cell _ (by simp)]; simp [World.cell?_alloc_new]
  have b8 : ∀ x : Wb ((w.alloc (.cells #[.int .i64 17, .int .i64 d, .int .i64 n, .int .i64 m, .int .i64 imm, .int .i64 kind] 23)).alloc (.cells #[.int .u32 1409286144, .bool false, .bool false, .bool false, .int .i64 (-19), .int .i64 5, .int .i64 1, .int .i64 2, .int .i64 0] 40)), x.at.cell? ⟨w.heap.size + 1, 8, none⟩ = some (.int .i64 0) := fun x => by rw [x.cell _ (by simp)]; simp [World.cell?_alloc_new]
  have KB := Lib.hid (fun (x : Wb ((w.alloc (.cells #[.int .i64 17, .int .i64 d, .int .i64 n, .int .i64 m, .int .i64 imm, .int .i64 kind] 23)).alloc (.cells #[.int .u32 1409286144, .bool false, .bool false, .bool false, .int .i64 (-19), .int .i64 5, .int .i64 1, .int .i64 2, .int .i64 0] 40))) => ((((Below.refl _ _).alloc (Nat.le_refl _) _).alloc (by simp) _).trans (x.bel.mono (by simp; omega)) : Below w.heap.size w x.at))
  clear hb0 hb1 hs
  cases r1 : GrI.regB false d with
  | false =>
    go_enter Tryd.func12, Tryd.ntmps12
    go_wp2_with (first | (go_at_call 22; refine (register_any _ _ _).mono ?_; rintro e w1 ⟨rfl, rfl⟩) | (go_at_call 23; refine (NM.out _ _ _ _ _ _ _ _).mono ?_; rintro e w1 ⟨rfl, d1⟩; obtain ⟨x1, rfl⟩ := Wb.start d1; clear d1) | (go_at_call 24; refine (kind_c _ _ _ _ _ _ _ _ _ _ _ _ _ _ _ _ (by decide) (by decide) (by decide)).mono ?_; rintro e w1 ⟨rfl, d1⟩; obtain ⟨x2, rfl⟩ := Wb.next d1; clear d1))
    go_ret
    exact ⟨ret_code (by rw [E.out]; simp [r1, GrI.code]), (((Below.refl _ _).alloc (Nat.le_refl _) _).alloc (by simp) _)⟩
  | true =>
    cases r2 : GrI.regB false n with
    | false =>
      go_enter Tryd.func12, Tryd.ntmps12
      go_wp2_with (first | (go_at_call 22; refine (register_any _ _ _).mono ?_; rintro e w1 ⟨rfl, rfl⟩) | (go_at_call 23; refine (NM.out _ _ _ _ _ _ _ _).mono ?_; rintro e w1 ⟨rfl, d1⟩; obtain ⟨x1, rfl⟩ := Wb.start d1; clear d1) | (go_at_call 24; refine (kind_c _ _ _ _ _ _ _ _ _ _ _ _ _ _ _ _ (by decide) (by decide) (by decide)).mono ?_; rintro e w1 ⟨rfl, d1⟩; obtain ⟨x2, rfl⟩ := Wb.next d1; clear d1))
      go_ret
      exact ⟨ret_code (by rw [E.out]; simp [r1, r2, GrI.code]), (((Below.refl _ _).alloc (Nat.le_refl _) _).alloc (by simp) _)⟩
    | true =>
      cases r3 : GrI.regB false m with
      | false =>
        go_enter Tryd.func12, Tryd.ntmps12
        go_wp2_with (first | (go_at_call 22; refine (register_any _ _ _).mono ?_; rintro e w1 ⟨rfl, rfl⟩) | (go_at_call 23; refine (NM.out _ _ _ _ _ _ _ _).mono ?_; rintro e w1 ⟨rfl, d1⟩; obtain ⟨x1, rfl⟩ := Wb.start d1; clear d1) | (go_at_call 24; refine (kind_c _ _ _ _ _ _ _ _ _ _ _ _ _ _ _ _ (by decide) (by decide) (by decide)).mono ?_; rintro e w1 ⟨rfl, d1⟩; obtain ⟨x2, rfl⟩ := Wb.next d1; clear d1))
        go_ret
        exact ⟨ret_code (by rw [E.out]; simp [r1, r2, r3, GrI.code]), (((Below.refl _ _).alloc (Nat.le_refl _) _).alloc (by simp) _)⟩
      | true =>
        cases r4 : GrI.numB (-19) 1 imm with
        | false =>
          go_enter Tryd.func12, Tryd.ntmps12
          go_wp2_with (first | (go_at_call 22; refine (register_any _ _ _).mono ?_; rintro e w1 ⟨rfl, rfl⟩) | (go_at_call 23; refine (NM.out _ _ _ _ _ _ _ _).mono ?_; rintro e w1 ⟨rfl, d1⟩; obtain ⟨x1, rfl⟩ := Wb.start d1; clear d1) | (go_at_call 24; refine (kind_c _ _ _ _ _ _ _ _ _ _ _ _ _ _ _ _ (by decide) (by decide) (by decide)).mono ?_; rintro e w1 ⟨rfl, d1⟩; obtain ⟨x2, rfl⟩ := Wb.next d1; clear d1))
          go_ret
          exact ⟨ret_code (by rw [E.out]; simp [r1, r2, r3, r4, GrI.code]), KB.out x1⟩
        | true =>
          cases r5 : GrI.kindB 17 d kind 2 with
          | false =>
            go_enter Tryd.func12, Tryd.ntmps12
            go_wp2_with (first | (go_at_call 22; refine (register_any _ _ _).mono ?_; rintro e w1 ⟨rfl, rfl⟩) | (go_at_call 23; refine (NM.out _ _ _ _ _ _ _ _).mono ?_; rintro e w1 ⟨rfl, d1⟩; obtain ⟨x1, rfl⟩ := Wb.start d1; clear d1) | (go_at_call 24; refine (kind_c _ _ _ _ _ _ _ _ _ _ _ _ _ _ _ _ (by decide) (by decide) (by decide)).mono ?_; rintro e w1 ⟨rfl, d1⟩; obtain ⟨x2, rfl⟩ := Wb.next d1; clear d1))
            go_ret
            exact ⟨ret_code (by rw [E.out]; simp [r1, r2, r3, r4, r5, GrI.code]), KB.out x2⟩
          | true =>
            go_enter Tryd.func12, Tryd.ntmps12
            go_wp2_with (first | (go_at_call 22; refine (register_any _ _ _).mono ?_; rintro e w1 ⟨rfl, rfl⟩) | (go_at_call 23; refine (NM.out _ _ _ _ _ _ _ _).mono ?_; rintro e w1 ⟨rfl, d1⟩; obtain ⟨x1, rfl⟩ := Wb.start d1; clear d1) | (go_at_call 24; refine (kind_c _ _ _ _ _ _ _ _ _ _ _ _ _ _ _ _ (by decide) (by decide) (by decide)).mono ?_; rintro e w1 ⟨rfl, d1⟩; obtain ⟨x2, rfl⟩ := Wb.next d1; clear d1))
            go_ret
            exact ⟨ret_code (by rw [E.out]; simp [r1, r2, r3, r4, r5, GrI.code]), KB.out x2⟩

theorem xright_eq_18 (d n m imm kind : Int) : decide (GrI.right ⟨18, d, n, m, imm, kind⟩) = (GrI.regB false d && (GrI.regB false n && (GrI.regB false m && (GrI.numB 0 0 imm && GrI.kindB 18 d kind 16)))) := by
  rw [Bool.eq_iff_iff]
  simp [GrI.right, GrI.parts, GrI.nums, GrI.regB, GrI.numB, GrI.kindB]
  try omega

set_option maxRecDepth 100000 in
set_option maxHeartbeats 6400000 in
theorem xright_18 (d n m imm kind : Int) (w : World) (hs : ShAt w) (hb0 : -9223372036854775808 ≤ imm) (hb1 : imm ≤ 9223372036854775807) :
    Calls Tryd.prog 12 #[.agg #[.int .i64 18, .int .i64 d, .int .i64 n, .int .i64 m, .int .i64 imm, .int .i64 kind]] w fun e w' => e = .returned (.int .i64 (GrI.code (decide (GrI.right ⟨18, d, n, m, imm, kind⟩)))) ∧ Below w.heap.size w w' := by
  have E := Lib.hid (xright_eq_18 d n m imm kind)
  have NM := Lib.hid (fun wd d n m a k ka w => number_0_0 wd d n m a k ka imm w hb0 hb1)
  have e0 : (w.alloc (.cells #[.int .i64 18, .int .i64 d, .int .i64 n, .int .i64 m, .int .i64 imm, .int .i64 kind] 23)).cell? ⟨0, 162, none⟩ = some (.int .u32 3573756095) := hs.alloc _ 162 (by decide)
  have e1 : (w.alloc (.cells #[.int .i64 18, .int .i64 d, .int .i64 n, .int .i64 m, .int .i64 imm, .int .i64 kind] 23)).cell? ⟨0, 163, none⟩ = some (.bool false) := hs.alloc _ 163 (by decide)
  have e2 : (w.alloc (.cells #[.int .i64 18, .int .i64 d, .int .i64 n, .int .i64 m, .int .i64 imm, .int .i64 kind] 23)).cell? ⟨0, 164, none⟩ = some (.bool false) := hs.alloc _ 164 (by decide)
  have e3 : (w.alloc (.cells #[.int .i64 18, .int .i64 d, .int .i64 n, .int .i64 m, .int .i64 imm, .int .i64 kind] 23)).cell? ⟨0, 165, none⟩ = some (.bool false) := hs.alloc _ 165 (by decide)
  have e4 : (w.alloc (.cells #[.int .i64 18, .int .i64 d, .int .i64 n, .int .i64 m, .int .i64 imm, .int .i64 kind] 23)).cell? ⟨0, 166, none⟩ = some (.int .i64 0) := hs.alloc _ 166 (by decide)
  have e5 : (w.alloc (.cells #[.int .i64 18, .int .i64 d, .int .i64 n, .int .i64 m, .int .i64 imm, .int .i64 kind] 23)).cell? ⟨0, 167, none⟩ = some (.int .i64 0) := hs.alloc _ 167 (by decide)
  have e6 : (w.alloc (.cells #[.int .i64 18, .int .i64 d, .int .i64 n, .int .i64 m, .int .i64 imm, .int .i64 kind] 23)).cell? ⟨0, 168, none⟩ = some (.int .i64 0) := hs.alloc _ 168 (by decide)
  have e7 : (w.alloc (.cells #[.int .i64 18, .int .i64 d, .int .i64 n, .int .i64 m, .int .i64 imm, .int .i64 kind] 23)).cell? ⟨0, 169, none⟩ = some (.int .i64 16) := hs.alloc _ 169 (by decide)
  have e8 : (w.alloc (.cells #[.int .i64 18, .int .i64 d, .int .i64 n, .int .i64 m, .int .i64 imm, .int .i64 kind] 23)).cell? ⟨0, 170, none⟩ = some (.int .i64 8) := hs.alloc _ 170 (by decide)
  have a0 : ∀ x : Wb ((w.alloc (.cells #[.int .i64 18, .int .i64 d, .int .i64 n, .int .i64 m, .int .i64 imm, .int .i64 kind] 23)).alloc (.cells #[.int .u32 3573756095, .bool false, .bool false, .bool false, .int .i64 0, .int .i64 0, .int .i64 0, .int .i64 16, .int .i64 8] 40)), x.at.cell? ⟨w.heap.size, 0, none⟩ = some (.int .i64 18) := fun x => by rw [x.cell _ (by simp; omega)]; simp [World.cell?_alloc_new]
  have a1 : ∀ x : Wb ((w.alloc (.cells #[.int .i64 18, .int .i64 d, .int .i64 n, .int .i64 m, .int .i64 imm, .int .i64 kind] 23)).alloc (.cells #[.int .u32 3573756095, .bool false, .bool false, .bool false, .int .i64 0, .int .i64 0, .int .i64 0, .int .i64 16, .int .i64 8] 40)), x.at.cell? ⟨w.heap.size, 1, none⟩ = some (.int .i64 d) := fun x => by rw [x.cell _ (by simp; omega)]; simp [World.cell?_alloc_new]
  have a2 : ∀ x : Wb ((w.alloc (.cells #[.int .i64 18, .int .i64 d, .int .i64 n, .int .i64 m, .int .i64 imm, .int .i64 kind] 23)).alloc (.cells #[.int .u32 3573756095, .bool false, .bool false, .bool false, .int .i64 0, .int .i64 0, .int .i64 0, .int .i64 16, .int .i64 8] 40)), x.at.cell? ⟨w.heap.size, 2, none⟩ = some (.int .i64 n) := fun x => by rw [x.cell _ (by simp; omega)]; simp [World.cell?_alloc_new]
  have a3 : ∀ x : Wb ((w.alloc (.cells #[.int .i64 18, .int .i64 d, .int .i64 n, .int .i64 m, .int .i64 imm, .int .i64 kind] 23)).alloc (.cells #[.int .u32 3573756095, .bool false, .bool false, .bool false, .int .i64 0, .int .i64 0, .int .i64 0, .int .i64 16, .int .i64 8] 40)), x.at.cell? ⟨w.heap.size, 3, none⟩ = some (.int .i64 m) := fun x => by rw [x.cell _ (by simp; omega)]; simp [World.cell?_alloc_new]
  have a4 : ∀ x : Wb ((w.alloc (.cells #[.int .i64 18, .int .i64 d, .int .i64 n, .int .i64 m, .int .i64 imm, .int .i64 kind] 23)).alloc (.cells #[.int .u32 3573756095, .bool false, .bool false, .bool false, .int .i64 0, .int .i64 0, .int .i64 0, .int .i64 16, .int .i64 8] 40)), x.at.cell? ⟨w.heap.size, 4, none⟩ = some (.int .i64 imm) := fun x => by rw [x.cell _ (by simp; omega)]; simp [World.cell?_alloc_new]
  have a5 : ∀ x : Wb ((w.alloc (.cells #[.int .i64 18, .int .i64 d, .int .i64 n, .int .i64 m, .int .i64 imm, .int .i64 kind] 23)).alloc (.cells #[.int .u32 3573756095, .bool false, .bool false, .bool false, .int .i64 0, .int .i64 0, .int .i64 0, .int .i64 16, .int .i64 8] 40)), x.at.cell? ⟨w.heap.size, 5, none⟩ = some (.int .i64 kind) := fun x => by rw [x.cell _ (by simp; omega)]; simp [World.cell?_alloc_new]
  have b0 : ∀ x : Wb ((w.alloc (.cells #[.int .i64 18, .int .i64 d, .int .i64 n, .int .i64 m, .int .i64 imm, .int .i64 kind] 23)).alloc (.cells #[.int .u32 3573756095, .bool false, .bool false, .bool false, .int .i64 0, .int .i64 0, .int .i64 0, .int .i64 16, .int .i64 8] 40)), x.at.cell? ⟨w.heap.size + 1, 0, none⟩ = some (.int .u32 3573756095) := fun x => by rw [x.cell _ (by simp)]; simp [World.cell?_alloc_new]
  have b1 : ∀ x : Wb ((w.alloc (.cells #[.int .i64 18, .int .i64 d, .int .i64 n, .int .i64 m, .int .i64 imm, .int .i64 kind] 23)).alloc (.cells #[.int .u32 3573756095, .bool false, .bool false, .bool false, .int .i64 0, .int .i64 0, .int .i64 0, .int .i64 16, .int .i64 8] 40)), x.at.cell? ⟨w.heap.size + 1, 1, none⟩ = some (.bool false) := fun x => by rw [x.cell _ (by simp)]; simp [World.cell?_alloc_new]
  have b2 : ∀ x : Wb ((w.alloc (.cells #[.int .i64 18, .int .i64 d, .int .i64 n, .int .i64 m, .int .i64 imm, .int .i64 kind] 23)).alloc (.cells #[.int .u32 3573756095, .bool false, .bool false, .bool false, .int .i64 0, .int .i64 0, .int .i64 0, .int .i64 16, .int .i64 8] 40)), x.at.cell? ⟨w.heap.size + 1, 2, none⟩ = some (.bool false) := fun x => by rw [x.cell _ (by simp)]; simp [World.cell?_alloc_new]
  have b3 : ∀ x : Wb ((w.alloc (.cells #[.int .i64 18, .int .i64 d, .int .i64 n, .int .i64 m, .int .i64 imm, .int .i64 kind] 23)).alloc (.cells #[.int .u32 3573756095, .bool false, .bool false, .bool false, .int .i64 0, .int .i64 0, .int .i64 0, .int .i64 16, .int .i64 8] 40)), x.at.cell? ⟨w.heap.size + 1, 3, none⟩ = some (.bool false) := fun x => by rw [x.cell _ (by simp)]; simp [World.cell?_alloc_new]
  have b4 : ∀ x : Wb ((w.alloc (.cells #[.int .i64 18, .int .i64 d, .int .i64 n, .int .i64 m, .int .i64 imm, .int .i64 kind] 23)).alloc (.cells #[.int .u32 3573756095, .bool false, .bool false, .bool false, .int .i64 0, .int .i64 0, .int .i64 0, .int .i64 16, .int .i64 8] 40)), x.at.cell? ⟨w.heap.size + 1, 4, none⟩ = some (.int .i64 0) := fun x => by rw [x.cell _ (by simp)]; simp [World.cell?_alloc_new]
  have b5 : ∀ x : Wb ((w.alloc (.cells #[.int .i64 18, .int .i64 d, .int .i64 n, .int .i64 m, .int .i64 imm, .int .i64 kind] 23)).alloc (.cells #[.int .u32 3573756095, .bool false, .bool false, .bool false, .int .i64 0, .int .i64 0, .int .i64 0, .int .i64 16, .int .i64 8] 40)), x.at.cell? ⟨w.heap.size + 1, 5, none⟩ = some (.int .i64 0) := fun x => by rw [x.cell _ (by simp)]; simp [World.cell?_alloc_new]
  have b6 : ∀ x : Wb ((w.alloc (.cells #[.int .i64 18, .int .i64 d, .int .i64 n, .int .i64 m, .int .i64 imm, .int .i64 kind] 23)).alloc (.cells #[.int .u32 3573756095, .bool false, .bool false, .bool false, .int .i64 0, .int .i64 0, .int .i64 0, .int .i64 16, .int .i64 8] 40)), x.at.cell? ⟨w.heap.size + 1, 6, none⟩ = some (.int .i64 0) := fun x => by rw [x.cell _ (by simp)]; simp [World.cell?_alloc_new]
  have b7 : ∀ x : Wb ((w.alloc (.cells #[.int .i64 18, .int .i64 d, .int .i64 n, .int .i64 m, .int .i64 imm, .int .i64 kind] 23)).alloc (.cells #[.int .u32 3573756095, .bool false, .bool false, .bool false, .int .i64 0, .int .i64 0, .int .i64 0, .int .i64 16, .int .i64 8] 40)), x.at.cell? ⟨w.heap.size + 1, 7, none⟩ = some (.int .i64 16) := fun x => by rw [x.cell _ (by simp)]; simp [World.cell?_alloc_new]
  have b8 : ∀ x : Wb ((w.alloc (.cells #[.int .i64 18, .int .i64 d, .int .i64 n, .int .i64 m, .int .i64 imm, .int .i64 kind] 23)).alloc (.cells #[.int .u32 3573756095, .bool false, .bool false, .bool false, .int .i64 0, .int .i64 0, .int .i64 0, .int .i64 16, .int .i64 8] 40)), x.at.cell? ⟨w.heap.size + 1, 8, none⟩ = some (.int .i64 8) := fun x => by rw [x.cell _ (by simp)]; simp [World.cell?_alloc_new]
  have KB := Lib.hid (fun (x : Wb ((w.alloc (.cells #[.int .i64 18, .int .i64 d, .int .i64 n, .int .i64 m, .int .i64 imm, .int .i64 kind] 23)).alloc (.cells #[.int .u32 3573756095, .bool false, .bool false, .bool false, .int .i64 0, .int .i64 0, .int .i64 0, .int .i64 16, .int .i64 8] 40))) => ((((Below.refl _ _).alloc (Nat.le_refl _) _).alloc (by simp) _).trans (x.bel.mono (by simp; omega)) : Below w.heap.size w x.at))
  clear hb0 hb1 hs
  cases r1 : GrI.regB false d with
  | false =>
    go_enter Tryd.func12, Tryd.ntmps12
    go_wp2_with (first | (go_at_call 22; refine (register_any _ _ _).mono ?_; rintro e w1 ⟨rfl, rfl⟩) | (go_at_call 23; refine (NM.out _ _ _ _ _ _ _ _).mono ?_; rintro e w1 ⟨rfl, d1⟩; obtain ⟨x1, rfl⟩ := Wb.start d1; clear d1) | (go_at_call 24; refine (kind_a _ _ _ _ _ _ _ _ _ _ _ _ _ _ _ _ (by decide)).mono ?_; rintro e w1 ⟨rfl, d1⟩; obtain ⟨x2, rfl⟩ := Wb.next d1; clear d1))
    go_ret
    exact ⟨ret_code (by rw [E.out]; simp [r1, GrI.code]), (((Below.refl _ _).alloc (Nat.le_refl _) _).alloc (by simp) _)⟩
  | true =>
    cases r2 : GrI.regB false n with
    | false =>
      go_enter Tryd.func12, Tryd.ntmps12
      go_wp2_with (first | (go_at_call 22; refine (register_any _ _ _).mono ?_; rintro e w1 ⟨rfl, rfl⟩) | (go_at_call 23; refine (NM.out _ _ _ _ _ _ _ _).mono ?_; rintro e w1 ⟨rfl, d1⟩; obtain ⟨x1, rfl⟩ := Wb.start d1; clear d1) | (go_at_call 24; refine (kind_a _ _ _ _ _ _ _ _ _ _ _ _ _ _ _ _ (by decide)).mono ?_; rintro e w1 ⟨rfl, d1⟩; obtain ⟨x2, rfl⟩ := Wb.next d1; clear d1))
      go_ret
      exact ⟨ret_code (by rw [E.out]; simp [r1, r2, GrI.code]), (((Below.refl _ _).alloc (Nat.le_refl _) _).alloc (by simp) _)⟩
    | true =>
      cases r3 : GrI.regB false m with
      | false =>
        go_enter Tryd.func12, Tryd.ntmps12
        go_wp2_with (first | (go_at_call 22; refine (register_any _ _ _).mono ?_; rintro e w1 ⟨rfl, rfl⟩) | (go_at_call 23; refine (NM.out _ _ _ _ _ _ _ _).mono ?_; rintro e w1 ⟨rfl, d1⟩; obtain ⟨x1, rfl⟩ := Wb.start d1; clear d1) | (go_at_call 24; refine (kind_a _ _ _ _ _ _ _ _ _ _ _ _ _ _ _ _ (by decide)).mono ?_; rintro e w1 ⟨rfl, d1⟩; obtain ⟨x2, rfl⟩ := Wb.next d1; clear d1))
        go_ret
        exact ⟨ret_code (by rw [E.out]; simp [r1, r2, r3, GrI.code]), (((Below.refl _ _).alloc (Nat.le_refl _) _).alloc (by simp) _)⟩
      | true =>
        cases r4 : GrI.numB 0 0 imm with
        | false =>
          go_enter Tryd.func12, Tryd.ntmps12
          go_wp2_with (first | (go_at_call 22; refine (register_any _ _ _).mono ?_; rintro e w1 ⟨rfl, rfl⟩) | (go_at_call 23; refine (NM.out _ _ _ _ _ _ _ _).mono ?_; rintro e w1 ⟨rfl, d1⟩; obtain ⟨x1, rfl⟩ := Wb.start d1; clear d1) | (go_at_call 24; refine (kind_a _ _ _ _ _ _ _ _ _ _ _ _ _ _ _ _ (by decide)).mono ?_; rintro e w1 ⟨rfl, d1⟩; obtain ⟨x2, rfl⟩ := Wb.next d1; clear d1))
          go_ret
          exact ⟨ret_code (by rw [E.out]; simp [r1, r2, r3, r4, GrI.code]), KB.out x1⟩
        | true =>
          cases r5 : GrI.kindB 18 d kind 16 with
          | false =>
            go_enter Tryd.func12, Tryd.ntmps12
            go_wp2_with (first | (go_at_call 22; refine (register_any _ _ _).mono ?_; rintro e w1 ⟨rfl, rfl⟩) | (go_at_call 23; refine (NM.out _ _ _ _ _ _ _ _).mono ?_; rintro e w1 ⟨rfl, d1⟩; obtain ⟨x1, rfl⟩ := Wb.start d1; clear d1) | (go_at_call 24; refine (kind_a _ _ _ _ _ _ _ _ _ _ _ _ _ _ _ _ (by decide)).mono ?_; rintro e w1 ⟨rfl, d1⟩; obtain ⟨x2, rfl⟩ := Wb.next d1; clear d1))
            go_ret
            exact ⟨ret_code (by rw [E.out]; simp [r1, r2, r3, r4, r5, GrI.code]), KB.out x2⟩
          | true =>
            go_enter Tryd.func12, Tryd.ntmps12
            go_wp2_with (first | (go_at_call 22; refine (register_any _ _ _).mono ?_; rintro e w1 ⟨rfl, rfl⟩) | (go_at_call 23; refine (NM.out _ _ _ _ _ _ _ _).mono ?_; rintro e w1 ⟨rfl, d1⟩; obtain ⟨x1, rfl⟩ := Wb.start d1; clear d1) | (go_at_call 24; refine (kind_a _ _ _ _ _ _ _ _ _ _ _ _ _ _ _ _ (by decide)).mono ?_; rintro e w1 ⟨rfl, d1⟩; obtain ⟨x2, rfl⟩ := Wb.next d1; clear d1))
            go_ret
            exact ⟨ret_code (by rw [E.out]; simp [r1, r2, r3, r4, r5, GrI.code]), KB.out x2⟩

end Go.Proofs.YtnehdgapcgbdeaaDoor
