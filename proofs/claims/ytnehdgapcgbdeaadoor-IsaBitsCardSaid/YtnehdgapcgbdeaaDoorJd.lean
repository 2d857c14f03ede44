/-
  Layer 3, the code's walks: Right, operations 1 to 6.
-/
import Derived.Test.YtnehdgapcgbdeaaDoorJc
set_option linter.unusedSimpArgs false
set_option linter.unusedVariables false
namespace Go.Proofs.YtnehdgapcgbdeaaDoor
open Go.RowKit

theorem xright_eq_1 (d n m imm kind : Int) : decide (GrI.right ⟨1, d, n, m, imm, kind⟩) = (GrI.regB false d && (GrI.regB false n && (GrI.regB false m && (GrI.numB 0 0 imm && GrI.kindB 1 d kind 0)))) := by
  rw [Bool.eq_iff_iff]
  simp [GrI.right, GrI.parts, GrI.nums, GrI.regB, GrI.numB, GrI.kindB]
  try omega

set_option maxRecDepth 100000 in
set_option maxHeartbeats 6400000 in
theorem xright_1 (d n m imm kind : Int) (w : World) (hs : ShAt w) (hb0 : -9223372036854775808 ≤ imm) (hb1 : imm ≤ 9223372036854775807) :
    Calls Tryd.prog 12 #[.agg #[.int .i64 1, .int .i64 d, .int .i64 n, .int .i64 m, .int .i64 imm, .int .i64 kind]] w fun e w' => e = .returned (.int .i64 (GrI.code (decide (GrI.right ⟨1, d, n, m, imm, kind⟩)))) ∧ Below w.heap.size w w' := by
  have E := Lib.hid (xright_eq_1 d n m imm kind)
  have NM := Lib.hid (fun wd d n m a k ka w => number_0_0 wd d n m a k ka imm w hb0 hb1)
  have e0 : (w.alloc (.cells #[.int .i64 1, .int .i64 d, .int .i64 n, .int .i64 m, .int .i64 imm, .int .i64 kind] 23)).cell? ⟨0, 9, none⟩ = some (.int .u32 3573751839) := hs.alloc _ 9 (by decide)
  have e1 : (w.alloc (.cells #[.int .i64 1, .int .i64 d, .int .i64 n, .int .i64 m, .int .i64 imm, .int .i64 kind] 23)).cell? ⟨0, 10, none⟩ = some (.bool false) := hs.alloc _ 10 (by decide)
  have e2 : (w.alloc (.cells #[.int .i64 1, .int .i64 d, .int .i64 n, .int .i64 m, .int .i64 imm, .int .i64 kind] 23)).cell? ⟨0, 11, none⟩ = some (.bool false) := hs.alloc _ 11 (by decide)
  have e3 : (w.alloc (.cells #[.int .i64 1, .int .i64 d, .int .i64 n, .int .i64 m, .int .i64 imm, .int .i64 kind] 23)).cell? ⟨0, 12, none⟩ = some (.bool false) := hs.alloc _ 12 (by decide)
  have e4 : (w.alloc (.cells #[.int .i64 1, .int .i64 d, .int .i64 n, .int .i64 m, .int .i64 imm, .int .i64 kind] 23)).cell? ⟨0, 13, none⟩ = some (.int .i64 0) := hs.alloc _ 13 (by decide)
  have e5 : (w.alloc (.cells #[.int .i64 1, .int .i64 d, .int .i64 n, .int .i64 m, .int .i64 imm, .int .i64 kind] 23)).cell? ⟨0, 14, none⟩ = some (.int .i64 0) := hs.alloc _ 14 (by decide)
  have e6 : (w.alloc (.cells #[.int .i64 1, .int .i64 d, .int .i64 n, .int .i64 m, .int .i64 imm, .int .i64 kind] 23)).cell? ⟨0, 15, none⟩ = some (.int .i64 0) := hs.alloc _ 15 (by decide)
  have e7 : (w.alloc (.cells #[.int .i64 1, .int .i64 d, .int .i64 n, .int .i64 m, .int .i64 imm, .int .i64 kind] 23)).cell? ⟨0, 16, none⟩ = some (.int .i64 0) := hs.alloc _ 16 (by decide)
  have e8 : (w.alloc (.cells #[.int .i64 1, .int .i64 d, .int .i64 n, .int .i64 m, .int .i64 imm, .int .i64 kind] 23)).cell? ⟨0, 17, none⟩ = some (.int .i64 0) := hs.alloc _ 17 (by decide)
  have a0 : ∀ x : Wb ((w.alloc (.cells #[.int .i64 1, .int .i64 d, .int .i64 n, .int .i64 m, .int .i64 imm, .int .i64 kind] 23)).alloc (.cells #[.int .u32 3573751839, .bool false, .bool false, .bool false, .int .i64 0, .int .i64 0, .int .i64 0, .int .i64 0, .int .i64 0] 40)), x.at.cell? ⟨w.heap.size, 0, none⟩ = some (.int .i64 1) := fun x => by rw [x.cell _ (by simp; omega)]; simp [World.cell?_alloc_new]
  have a1 : ∀ x : Wb ((w.alloc (.cells #[.int .i64 1, .int .i64 d, .int .i64 n, .int .i64 m, .int .i64 imm, .int .i64 kind] 23)).alloc (.cells #[.int .u32 3573751839, .bool false, .bool false, .bool false, .int .i64 0, .int .i64 0, .int .i64 0, .int .i64 0, .int .i64 0] 40)), x.at.cell? ⟨w.heap.size, 1, none⟩ = some (.int .i64 d) := fun x => by rw [x.cell _ (by simp; omega)]; simp [World.cell?_alloc_new]
  have a2 : ∀ x : Wb ((w.alloc (.cells #[.int .i64 1, .int .i64 d, .int .i64 n, .int .i64 m, .int .i64 imm, .int .i64 kind] 23)).alloc (.cells #[.int .u32 3573751839, .bool false, .bool false, .bool false, .int .i64 0, .int .i64 0, .int .i64 0, .int .i64 0, .int .i64 0] 40)), x.at.cell? ⟨w.heap.size, 2, none⟩ = some (.int .i64 n) := fun x => by rw [x.cell _ (by simp; omega)]; simp [World.cell?_alloc_new]
  have a3 : ∀ x : Wb ((w.alloc (.cells #[.int .i64 1, .int .i64 d, .int .i64 n, .int .i64 m, .int .i64 imm, .int .i64 kind] 23)).alloc (.cells #[.int .u32 3573751839, .bool false, .bool false, .bool false, .int .i64 0, .int .i64 0, .int .i64 0, .int .i64 0, .int .i64 0] 40)), x.at.cell? ⟨w.heap.size, 3, none⟩ = some (.int .i64 m) := fun x => by rw [x.cell _ (by simp; omega)]; simp [World.cell?_alloc_new]
  have a4 : ∀ x : Wb ((w.alloc (.cells #[.int .i64 1, .int .i64 d, .int .i64 n, .int .i64 m, .int .i64 imm, .int .i64 kind] 23)).alloc (.cells #[.int .u32 3573751839, .bool false, .bool false, .bool false, .int .i64 0, .int .i64 0, .int .i64 0, .int .i64 0, .int .i64 0] 40)), x.at.cell? ⟨w.heap.size, 4, none⟩ = some (.int .i64 imm) := fun x => by rw [x.cell _ (by simp; omega)]; simp [World.cell?_alloc_new]
  have a5 : ∀ x : Wb ((w.alloc (.cells #[.int .i64 1, .int .i64 d, .int .i64 n, .int .i64 m, .int .i64 imm, .int .i64 kind] 23)).alloc (.cells #[.int .u32 3573751839, .bool false, .bool false, .bool false, .int .i64 0, .int .i64 0, .int .i64 0, .int .i64 0, .int .i64 0] 40)), x.at.cell? ⟨w.heap.size, 5, none⟩ = some (.int .i64 kind) := fun x => by rw [x.cell _ (by simp; omega)]; simp [World.cell?_alloc_new]
  have b0 : ∀ x : Wb ((w.alloc (.cells #[.int .i64 1, .int .i64 d, .int .i64 n, .int .i64 m, .int .i64 imm, .int .i64 kind] 23)).alloc (.cells #[.int .u32 3573751839, .bool false, .bool false, .bool false, .int .i64 0, .int .i64 0, .int .i64 0, .int .i64 0, .int .i64 0] 40)), x.at.cell? ⟨w.heap.size + 1, 0, none⟩ = some (.int .u32 3573751839) := fun x => by rw [x.cell _ (by simp)]; simp [World.cell?_alloc_new]
  have b1 : ∀ x : Wb ((w.alloc (.cells #[.int .i64 1, .int .i64 d, .int .i64 n, .int .i64 m, .int .i64 imm, .int .i64 kind] 23)).alloc (.cells #[.int .u32 3573751839, .bool false, .bool false, .bool false, .int .i64 0, .int .i64 0, .int .i64 0, .int .i64 0, .int .i64 0] 40)), x.at.cell? ⟨w.heap.size + 1, 1, none⟩ = some (.bool false) := fun x => by rw [x.cell _ (by simp)]; simp [World.cell?_alloc_new]
  have b2 : ∀ x : Wb ((w.alloc (.cells #[.int .i64 1, .int .i64 d, .int .i64 n, .int .i64 m, .int .i64 imm, .int .i64 kind] 23)).alloc (.cells #[.int .u32 3573751839, .bool false, .bool false, .bool false, .int .i64 0, .int .i64 0, .int .i64 0, .int .i64 0, .int .i64 0] 40)), x.at.cell? ⟨w.heap.size + 1, 2, none⟩ = some (.bool false) := fun x => by rw [x.cell _ (by simp)]; simp [World.cell?_alloc_new]
  have b3 : ∀ x : Wb ((w.alloc (.cells #[.int .i64 1, .int .i64 d, .int .i64 n, .int .i64 m, .int .i64 imm, .int .i64 kind] 23)).alloc (.cells #[.int .u32 3573751839, .bool false, .bool false, .bool false, .int .i64 0, .int .i64 0, .int .i64 0, .int .i64 0, .int .i64 0] 40)), x.at.cell? ⟨w.heap.size + 1, 3, none⟩ = some (.bool false) := fun x => by rw [x.cell _ (by simp)]; simp [World.cell?_alloc_new]
  have b4 : ∀ x : Wb ((w.alloc (.cells #[.int .i64 1, .int .i64 d, .int .i64 n, .int .i64 m, .int .i64 imm, .int .i64 kind] 23)).alloc (.cells #[.int .u32 3573751839, .bool false, .bool false, .bool false, .int .i64 0, .int .i64 0, .int .i64 0, .int .i64 0, .int .i64 0] 40)), x.at.cell? ⟨w.heap.size + 1, 4, none⟩ = some (.int .i64 0) := fun x => by rw [x.cell _ (by simp)]; simp [World.cell?_alloc_new]
  have b5 : ∀ x : Wb ((w.alloc (.cells #[.int .i64 1, .int .i64 d, .int .i64 n, .int .i64 m, .int .i64 imm, .int .i64 kind] 23)).alloc (.cells #[.int .u32 3573751839, .bool false, .bool false, .bool false, .int .i64 0, .int .i64 0, .int .i64 0, .int .i64 0, .int .i64 0] 40)), x.at.cell? ⟨w.heap.size + 1, 5, none⟩ = some (.int .i64 0) := fun x => by rw [x.cell _ (by simp)]; simp [World.cell?_alloc_new]
  have b6 : ∀ x : Wb ((w.alloc (.cells #[.int .i64 1, .int .i64 d, .int .i64 n, .int .i64 m, .int .i64 imm, .int .i64 kind] 23)).alloc (.cells #[.int .u32 3573751839, .bool false, .bool false, .bool false, .int .i64 0, .int .i64 0, .int .i64 0, .int .i64 0, .int .i64 0] 40)), x.at.cell? ⟨w.heap.size + 1, 6, none⟩ = some (.int .i64 0) := fun x => by rw [x.cell _ (by simp)]; simp [World.cell?_alloc_new]
  have b7 : ∀ x : Wb ((w.alloc (.cells #[.int .i64 1, .int .i64 d, .int .i64 n, .int .i64 m, .int .i64 imm, .int .i64 kind] 23)).alloc (.cells #[.int .u32 3573751839, .bool false, .bool false, .bool false, .int .i64 0, .int .i64 0, .int .i64 0, .int .i64 0, .int .i64 0] 40)), x.at.cell? ⟨w.heap.size + 1, 7, none⟩ = some (.int .i64 0) := fun x => by rw [x.cell _ (by simp)]; simp [World.cell?_alloc_new]
  have b8 : ∀ x : Wb ((w.alloc (.cells #[.int .i64 1, .int .i64 d, .int .i64 n, .int .i64 m, .int .i64 imm, .int .i64 kind] 23)).alloc (.cells #[.int .u32 3573751839, .bool false, .bool false, .bool false, .int .i64 0, .int .i64 0, .int .i64 0, .int .i64 0, .int .i64 0] 40)), x.at.cell? ⟨w.heap.size + 1, 8, none⟩ = some (.int .i64 0) := fun x => by rw [x.cell _ (by simp)]; simp [World.cell?_alloc_new]
  have KB := Lib.hid (fun (x : Wb ((w.alloc (.cells #[.int .i64 1, .int .i64 d, .int .i64 n, .int .i64 m, .int .i64 imm, .int .i64 kind] 23)).alloc (.cells #[.int .u32 3573751839, .bool false, .bool false, .bool false, .int .i64 0, .int .i64 0, .int .i64 0, .int .i64 0, .int .i64 0] 40))) => ((((Below.refl _ _).alloc (Nat.le_refl _) _).alloc (by simp) _).trans (x.bel.mono (by simp; omega)) : Below w.heap.size w x.at))
  clear hb0 hb1 hs
  cases r1 : GrI.regB false d with
  | false =>
    go_enter Tryd.func12, Tryd.ntmps12
    go_wp2_with (first | (go_at_call 22; refine (register_any _ _ _).mono ?_; rintro e w1 ⟨rfl, rfl⟩) | (go_at_call 23; refine (NM.out _ _ _ _ _ _ _ _).mono ?_; rintro e w1 ⟨rfl, d1⟩; obtain ⟨x1, rfl⟩ := Wb.start d1; clear d1) | (go_at_call 24; refine (kind_c _ _ _ _ _ _ _ _ _ _ _ _ _ _ _ _ (by decide) (by decide) (by decide)).mono ?_; rintro e w1 ⟨rfl, d1⟩; obtain ⟨x2, rfl⟩ := Wb.next d1; clear d1))
    go_ret
    exact ⟨ret_code (by rw [E.out]; simp [r1, GrI.code]), (((Below.refl _ _).alloc (Nat.le_refl _) _).alloc (by simp) _)⟩
  | true =>
    cases r2 : GrI.regB false n with
    | false =>
      go_enter Tryd.func12, Tryd.ntmps12
      go_wp2_with (first | (go_at_call 22; refine (register_any _ _ _).mono ?_; rintro e w1 ⟨rfl, rfl⟩) | (go_at_call 23; refine (NM.out _ _ _ _ _ _ _ _).mono ?_; rintro e w1 ⟨rfl, d1⟩; obtain ⟨x1, rfl⟩ := Wb.start d1; clear d1) | (go_at_call 24; refine (kind_c _ _ _ _ _ _ _ _ _ _ _ _ _ _ _ _ (by decide) (by decide) (by decide)).mono ?_; rintro e w1 ⟨rfl, d1⟩; obtain ⟨x2, rfl⟩ := Wb.next d1; clear d1))
      go_ret
      exact ⟨ret_code (by rw [E.out]; simp [r1, r2, GrI.code]), (((Below.refl _ _).alloc (Nat.le_refl _) _).alloc (by simp) _)⟩
    | true =>
      cases r3 : GrI.regB false m with
      | false =>
        go_enter Tryd.func12, Tryd.ntmps12
        go_wp2_with (first | (go_at_call 22; refine (register_any _ _ _).mono ?_; rintro e w1 ⟨rfl, rfl⟩) | (go_at_call 23; refine (NM.out _ _ _ _ _ _ _ _).mono ?_; rintro e w1 ⟨rfl, d1⟩; obtain ⟨x1, rfl⟩ := Wb.start d1; clear d1) | (go_at_call 24; refine (kind_c _ _ _ _ _ _ _ _ _ _ _ _ _ _ _ _ (by decide) (by decide) (by decide)).mono ?_; rintro e w1 ⟨rfl, d1⟩; obtain ⟨x2, rfl⟩ := Wb.next d1; clear d1))
        go_ret
        exact ⟨ret_code (by rw [E.out]; simp [r1, r2, r3, GrI.code]), (((Below.refl _ _).alloc (Nat.le_refl _) _).alloc (by simp) _)⟩
      | true =>
        cases r4 : GrI.numB 0 0 imm with
        | false =>
          go_enter Tryd.func12, Tryd.ntmps12
          go_wp2_with (first | (go_at_call 22; refine (register_any _ _ _).mono ?_; rintro e w1 ⟨rfl, rfl⟩) | (go_at_call 23; refine (NM.out _ _ _ _ _ _ _ _).mono ?_; rintro e w1 ⟨rfl, d1⟩; obtain ⟨x1, rfl⟩ := Wb.start d1; clear d1) | (go_at_call 24; refine (kind_c _ _ _ _ _ _ _ _ _ _ _ _ _ _ _ _ (by decide) (by decide) (by decide)).mono ?_; rintro e w1 ⟨rfl, d1⟩; obtain ⟨x2, rfl⟩ := Wb.next d1; clear d1))
          go_ret
          exact ⟨ret_code (by rw [E.out]; simp [r1, r2, r3, r4, GrI.code]), KB.out x1⟩
        | true =>
          cases r5 : GrI.kindB 1 d kind 0 with
          | false =>
            go_enter Tryd.func12, Tryd.ntmps12
            go_wp2_with (first | (go_at_call 22; refine (register_any _ _ _).mono ?_; rintro e w1 ⟨rfl, rfl⟩) | (go_at_call 23; refine (NM.out _ _ _ _ _ _ _ _).mono ?_; rintro e w1 ⟨rfl, d1⟩; obtain ⟨x1, rfl⟩ := Wb.start d1; clear d1) | (go_at_call 24; refine (kind_c _ _ _ _ _ _ _ _ _ _ _ _ _ _ _ _ (by decide) (by decide) (by decide)).mono ?_; rintro e w1 ⟨rfl, d1⟩; obtain ⟨x2, rfl⟩ := Wb.next d1; clear d1))
            go_ret
            exact ⟨ret_code (by rw [E.out]; simp [r1, r2, r3, r4, r5, GrI.code]), KB.out x2⟩
          | true =>
            go_enter Tryd.func12, Tryd.ntmps12
            go_wp2_with (first | (go_at_call 22; refine (register_any _ _ _).mono ?_; rintro e w1 ⟨rfl, rfl⟩) | (go_at_call 23; refine (NM.out _ _ _ _ _ _ _ _).mono ?_; rintro e w1 ⟨rfl, d1⟩; obtain ⟨x1, rfl⟩ := Wb.start d1; clear d1) | (go_at_call 24; refine (kind_c _ _ _ _ _ _ _ _ _ _ _ _ _ _ _ _ (by decide) (by decide) (by decide)).mono ?_; rintro e w1 ⟨rfl, d1⟩; obtain ⟨x2, rfl⟩ := Wb.next d1; clear d1))
            go_ret
            exact ⟨ret_code (by rw [E.out]; simp [r1, r2, r3, r4, r5, GrI.code]), KB.out x2⟩

theorem xright_eq_2 (d n m imm kind : Int) : decide (GrI.right ⟨2, d, n, m, imm, kind⟩) = (GrI.regB true d && (GrI.regB true n && (GrI.regB false m && (GrI.numB 12 8 imm && GrI.kindB 2 d kind 0)))) := by
  rw [Bool.eq_iff_iff]
  simp [GrI.right, GrI.parts, GrI.nums, GrI.regB, GrI.numB, GrI.kindB]
  try omega

set_option maxRecDepth 100000 in
set_option maxHeartbeats 6400000 in
theorem xright_2 (d n m imm kind : Int) (w : World) (hs : ShAt w) (hb0 : -9223372036854775808 ≤ imm) (hb1 : imm ≤ 9223372036854775807) :
    Calls Tryd.prog 12 #[.agg #[.int .i64 2, .int .i64 d, .int .i64 n, .int .i64 m, .int .i64 imm, .int .i64 kind]] w fun e w' => e = .returned (.int .i64 (GrI.code (decide (GrI.right ⟨2, d, n, m, imm, kind⟩)))) ∧ Below w.heap.size w w' := by
  have E := Lib.hid (xright_eq_2 d n m imm kind)
  have NM := Lib.hid (fun wd d n m a k ka w => number_12_8 wd d n m a k ka imm w hb0 hb1)
  have e0 : (w.alloc (.cells #[.int .i64 2, .int .i64 d, .int .i64 n, .int .i64 m, .int .i64 imm, .int .i64 kind] 23)).cell? ⟨0, 18, none⟩ = some (.int .u32 4181721088) := hs.alloc _ 18 (by decide)
  have e1 : (w.alloc (.cells #[.int .i64 2, .int .i64 d, .int .i64 n, .int .i64 m, .int .i64 imm, .int .i64 kind] 23)).cell? ⟨0, 19, none⟩ = some (.bool true) := hs.alloc _ 19 (by decide)
  have e2 : (w.alloc (.cells #[.int .i64 2, .int .i64 d, .int .i64 n, .int .i64 m, .int .i64 imm, .int .i64 kind] 23)).cell? ⟨0, 20, none⟩ = some (.bool true) := hs.alloc _ 20 (by decide)
  have e3 : (w.alloc (.cells #[.int .i64 2, .int .i64 d, .int .i64 n, .int .i64 m, .int .i64 imm, .int .i64 kind] 23)).cell? ⟨0, 21, none⟩ = some (.bool false) := hs.alloc _ 21 (by decide)
  have e4 : (w.alloc (.cells #[.int .i64 2, .int .i64 d, .int .i64 n, .int .i64 m, .int .i64 imm, .int .i64 kind] 23)).cell? ⟨0, 22, none⟩ = some (.int .i64 12) := hs.alloc _ 22 (by decide)
  have e5 : (w.alloc (.cells #[.int .i64 2, .int .i64 d, .int .i64 n, .int .i64 m, .int .i64 imm, .int .i64 kind] 23)).cell? ⟨0, 23, none⟩ = some (.int .i64 10) := hs.alloc _ 23 (by decide)
  have e6 : (w.alloc (.cells #[.int .i64 2, .int .i64 d, .int .i64 n, .int .i64 m, .int .i64 imm, .int .i64 kind] 23)).cell? ⟨0, 24, none⟩ = some (.int .i64 8) := hs.alloc _ 24 (by decide)
  have e7 : (w.alloc (.cells #[.int .i64 2, .int .i64 d, .int .i64 n, .int .i64 m, .int .i64 imm, .int .i64 kind] 23)).cell? ⟨0, 25, none⟩ = some (.int .i64 0) := hs.alloc _ 25 (by decide)
  have e8 : (w.alloc (.cells #[.int .i64 2, .int .i64 d, .int .i64 n, .int .i64 m, .int .i64 imm, .int .i64 kind] 23)).cell? ⟨0, 26, none⟩ = some (.int .i64 0) := hs.alloc _ 26 (by decide)
  have a0 : ∀ x : Wb ((w.alloc (.cells #[.int .i64 2, .int .i64 d, .int .i64 n, .int .i64 m, .int .i64 imm, .int .i64 kind] 23)).alloc (.cells #[.int .u32 4181721088, .bool true, .bool true, .bool false, .int .i64 12, .int .i64 10, .int .i64 8, .int .i64 0, .int .i64 0] 40)), x.at.cell? ⟨w.heap.size, 0, none⟩ = some (.int .i64 2) := fun x => by rw [x.cell _ (by simp; omega)]; simp [World.cell?_alloc_new]
  have a1 : ∀ x : Wb ((w.alloc (.cells #[.int .i64 2, .int .i64 d, .int .i64 n, .int .i64 m, .int .i64 imm, .int .i64 kind] 23)).alloc (.cells #[.int .u32 4181721088, .bool true, .bool true, .bool false, .int .i64 12, .int .i64 10, .int .i64 8, .int .i64 0, .int .i64 0] 40)), x.at.cell? ⟨w.heap.size, 1, none⟩ = some (.int .i64 d) := fun x => by rw [x.cell _ (by simp; omega)]; simp [World.cell?_alloc_new]
  have a2 : ∀ x : Wb ((w.alloc (.cells #[.int .i64 2, .int .i64 d, .int .i64 n, .int .i64 m, .int .i64 imm, .int .i64 kind] 23)).alloc (.cells #[.int .u32 4181721088, .bool true, .bool true, .bool false, .int .i64 12, .int .i64 10, .int .i64 8, .int .i64 0, .int .i64 0] 40)), x.at.cell? ⟨w.heap.size, 2, none⟩ = some (.int .i64 n) := fun x => by rw [x.cell _ (by simp; omega)]; simp [World.cell?_alloc_new]
  have a3 : ∀ x : Wb ((w.alloc (.cells #[.int .i64 2, .int .i64 d, .int .i64 n, .int .i64 m, .int .i64 imm, .int .i64 kind] 23)).alloc (.cells #[.int .u32 4181721088, .bool true, .bool true, .bool false, .int .i64 12, .int .i64 10, .int .i64 8, .int .i64 0, .int .i64 0] 40)), x.at.cell? ⟨w.heap.size, 3, none⟩ = some (.int .i64 m) := fun x => by rw [x.cell _ (by simp; omega)]; simp [World.cell?_alloc_new]
  have a4 : ∀ x : Wb ((w.alloc (.cells #[.int .i64 2, .int .i64 d, .int .i64 n, .int .i64 m, .int .i64 imm, .int .i64 kind] 23)).alloc (.cells #[.int .u32 4181721088, .bool true, .bool true, .bool false, .int .i64 12, .int .i64 10, .int .i64 8, .int .i64 0, .int .i64 0] 40)), x.at.cell? ⟨w.heap.size, 4, none⟩ = some (.int .i64 imm) := fun x => by rw [x.cell _ (by simp; omega)]; simp [World.cell?_alloc_new]
  have a5 : ∀ x : Wb ((w.alloc (.cells #[.int .i64 2, .int .i64 d, .int .i64 n, .int .i64 m, .int .i64 imm, .int .i64 kind] 23)).alloc (.cells #[.int .u32 4181721088, .bool true, .bool true, .bool false, .int .i64 12, .int .i64 10, .int .i64 8, .int .i64 0, .int .i64 0] 40)), x.at.cell? ⟨w.heap.size, 5, none⟩ = some (.int .i64 kind) := fun x => by rw [x.cell _ (by simp; omega)]; simp [World.cell?_alloc_new]
  have b0 : ∀ x : Wb ((w.alloc (.cells #[.int .i64 2, .int .i64 d, .int .i64 n, .int .i64 m, .int .i64 imm, .int .i64 kind] 23)).alloc (.cells #[.int .u32 4181721088, .bool true, .bool true, .bool false, .int .i64 12, .int .i64 10, .int .i64 8, .int .i64 0, .int .i64 0] 40)), x.at.cell? ⟨w.heap.size + 1, 0, none⟩ = some (.int .u32 4181721088) := fun x => by rw [x.cell _ (by simp)]; simp [World.cell?_alloc_new]
  have b1 : ∀ x : Wb ((w.alloc (.cells #[.int .i64 2, .int .i64 d, .int .i64 n, .int .i64 m, .int .i64 imm, .int .i64 kind] 23)).alloc (.cells #[.int .u32 4181721088, .bool true, .bool true, .bool false, .int .i64 12, .int .i64 10, .int .i64 8, .int .i64 0, .int .i64 0] 40)), x.at.cell? ⟨w.heap.size + 1, 1, none⟩ = some (.bool true) := fun x => by rw [x.cell _ (by simp)]; simp [World.cell?_alloc_new]
  have b2 : ∀ x : Wb ((w.alloc (.cells #[.int .i64 2, .int .i64 d, .int .i64 n, .int .i64 m, .int .i64 imm, .int .i64 kind] 23)).alloc (.cells #[.int .u32 4181721088, .bool true, .bool true, .bool false, .int .i64 12, .int .i64 10, .int .i64 8, .int .i64 0, .int .i64 0] 40)), x.at.cell? ⟨w.heap.size + 1, 2, none⟩ = some (.bool true) := fun x => by rw [x.cell _ (by simp)]; simp [World.cell?_alloc_new]
  have b3 : ∀ x : Wb ((w.alloc (.cells #[.int .i64 2, .int .i64 d, .int .i64 n, .int .i64 m, .int .i64 imm, .int .i64 kind] 23)).alloc (.cells #[.int .u32 4181721088, .bool true, .bool true, .bool false, .int .i64 12, .int .i64 10, .int .i64 8, .int .i64 0, .int .i64 0] 40)), x.at.cell? ⟨w.heap.size + 1, 3, none⟩ = some (.bool false) := fun x => by rw [x.cell _ (by simp)]; simp [World.cell?_alloc_new]
  have b4 : ∀ x : Wb ((w.alloc (.cells #[.int .i64 2, .int .i64 d, .int .i64 n, .int .i64 m, .int .i64 imm, .int .i64 kind] 23)).alloc (.cells #[.int .u32 4181721088, .bool true, .bool true, .bool false, .int .i64 12, .int .i64 10, .int .i64 8, .int .i64 0, .int .i64 0] 40)), x.at.cell? ⟨w.heap.size + 1, 4, none⟩ = some (.int .i64 12) := fun x => by rw [x.cell _ (by simp)]; simp [World.cell?_alloc_new]
  have b5 : ∀ x : Wb ((w.alloc (.cells #[.int .i64 2, .int .i64 d, .int .i64 n, .int .i64 m, .int .i64 imm, .int .i64 kind] 23)).alloc (.cells #[.int .u32 4181721088, .bool true, .bool true, .bool false, .int .i64 12, .int .i64 10, .int .i64 8, .int .i64 0, .int .i64 0] 40)), x.at.cell? ⟨w.heap.size + 1, 5, none⟩ = some (.int .i64 10) := fun x => by rw [x.cell _ (by simp)]; simp [World.cell?_alloc_new]
  have b6 : ∀ x : Wb ((w.alloc (.cells #[.int .i64 2, .int .i64 d, .int .i64 n, .int .i64 m, .int .i64 imm, .int .i64 kind] 23)).alloc (.cells #[.int .u32 4181721088, .bool true, .bool true, .bool false, .int .i64 12, .int .i64 10, .int .i64 8, .int .i64 0, .int .i64 0] 40)), x.at.cell? ⟨w.heap.size + 1, 6, none⟩ = some (.int .i64 8) := fun x => by rw [x.cell _ (by simp)]; simp [World.cell?_alloc_new]
  have b7 : ∀ x : Wb ((w.alloc (.cells #[.int .i64 2, .int .i64 d, .int .i64 n, .int .i64 m, .int .i64 imm, .int .i64 kind] 23)).alloc (.cells #[.int .u32 4181721088, .bool true, .bool true, .bool false, .int .i64 12, .int .i64 10, .int .i64 8, .int .i64 0, .int .i64 0] 40)), x.at.cell? ⟨w.heap.size + 1, 7, none⟩ = some (.int .i64 0) := fun x => by rw [x.cell _ (by simp)]; simp [World.cell?_alloc_new]
  have b8 : ∀ x : Wb ((w.alloc (.cells #[.int .i64 2, .int .i64 d, .int .i64 n, .int .i64 m, .int .i64 imm, .int .i64 kind] 23)).alloc (.cells #[.int .u32 4181721088, .bool true, .bool true, .bool false, .int .i64 12, .int .i64 10, .int .i64 8, .int .i64 0, .int .i64 0] 40)), x.at.cell? ⟨w.heap.size + 1, 8, none⟩ = some (.int .i64 0) := fun x => by rw [x.cell _ (by simp)]; simp [World.cell?_alloc_new]
  have KB := Lib.hid (fun (x : Wb ((w.alloc (.cells #[.int .i64 2, .int .i64 d, .int .i64 n, .int .i64 m, .int .i64 imm, .int .i64 kind] 23)).alloc (.cells #[.int .u32 4181721088, .bool true, .bool true, .bool false, .int .i64 12, .int .i64 10, .int .i64 8, .int .i64 0, .int .i64 0] 40))) => ((((Below.refl _ _).alloc (Nat.le_refl _) _).alloc (by simp) _).trans (x.bel.mono (by simp; omega)) : Below w.heap.size w x.at))
  clear hb0 hb1 hs
  cases r1 : GrI.regB true d with
  | false =>
    go_enter Tryd.func12, Tryd.ntmps12
    go_wp2_with (first | (go_at_call 22; refine (register_any _ _ _).mono ?_; rintro e w1 ⟨rfl, rfl⟩) | (go_at_call 23; refine (NM.out _ _ _ _ _ _ _ _).mono ?_; rintro e w1 ⟨rfl, d1⟩; obtain ⟨x1, rfl⟩ := Wb.start d1; clear d1) | (go_at_call 24; refine (kind_c _ _ _ _ _ _ _ _ _ _ _ _ _ _ _ _ (by decide) (by decide) (by decide)).mono ?_; rintro e w1 ⟨rfl, d1⟩; obtain ⟨x2, rfl⟩ := Wb.next d1; clear d1))
    go_ret
    exact ⟨ret_code (by rw [E.out]; simp [r1, GrI.code]), (((Below.refl _ _).alloc (Nat.le_refl _) _).alloc (by simp) _)⟩
  | true =>
    cases r2 : GrI.regB true n with
    | false =>
      go_enter Tryd.func12, Tryd.ntmps12
      go_wp2_with (first | (go_at_call 22; refine (register_any _ _ _).mono ?_; rintro e w1 ⟨rfl, rfl⟩) | (go_at_call 23; refine (NM.out _ _ _ _ _ _ _ _).mono ?_; rintro e w1 ⟨rfl, d1⟩; obtain ⟨x1, rfl⟩ := Wb.start d1; clear d1) | (go_at_call 24; refine (kind_c _ _ _ _ _ _ _ _ _ _ _ _ _ _ _ _ (by decide) (by decide) (by decide)).mono ?_; rintro e w1 ⟨rfl, d1⟩; obtain ⟨x2, rfl⟩ := Wb.next d1; clear d1))
      go_ret
      exact ⟨ret_code (by rw [E.out]; simp [r1, r2, GrI.code]), (((Below.refl _ _).alloc (Nat.le_refl _) _).alloc (by simp) _)⟩
    | true =>
      cases r3 : GrI.regB false m with
      | false =>
        go_enter Tryd.func12, Tryd.ntmps12
        go_wp2_with (first | (go_at_call 22; refine (register_any _ _ _).mono ?_; rintro e w1 ⟨rfl, rfl⟩) | (go_at_call 23; refine (NM.out _ _ _ _ _ _ _ _).mono ?_; rintro e w1 ⟨rfl, d1⟩; obtain ⟨x1, rfl⟩ := Wb.start d1; clear d1) | (go_at_call 24; refine (kind_c _ _ _ _ _ _ _ _ _ _ _ _ _ _ _ _ (by decide) (by decide) (by decide)).mono ?_; rintro e w1 ⟨rfl, d1⟩; obtain ⟨x2, rfl⟩ := Wb.next d1; clear d1))
        go_ret
        exact ⟨ret_code (by rw [E.out]; simp [r1, r2, r3, GrI.code]), (((Below.refl _ _).alloc (Nat.le_refl _) _).alloc (by simp) _)⟩
      | true =>
        cases r4 : GrI.numB 12 8 imm with
        | false =>
          go_enter Tryd.func12, Tryd.ntmps12
          go_wp2_with (first | (go_at_call 22; refine (register_any _ _ _).mono ?_; rintro e w1 ⟨rfl, rfl⟩) | (go_at_call 23; refine (NM.out _ _ _ _ _ _ _ _).mono ?_; rintro e w1 ⟨rfl, d1⟩; obtain ⟨x1, rfl⟩ := Wb.start d1; clear d1) | (go_at_call 24; refine (kind_c _ _ _ _ _ _ _ _ _ _ _ _ _ _ _ _ (by decide) (by decide) (by decide)).mono ?_; rintro e w1 ⟨rfl, d1⟩; obtain ⟨x2, rfl⟩ := Wb.next d1; clear d1))
          go_ret
          exact ⟨ret_code (by rw [E.out]; simp [r1, r2, r3, r4, GrI.code]), KB.out x1⟩
        | true =>
          cases r5 : GrI.kindB 2 d kind 0 with
          | false =>
            go_enter Tryd.func12, Tryd.ntmps12
            go_wp2_with (first | (go_at_call 22; refine (register_any _ _ _).mono ?_; rintro e w1 ⟨rfl, rfl⟩) | (go_at_call 23; refine (NM.out _ _ _ _ _ _ _ _).mono ?_; rintro e w1 ⟨rfl, d1⟩; obtain ⟨x1, rfl⟩ := Wb.start d1; clear d1) | (go_at_call 24; refine (kind_c _ _ _ _ _ _ _ _ _ _ _ _ _ _ _ _ (by decide) (by decide) (by decide)).mono ?_; rintro e w1 ⟨rfl, d1⟩; obtain ⟨x2, rfl⟩ := Wb.next d1; clear d1))
            go_ret
            exact ⟨ret_code (by rw [E.out]; simp [r1, r2, r3, r4, r5, GrI.code]), KB.out x2⟩
          | true =>
            go_enter Tryd.func12, Tryd.ntmps12
            go_wp2_with (first | (go_at_call 22; refine (register_any _ _ _).mono ?_; rintro e w1 ⟨rfl, rfl⟩) | (go_at_call 23; refine (NM.out _ _ _ _ _ _ _ _).mono ?_; rintro e w1 ⟨rfl, d1⟩; obtain ⟨x1, rfl⟩ := Wb.start d1; clear d1) | (go_at_call 24; refine (kind_c _ _ _ _ _ _ _ _ _ _ _ _ _ _ _ _ (by decide) (by decide) (by decide)).mono ?_; rintro e w1 ⟨rfl, d1⟩; obtain ⟨x2, rfl⟩ := Wb.next d1; clear d1))
            go_ret
            exact ⟨ret_code (by rw [E.out]; simp [r1, r2, r3, r4, r5, GrI.code]), KB.out x2⟩

theorem xright_eq_3 (d n m imm kind : Int) : decide (GrI.right ⟨3, d, n, m, imm, kind⟩) = (GrI.regB true d && (GrI.regB true n && (GrI.regB false m && (GrI.numB 12 8 imm && GrI.kindB 3 d kind 0)))) := by
  rw [Bool.eq_iff_iff]
  simp [GrI.right, GrI.parts, GrI.nums, GrI.regB, GrI.numB, GrI.kindB]
  try omega

set_option maxRecDepth 100000 in
set_option maxHeartbeats 6400000 in
theorem xright_3 (d n m imm kind : Int) (w : World) (hs : ShAt w) (hb0 : -9223372036854775808 ≤ imm) (hb1 : imm ≤ 9223372036854775807) :
    Calls Tryd.prog 12 #[.agg #[.int .i64 3, .int .i64 d, .int .i64 n, .int .i64 m, .int .i64 imm, .int .i64 kind]] w fun e w' => e = .returned (.int .i64 (GrI.code (decide (GrI.right ⟨3, d, n, m, imm, kind⟩)))) ∧ Below w.heap.size w w' := by
  have E := Lib.hid (xright_eq_3 d n m imm kind)
  have NM := Lib.hid (fun wd d n m a k ka w => number_12_8 wd d n m a k ka imm w hb0 hb1)
  have e0 : (w.alloc (.cells #[.int .i64 3, .int .i64 d, .int .i64 n, .int .i64 m, .int .i64 imm, .int .i64 kind] 23)).cell? ⟨0, 27, none⟩ = some (.int .u32 4177526784) := hs.alloc _ 27 (by decide)
  have e1 : (w.alloc (.cells #[.int .i64 3, .int .i64 d, .int .i64 n, .int .i64 m, .int .i64 imm, .int .i64 kind] 23)).cell? ⟨0, 28, none⟩ = some (.bool true) := hs.alloc _ 28 (by decide)
  have e2 : (w.alloc (.cells #[.int .i64 3, .int .i64 d, .int .i64 n, .int .i64 m, .int .i64 imm, .int .i64 kind] 23)).cell? ⟨0, 29, none⟩ = some (.bool true) := hs.alloc _ 29 (by decide)
  have e3 : (w.alloc (.cells #[.int .i64 3, .int .i64 d, .int .i64 n, .int .i64 m, .int .i64 imm, .int .i64 kind] 23)).cell? ⟨0, 30, none⟩ = some (.bool false) := hs.alloc _ 30 (by decide)
  have e4 : (w.alloc (.cells #[.int .i64 3, .int .i64 d, .int .i64 n, .int .i64 m, .int .i64 imm, .int .i64 kind] 23)).cell? ⟨0, 31, none⟩ = some (.int .i64 12) := hs.alloc _ 31 (by decide)
  have e5 : (w.alloc (.cells #[.int .i64 3, .int .i64 d, .int .i64 n, .int .i64 m, .int .i64 imm, .int .i64 kind] 23)).cell? ⟨0, 32, none⟩ = some (.int .i64 10) := hs.alloc _ 32 (by decide)
  have e6 : (w.alloc (.cells #[.int .i64 3, .int .i64 d, .int .i64 n, .int .i64 m, .int .i64 imm, .int .i64 kind] 23)).cell? ⟨0, 33, none⟩ = some (.int .i64 8) := hs.alloc _ 33 (by decide)
  have e7 : (w.alloc (.cells #[.int .i64 3, .int .i64 d, .int .i64 n, .int .i64 m, .int .i64 imm, .int .i64 kind] 23)).cell? ⟨0, 34, none⟩ = some (.int .i64 0) := hs.alloc _ 34 (by decide)
  have e8 : (w.alloc (.cells #[.int .i64 3, .int .i64 d, .int .i64 n, .int .i64 m, .int .i64 imm, .int .i64 kind] 23)).cell? ⟨0, 35, none⟩ = some (.int .i64 0) := hs.alloc _ 35 (by decide)
  have a0 : ∀ x : Wb ((w.alloc (.cells #[.int .i64 3, .int .i64 d, .int .i64 n, .int .i64 m, .int .i64 imm, .int .i64 kind] 23)).alloc (.cells #[.int .u32 4177526784, .bool true, .bool true, .bool false, .int .i64 12, .int .i64 10, .int .i64 8, .int .i64 0, .int .i64 0] 40)), x.at.cell? ⟨w.heap.size, 0, none⟩ = some (.int .i64 3) := fun x => by rw [x.cell _ (by simp; omega)]; simp [World.cell?_alloc_new]
  have a1 : ∀ x : Wb ((w.alloc (.cells #[.int .i64 3, .int .i64 d, .int .i64 n, .int .i64 m, .int .i64 imm, .int .i64 kind] 23)).alloc (.cells #[.int .u32 4177526784, .bool true, .bool true, .bool false, .int .i64 12, .int .i64 10, .int .i64 8, .int .i64 0, .int .i64 0] 40)), x.at.cell? ⟨w.heap.size, 1, none⟩ = some (.int .i64 d) := fun x => by rw [x.cell _ (by simp; omega)]; simp [World.cell?_alloc_new]
  have a2 : ∀ x : Wb ((w.alloc (.cells #[.int .i64 3, .int .i64 d, .int .i64 n, .int .i64 m, .int .i64 imm, .int .i64 kind] 23)).alloc (.cells #[.int .u32 4177526784, .bool true, .bool true, .bool false, .int .i64 12, .int .i64 10, .int .i64 8, .int .i64 0, .int .i64 0] 40)), x.at.cell? ⟨w.heap.size, 2, none⟩ = some (.int .i64 n) := fun x => by rw [x.cell _ (by simp; omega)]; simp [World.cell?_alloc_new]
  have a3 : ∀ x : Wb ((w.alloc (.cells #[.int .i64 3, .int .i64 d, .int .i64 n, .int .i64 m, .int .i64 imm, .int .i64 kind] 23)).alloc (.cells #[.int .u32 4177526784, .bool true, .bool true, .bool false, .int .i64 12, .int .i64 10, .int .i64 8, .int .i64 0, .int .i64 0] 40)), x.at.cell? ⟨w.heap.size, 3, none⟩ = some (.int .i64 m) := fun x => by rw [x.cell _ (by simp; omega)]; simp [World.cell?_alloc_new]
  have a4 : ∀ x : Wb ((w.alloc (.cells #[.int .i64 3, .int .i64 d, .int .i64 n, .int .i64 m, .int .i64 imm, .int .i64 kind] 23)).alloc (.cells #[.int .u32 4177526784, .bool true, .bool true, .bool false, .int .i64 12, .int .i64 10, .int .i64 8, .int .i64 0, .int .i64 0] 40)), x.at.cell? ⟨w.heap.size, 4, none⟩ = some (.int .i64 imm) := fun x => by rw [x.cell _ (by simp; omega)]; simp [World.cell?_alloc_new]
  have a5 : ∀ x : Wb ((w.alloc (.cells #[.int .i64 3, .int .i64 d, .int .i64 n, .int .i64 m, .int .i64 imm, .int .i64 kind] 23)).alloc (.cells #[.int .u32 4177526784, .bool true, .bool true, .bool false, .int .i64 12, .int .i64 10, .int .i64 8, .int .i64 0, .int .i64 0] 40)), x.at.cell? ⟨w.heap.size, 5, none⟩ = some (.int .i64 kind) := fun x => by rw [x.cell _ (by simp; omega)]; simp [World.cell?_alloc_new]
  have b0 : ∀ x : Wb ((w.alloc (.cells #[.int .i64 3, .int .i64 d, .int .i64 n, .int .i64 m, .int .i64 imm, .int .i64 kind] 23)).alloc (.cells #[.int .u32 4177526784, .bool true, .bool true, .bool false, .int .i64 12, .int .i64 10, .int .i64 8, .int .i64 0, .int .i64 0] 40)), x.at.cell? ⟨w.heap.size + 1, 0, none⟩ = some (.int .u32 4177526784) := fun x => by rw [x.cell _ (by simp)]; simp [World.cell?_alloc_new]
  have b1 : ∀ x : Wb ((w.alloc (.cells #[.int .i64 3, .int .i64 d, .int .i64 n, .int .i64 m, .int .i64 imm, .int .i64 kind] 23)).alloc (.cells #[.int .u32 4177526784, .bool true, .bool true, .bool false, .int .i64 12, .int .i64 10, .int .i64 8, .int .i64 0, .int .i64 0] 40)), x.at.cell? ⟨w.heap.size + 1, 1, none⟩ = some (.bool true) := fun x => by rw [x.cell _ (by simp)]; simp [World.cell?_alloc_new]
  have b2 : ∀ x : Wb ((w.alloc (.cells #[.int .i64 3, .int .i64 d, .int .i64 n, .int .i64 m, .int .i64 imm, .int .i64 kind] 23)).alloc (.cells #[.int .u32 4177526784, .bool true, .bool true, .bool false, .int .i64 12, .int .i64 10, .int .i64 8, .int .i64 0, .int .i64 0] 40)), x.at.cell? ⟨w.heap.size + 1, 2, none⟩ = some (.bool true) := fun x => by rw [x.cell _ (by simp)]; simp [World.cell?_alloc_new]
  have b3 : ∀ x : Wb ((w.alloc (.cells #[.int .i64 3, .int .i64 d, .int .i64 n, .int .i64 m, .int .i64 imm, .int .i64 kind] 23)).alloc (.cells #[.int .u32 4177526784, .bool true, .bool true, .bool false, .int .i64 12, .int .i64 10, .int .i64 8, .int .i64 0, .int .i64 0] 40)), x.at.cell? ⟨w.heap.size + 1, 3, none⟩ = some (.bool false) := fun x => by rw [x.cell _ (by simp)]; simp [World.cell?_alloc_new]
  have b4 : ∀ x : Wb ((w.alloc (.cells #[.int .i64 3, .int .i64 d, .int .i64 n, .int .i64 m, .int .i64 imm, .int .i64 kind] 23)).alloc (.cells #[.int .u32 4177526784, .bool true, .bool true, .bool false, .int .i64 12, .int .i64 10, .int .i64 8, .int .i64 0, .int .i64 0] 40)), x.at.cell? ⟨w.heap.size + 1, 4, none⟩ = some (.int .i64 12) := fun x => by rw [x.cell _ (by simp)]; simp [World.cell?_alloc_new]
  have b5 : ∀ x : Wb ((w.alloc (.cells #[.int .i64 3, .int .i64 d, .int .i64 n, .int .i64 m, .int .i64 imm, .int .i64 kind] 23)).alloc (.cells #[.int .u32 4177526784, .bool true, .bool true, .bool false, .int .i64 12, .int .i64 10, .int .i64 8, .int .i64 0, .int .i64 0] 40)), x.at.cell? ⟨w.heap.size + 1, 5, none⟩ = some (.int .i64 10) := fun x => by rw [x.cell _ (by simp)]; simp [World.cell?_alloc_new]
  have b6 : ∀ x : Wb ((w.alloc (.cells #[.int .i64 3, .int .i64 d, .int .i64 n, .int .i64 m, .int .i64 imm, .int .i64 kind] 23)).alloc (.cells #[.int .u32 4177526784, .bool true, .bool true, .bool false, .int .i64 12, .int .i64 10, .int .i64 8, .int .i64 0, .int .i64 0] 40)), x.at.cell? ⟨w.heap.size + 1, 6, none⟩ = some (.int .i64 8) := fun x => by rw [x.cell _ (by simp)]; simp [World.cell?_alloc_new]
  have b7 : ∀ x : Wb ((w.alloc (.cells #[.int .i64 3, .int .i64 d, .int .i64 n, .int .i64 m, .int .i64 imm, .int .i64 kind] 23)).alloc (.cells #[.int .u32 4177526784, .bool true, .bool true, .bool false, .int .i64 12, .int .i64 10, .int .i64 8, .int .i64 0, .int .i64 0] 40)), x.at.cell? ⟨w.heap.size + 1, 7, none⟩ = some (.int .i64 0) := fun x => by rw [x.cell _ (by simp)]; simp [World.cell?_alloc_new]
  have b8 : ∀ x : Wb ((w.alloc (.cells #[.int .i64 3, .int .i64 d, .int .i64 n, .int .i64 m, .int .i64 imm, .int .i64 kind] 23)).alloc (.cells #[.int .u32 4177526784, .bool true, .bool true, .bool false, .int .i64 12, .int .i64 10, .int .i64 8, .int .i64 0, .int .i64 0] 40)), x.at.cell? ⟨w.heap.size + 1, 8, none⟩ = some (.int .i64 0) := fun x => by rw [x.cell _ (by simp)]; simp [World.cell?_alloc_new]
  have KB := Lib.hid (fun (x : Wb ((w.alloc (.cells #[.int .i64 3, .int .i64 d, .int .i64 n, .int .i64 m, .int .i64 imm, .int .i64 kind] 23)).alloc (.cells #[.int .u32 4177526784, .bool true, .bool true, .bool false, .int .i64 12, .int .i64 10, .int .i64 8, .int .i64 0, .int .i64 0] 40))) => ((((Below.refl _ _).alloc (Nat.le_refl _) _).alloc (by simp) _).trans (x.bel.mono (by simp; omega)) : Below w.heap.size w x.at))
  clear hb0 hb1 hs
  cases r1 : GrI.regB true d with
  | false =>
    go_enter Tryd.func12, Tryd.ntmps12
    go_wp2_with (first | (go_at_call 22; refine (register_any _ _ _).mono ?_; rintro e w1 ⟨rfl, rfl⟩) | (go_at_call 23; refine (NM.out _ _ _ _ _ _ _ _).mono ?_; rintro e w1 ⟨rfl, d1⟩; obtain ⟨x1, rfl⟩ := Wb.start d1; clear d1) | (go_at_call 24; refine (kind_c _ _ _ _ _ _ _ _ _ _ _ _ _ _ _ _ (by decide) (by decide) (by decide)).mono ?_; rintro e w1 ⟨rfl, d1⟩; obtain ⟨x2, rfl⟩ := Wb.next d1; clear d1))
    go_ret
    exact ⟨ret_code (by rw [E.out]; simp [r1, GrI.code]), (((Below.refl _ _).alloc (Nat.le_refl _) _).alloc (by simp) _)⟩
  | true =>
    cases r2 : GrI.regB true n with
    | false =>
      go_enter Tryd.func12, Tryd.ntmps12
      go_wp2_with (first | (go_at_call 22; refine (register_any _ _ _).mono ?_; rintro e w1 ⟨rfl, rfl⟩) | (go_at_call 23; refine (NM.out _ _ _ _ _ _ _ _).mono ?_; rintro e w1 ⟨rfl, d1⟩; obtain ⟨x1, rfl⟩ := Wb.start d1; clear d1) | (go_at_call 24; refine (kind_c _ _ _ _ _ _ _ _ _ _ _ _ _ _ _ _ (by decide) (by decide) (by decide)).mono ?_; rintro e w1 ⟨rfl, d1⟩; obtain ⟨x2, rfl⟩ := Wb.next d1; clear d1))
      go_ret
      exact ⟨ret_code (by rw [E.out]; simp [r1, r2, GrI.code]), (((Below.refl _ _).alloc (Nat.le_refl _) _).alloc (by simp) _)⟩
    | true =>
      cases r3 : GrI.regB false m with
      | false =>
        go_enter Tryd.func12, Tryd.ntmps12
        go_wp2_with (first | (go_at_call 22; refine (register_any _ _ _).mono ?_; rintro e w1 ⟨rfl, rfl⟩) | (go_at_call 23; refine (NM.out _ _ _ _ _ _ _ _).mono ?_; rintro e w1 ⟨rfl, d1⟩; obtain ⟨x1, rfl⟩ := Wb.start d1; clear d1) | (go_at_call 24; refine (kind_c _ _ _ _ _ _ _ _ _ _ _ _ _ _ _ _ (by decide) (by decide) (by decide)).mono ?_; rintro e w1 ⟨rfl, d1⟩; obtain ⟨x2, rfl⟩ := Wb.next d1; clear d1))
        go_ret
        exact ⟨ret_code (by rw [E.out]; simp [r1, r2, r3, GrI.code]), (((Below.refl _ _).alloc (Nat.le_refl _) _).alloc (by simp) _)⟩
      | true =>
        cases r4 : GrI.numB 12 8 imm with
        | false =>
          go_enter Tryd.func12, Tryd.ntmps12
          go_wp2_with (first | (go_at_call 22; refine (register_any _ _ _).mono ?_; rintro e w1 ⟨rfl, rfl⟩) | (go_at_call 23; refine (NM.out _ _ _ _ _ _ _ _).mono ?_; rintro e w1 ⟨rfl, d1⟩; obtain ⟨x1, rfl⟩ := Wb.start d1; clear d1) | (go_at_call 24; refine (kind_c _ _ _ _ _ _ _ _ _ _ _ _ _ _ _ _ (by decide) (by decide) (by decide)).mono ?_; rintro e w1 ⟨rfl, d1⟩; obtain ⟨x2, rfl⟩ := Wb.next d1; clear d1))
          go_ret
          exact ⟨ret_code (by rw [E.out]; simp [r1, r2, r3, r4, GrI.code]), KB.out x1⟩
        | true =>
          cases r5 : GrI.kindB 3 d kind 0 with
          | false =>
            go_enter Tryd.func12, Tryd.ntmps12
            go_wp2_with (first | (go_at_call 22; refine (register_any _ _ _).mono ?_; rintro e w1 ⟨rfl, rfl⟩) | (go_at_call 23; refine (NM.out _ _ _ _ _ _ _ _).mono ?_; rintro e w1 ⟨rfl, d1⟩; obtain ⟨x1, rfl⟩ := Wb.start d1; clear d1) | (go_at_call 24; refine (kind_c _ _ _ _ _ _ _ _ _ _ _ _ _ _ _ _ (by decide) (by decide) (by decide)).mono ?_; rintro e w1 ⟨rfl, d1⟩; obtain ⟨x2, rfl⟩ := Wb.next d1; clear d1))
            go_ret
            exact ⟨ret_code (by rw [E.out]; simp [r1, r2, r3, r4, r5, GrI.code]), KB.out x2⟩
          | true =>
            go_enter Tryd.func12, Tryd.ntmps12
            go_wp2_with (first | (go_at_call 22; refine (register_any _ _ _).mono ?_; rintro e w1 ⟨rfl, rfl⟩) | (go_at_call 23; refine (NM.out _ _ _ _ _ _ _ _).mono ?_; rintro e w1 ⟨rfl, d1⟩; obtain ⟨x1, rfl⟩ := Wb.start d1; clear d1) | (go_at_call 24; refine (kind_c _ _ _ _ _ _ _ _ _ _ _ _ _ _ _ _ (by decide) (by decide) (by decide)).mono ?_; rintro e w1 ⟨rfl, d1⟩; obtain ⟨x2, rfl⟩ := Wb.next d1; clear d1))
            go_ret
            exact ⟨ret_code (by rw [E.out]; simp [r1, r2, r3, r4, r5, GrI.code]), KB.out x2⟩

theorem xright_eq_4 (d n m imm kind : Int) : decide (GrI.right ⟨4, d, n, m, imm, kind⟩) = (GrI.regB true d && (GrI.regB true n && (GrI.regB false m && (GrI.numB 0 0 imm && GrI.kindB 4 d kind 0)))) := by
  rw [Bool.eq_iff_iff]
  simp [GrI.right, GrI.parts, GrI.nums, GrI.regB, GrI.numB, GrI.kindB]
  try omega

set_option maxRecDepth 100000 in
set_option maxHeartbeats 6400000 in
theorem xright_4 (d n m imm kind : Int) (w : World) (hs : ShAt w) (hb0 : -9223372036854775808 ≤ imm) (hb1 : imm ≤ 9223372036854775807) :
    Calls Tryd.prog 12 #[.agg #[.int .i64 4, .int .i64 d, .int .i64 n, .int .i64 m, .int .i64 imm, .int .i64 kind]] w fun e w' => e = .returned (.int .i64 (GrI.code (decide (GrI.right ⟨4, d, n, m, imm, kind⟩)))) ∧ Below w.heap.size w w' := by
  have E := Lib.hid (xright_eq_4 d n m imm kind)
  have NM := Lib.hid (fun wd d n m a k ka w => number_0_0 wd d n m a k ka imm w hb0 hb1)
  have e0 : (w.alloc (.cells #[.int .i64 4, .int .i64 d, .int .i64 n, .int .i64 m, .int .i64 imm, .int .i64 kind] 23)).cell? ⟨0, 36, none⟩ = some (.int .u32 3370122240) := hs.alloc _ 36 (by decide)
  have e1 : (w.alloc (.cells #[.int .i64 4, .int .i64 d, .int .i64 n, .int .i64 m, .int .i64 imm, .int .i64 kind] 23)).cell? ⟨0, 37, none⟩ = some (.bool true) := hs.alloc _ 37 (by decide)
  have e2 : (w.alloc (.cells #[.int .i64 4, .int .i64 d, .int .i64 n, .int .i64 m, .int .i64 imm, .int .i64 kind] 23)).cell? ⟨0, 38, none⟩ = some (.bool true) := hs.alloc _ 38 (by decide)
  have e3 : (w.alloc (.cells #[.int .i64 4, .int .i64 d, .int .i64 n, .int .i64 m, .int .i64 imm, .int .i64 kind] 23)).cell? ⟨0, 39, none⟩ = some (.bool false) := hs.alloc _ 39 (by decide)
  have e4 : (w.alloc (.cells #[.int .i64 4, .int .i64 d, .int .i64 n, .int .i64 m, .int .i64 imm, .int .i64 kind] 23)).cell? ⟨0, 40, none⟩ = some (.int .i64 0) := hs.alloc _ 40 (by decide)
  have e5 : (w.alloc (.cells #[.int .i64 4, .int .i64 d, .int .i64 n, .int .i64 m, .int .i64 imm, .int .i64 kind] 23)).cell? ⟨0, 41, none⟩ = some (.int .i64 0) := hs.alloc _ 41 (by decide)
  have e6 : (w.alloc (.cells #[.int .i64 4, .int .i64 d, .int .i64 n, .int .i64 m, .int .i64 imm, .int .i64 kind] 23)).cell? ⟨0, 42, none⟩ = some (.int .i64 0) := hs.alloc _ 42 (by decide)
  have e7 : (w.alloc (.cells #[.int .i64 4, .int .i64 d, .int .i64 n, .int .i64 m, .int .i64 imm, .int .i64 kind] 23)).cell? ⟨0, 43, none⟩ = some (.int .i64 0) := hs.alloc _ 43 (by decide)
  have e8 : (w.alloc (.cells #[.int .i64 4, .int .i64 d, .int .i64 n, .int .i64 m, .int .i64 imm, .int .i64 kind] 23)).cell? ⟨0, 44, none⟩ = some (.int .i64 0) := hs.alloc _ 44 (by decide)
  have a0 : ∀ x : Wb ((w.alloc (.cells #[.int .i64 4, .int .i64 d, .int .i64 n, .int .i64 m, .int .i64 imm, .int .i64 kind] 23)).alloc (.cells #[.int .u32 3370122240, .bool true, .bool true, .bool false, .int .i64 0, .int .i64 0, .int .i64 0, .int .i64 0, .int .i64 0] 40)), x.at.cell? ⟨w.heap.size, 0, none⟩ = some (.int .i64 4) := fun x => by rw [x.cell _ (by simp; omega)]; simp [World.cell?_alloc_new]
  have a1 : ∀ x : Wb ((w.alloc (.cells #[.int .i64 4, .int .i64 d, .int .i64 n, .int .i64 m, .int .i64 imm, .int .i64 kind] 23)).alloc (.cells #[.int .u32 3370122240, .bool true, .bool true, .bool false, .int .i64 0, .int .i64 0, .int .i64 0, .int .i64 0, .int .i64 0] 40)), x.at.cell? ⟨w.heap.size, 1, none⟩ = some (.int .i64 d) := fun x => by rw [x.cell _ (by simp; omega)]; simp [World.cell?_alloc_new]
  have a2 : ∀ x : Wb ((w.alloc (.cells #[.int .i64 4, .int .i64 d, .int .i64 n, .int .i64 m, .int .i64 imm, .int .i64 kind] 23)).alloc (.cells #[.int .u32 3370122240, .bool true, .bool true, .bool false, .int .i64 0, .int .i64 0, .int .i64 0, .int .i64 0, .int .i64 0] 40)), x.at.cell? ⟨w.heap.size, 2, none⟩ = some (.int .i64 n) := fun x => by rw [x.cell _ (by simp; omega)]; simp [World.cell?_alloc_new]
  have a3 : ∀ x : Wb ((w.alloc (.cells #[.int .i64 4, .int .i64 d, .int .i64 n, .int .i64 m, .int .i64 imm, .int .i64 kind] 23)).alloc (.cells #[.int .u32 3370122240, .bool true, .bool true, .bool false, .int .i64 0, .int .i64 0, .int .i64 0, .int .i64 0, .int .i64 0] 40)), x.at.cell? ⟨w.heap.size, 3, none⟩ = some (.int .i64 m) := fun x => by rw [x.cell _ (by simp; omega)]; simp [World.cell?_alloc_new]
  have a4 : ∀ x : Wb ((w.alloc (.cells #[.int .i64 4, .int .i64 d, .int .i64 n, .int .i64 m, .int .i64 imm, .int .i64 kind] 23)).alloc (.cells #[.int .u32 3370122240, .bool true, .bool true, .bool false, .int .i64 0, .int .i64 0, .int .i64 0, .int .i64 0, .int .i64 0] 40)), x.at.cell? ⟨w.heap.size, 4, none⟩ = some (.int .i64 imm) := fun x => by rw [x.cell _ (by simp; omega)]; simp [World.cell?_alloc_new]
  have a5 : ∀ x : Wb ((w.alloc (.cells #[.int .i64 4, .int .i64 d, .int .i64 n, .int .i64 m, .int .i64 imm, .int .i64 kind] 23)).alloc (.cells #[.int .u32 3370122240, .bool true, .bool true, .bool false, .int .i64 0, .int .i64 0, .int .i64 0, .int .i64 0, .int .i64 0] 40)), x.at.cell? ⟨w.heap.size, 5, none⟩ = some (.int .i64 kind) := fun x => by rw [x.cell _ (by simp; omega)]; simp [World.cell?_alloc_new]
  have b0 : ∀ x : Wb ((w.alloc (.cells #[.int .i64 4, .int .i64 d, .int .i64 n, .int .i64 m, .int .i64 imm, .int .i64 kind] 23)).alloc (.cells #[.int .u32 3370122240, .bool true, .bool true, .bool false, .int .i64 0, .int .i64 0, .int .i64 0, .int .i64 0, .int .i64 0] 40)), x.at.cell? ⟨w.heap.size + 1, 0, none⟩ = some (.int .u32 3370122240) := fun x => by rw [x.cell _ (by simp)]; simp [World.cell?_alloc_new]
  have b1 : ∀ x : Wb ((w.alloc (.cells #[.int .i64 4, .int .i64 d, .int .i64 n, .int .i64 m, .int .i64 imm, .int .i64 kind] 23)).alloc (.cells #[.int .u32 3370122240, .bool true, .bool true, .bool false, .int .i64 0, .int .i64 0, .int .i64 0, .int .i64 0, .int .i64 0] 40)), x.at.cell? ⟨w.heap.size + 1, 1, none⟩ = some (.bool true) := fun x => by rw [x.cell _ (by simp)]; simp [World.cell?_alloc_new]
  have b2 : ∀ x : Wb ((w.alloc (.cells #[.int .i64 4, .int .i64 d, .int .i64 n, .int .i64 m, .int .i64 imm, .int .i64 kind] 23)).alloc (.cells #[.int .u32 3370122240, .bool true, .bool true, .bool false, .int .i64 0, .int .i64 0, .int .i64 0, .int .i64 0, .int .i64 0] 40)), x.at.cell? ⟨w.heap.size + 1, 2, none⟩ = some (.bool true) := fun x => by rw [x.cell _ (by simp)]; simp [World.cell?_alloc_new]
  have b3 : ∀ x : Wb ((w.alloc (.cells #[.int .i64 4, .int .i64 d, .int .i64 n, .int .i64 m, .int .i64 imm, .int .i64 kind] 23)).alloc (.cells #[.int .u32 3370122240, .bool true, .bool true, .bool false, .int .i64 0, .int .i64 0, .int .i64 0, .int .i64 0, .int .i64 0] 40)), x.at.cell? ⟨w.heap.size + 1, 3, none⟩ = some (.bool false) := fun x => by rw [x.cell _ (by simp)]; simp [World.cell?_alloc_new]
  have b4 : ∀ x : Wb ((w.alloc (.cells #[.int .i64 4, .int .i64 d, .int .i64 n, .int .i64 m, .int .i64 imm, .int .i64 kind] 23)).alloc (.cells #[.int .u32 3370122240, .bool true, .bool true, .bool false, .int .i64 0, .int .i64 0, .int .i64 0, .int .i64 0, .int .i64 0] 40)), x.at.cell? ⟨w.heap.size + 1, 4, none⟩ = some (.int .i64 0) := fun x => by rw [x.cell _ (by simp)]; simp [World.cell?_alloc_new]
  have b5 : ∀ x : Wb ((w.alloc (.cells #[.int .i64 4, .int .i64 d, .int .i64 n, .int .i64 m, .int .i64 imm, .int .i64 kind] 23)).alloc (.cells #[.int .u32 3370122240, .bool true, .bool true, .bool false, .int .i64 0, .int .i64 0, .int .i64 0, .int .i64 0, .int .i64 0] 40)), x.at.cell? ⟨w.heap.size + 1, 5, none⟩ = some (.int .i64 0) := fun x => by rw [x.cell _ (by simp)]; simp [World.cell?_alloc_new]
  have b6 : ∀ x : Wb ((w.alloc (.cells #[.int .i64 4, .int .i64 d, .int .i64 n, .int .i64 m, .int .i64 imm, .int .i64 kind] 23)).alloc (.cells #[.int .u32 3370122240, .bool true, .bool true, .bool false, .int .i64 0, .int .i64 0, .int .i64 0, .int .i64 0, .int .i64 0] 40)), x.at.cell? ⟨w.heap.size + 1, 6, none⟩ = some (.int .i64 0) := fun x => by rw [x.cell _ (by simp)]; simp [World.cell?_alloc_new]
  have b7 : ∀ x : Wb ((w.alloc (.cells #[.int .i64 4, .int .i64 d, .int .i64 n, .int .i64 m, .int .i64 imm, .int .i64 kind] 23)).alloc (.cells #[.int .u32 3370122240, .bool true, .bool true, .bool false, .int .i64 0, .int .i64 0, .int .i64 0, .int .i64 0, .int .i64 0] 40)), x.at.cell? ⟨w.heap.size + 1, 7, none⟩ = some (.int .i64 0) := fun x => by rw [x.cell _ (by simp)]; simp [World.cell?_alloc_new]
  have b8 : ∀ x : Wb ((w.alloc (.cells #[.int .i64 4, .int .i64 d, .int .i64 n, .int .i64 m, .int .i64 imm, .int .i64 kind] 23)).alloc (.cells #[.int .u32 3370122240, .bool true, .bool true, .bool false, .int .i64 0, .int .i64 0, .int .i64 0, .int .i64 0, .int .i64 0] 40)), x.at.cell? ⟨w.heap.size + 1, 8, none⟩ = some (.int .i64 0) := fun x => by rw [x.cell _ (by simp)]; simp [World.cell?_alloc_new]
  have KB := Lib.hid (fun (x : Wb ((w.alloc (.cells #[.int .i64 4, .int .i64 d, .int .i64 n, .int .i64 m, .int .i64 imm, .int .i64 kind] 23)).alloc (.cells #[.int .u32 3370122240, .bool true, .bool true, .bool false, .int .i64 0, .int .i64 0, .int .i64 0, .int .i64 0, .int .i64 0] 40))) => ((((Below.refl _ _).alloc (Nat.le_refl _) _).alloc (by simp) _).trans (x.bel.mono (by simp; omega)) : Below w.heap.size w x.at))
  clear hb0 hb1 hs
  cases r1 : GrI.regB true d with
  | false =>
    go_enter Tryd.func12, Tryd.ntmps12
    go_wp2_with (first | (go_at_call 22; refine (register_any _ _ _).mono ?_; rintro e w1 ⟨rfl, rfl⟩) | (go_at_call 23; refine (NM.out _ _ _ _ _ _ _ _).mono ?_; rintro e w1 ⟨rfl, d1⟩; obtain ⟨x1, rfl⟩ := Wb.start d1; clear d1) | (go_at_call 24; refine (kind_c _ _ _ _ _ _ _ _ _ _ _ _ _ _ _ _ (by decide) (by decide) (by decide)).mono ?_; rintro e w1 ⟨rfl, d1⟩; obtain ⟨x2, rfl⟩ := Wb.next d1; clear d1))
    go_ret
    exact ⟨ret_code (by rw [E.out]; simp [r1, GrI.code]), (((Below.refl _ _).alloc (Nat.le_refl _) _).alloc (by simp) _)⟩
  | true =>
    cases r2 : GrI.regB true n with
    | false =>
      go_enter Tryd.func12, Tryd.ntmps12
      go_wp2_with (first | (go_at_call 22; refine (register_any _ _ _).mono ?_; rintro e w1 ⟨rfl, rfl⟩) | (go_at_call 23; refine (NM.out _ _ _ _ _ _ _ _).mono ?_; rintro e w1 ⟨rfl, d1⟩; obtain ⟨x1, rfl⟩ := Wb.start d1; clear d1) | (go_at_call 24; refine (kind_c _ _ _ _ _ _ _ _ _ _ _ _ _ _ _ _ (by decide) (by decide) (by decide)).mono ?_; rintro e w1 ⟨rfl, d1⟩; obtain ⟨x2, rfl⟩ := Wb.next d1; clear d1))
      go_ret
      exact ⟨ret_code (by rw [E.out]; simp [r1, r2, GrI.code]), (((Below.refl _ _).alloc (Nat.le_refl _) _).alloc (by simp) _)⟩
    | true =>
      cases r3 : GrI.regB false m with
      | false =>
        go_enter Tryd.func12, Tryd.ntmps12
        go_wp2_with (first | (go_at_call 22; refine (register_any _ _ _).mono ?_; rintro e w1 ⟨rfl, rfl⟩) | (go_at_call 23; refine (NM.out _ _ _ _ _ _ _ _).mono ?_; rintro e w1 ⟨rfl, d1⟩; obtain ⟨x1, rfl⟩ := Wb.start d1; clear d1) | (go_at_call 24; refine (kind_c _ _ _ _ _ _ _ _ _ _ _ _ _ _ _ _ (by decide) (by decide) (by decide)).mono ?_; rintro e w1 ⟨rfl, d1⟩; obtain ⟨x2, rfl⟩ := Wb.next d1; clear d1))
        go_ret
        exact ⟨ret_code (by rw [E.out]; simp [r1, r2, r3, GrI.code]), (((Below.refl _ _).alloc (Nat.le_refl _) _).alloc (by simp) _)⟩
      | true =>
        cases r4 : GrI.numB 0 0 imm with
        | false =>
          go_enter Tryd.func12, Tryd.ntmps12
          go_wp2_with (first | (go_at_call 22; refine (register_any _ _ _).mono ?_; rintro e w1 ⟨rfl, rfl⟩) | (go_at_call 23; refine (NM.out _ _ _ _ _ _ _ _).mono ?_; rintro e w1 ⟨rfl, d1⟩; obtain ⟨x1, rfl⟩ := Wb.start d1; clear d1) | (go_at_call 24; refine (kind_c _ _ _ _ _ _ _ _ _ _ _ _ _ _ _ _ (by decide) (by decide) (by decide)).mono ?_; rintro e w1 ⟨rfl, d1⟩; obtain ⟨x2, rfl⟩ := Wb.next d1; clear d1))
          go_ret
          exact ⟨ret_code (by rw [E.out]; simp [r1, r2, r3, r4, GrI.code]), KB.out x1⟩
        | true =>
          cases r5 : GrI.kindB 4 d kind 0 with
          | false =>
            go_enter Tryd.func12, Tryd.ntmps12
            go_wp2_with (first | (go_at_call 22; refine (register_any _ _ _).mono ?_; rintro e w1 ⟨rfl, rfl⟩) | (go_at_call 23; refine (NM.out _ _ _ _ _ _ _ _).mono ?_; rintro e w1 ⟨rfl, d1⟩; obtain ⟨x1, rfl⟩ := Wb.start d1; clear d1) | (go_at_call 24; refine (kind_c _ _ _ _ _ _ _ _ _ _ _ _ _ _ _ _ (by decide) (by decide) (by decide)).mono ?_; rintro e w1 ⟨rfl, d1⟩; obtain ⟨x2, rfl⟩ := Wb.next d1; clear d1))
            go_ret
            exact ⟨ret_code (by rw [E.out]; simp [r1, r2, r3, r4, r5, GrI.code]), KB.out x2⟩
          | true =>
            go_enter Tryd.func12, Tryd.ntmps12
            go_wp2_with (first | (go_at_call 22; refine (register_any _ _ _).mono ?_; rintro e w1 ⟨rfl, rfl⟩) | (go_at_call 23; refine (NM.out _ _ _ _ _ _ _ _).mono ?_; rintro e w1 ⟨rfl, d1⟩; obtain ⟨x1, rfl⟩ := Wb.start d1; clear d1) | (go_at_call 24; refine (kind_c _ _ _ _ _ _ _ _ _ _ _ _ _ _ _ _ (by decide) (by decide) (by decide)).mono ?_; rintro e w1 ⟨rfl, d1⟩; obtain ⟨x2, rfl⟩ := Wb.next d1; clear d1))
            go_ret
            exact ⟨ret_code (by rw [E.out]; simp [r1, r2, r3, r4, r5, GrI.code]), KB.out x2⟩

theorem xright_eq_5 (d n m imm kind : Int) : decide (GrI.right ⟨5, d, n, m, imm, kind⟩) = (GrI.regB true d && (GrI.regB true n && (GrI.regB false m && (GrI.numB 0 0 imm && GrI.kindB 5 d kind 0)))) := by
  rw [Bool.eq_iff_iff]
  simp [GrI.right, GrI.parts, GrI.nums, GrI.regB, GrI.numB, GrI.kindB]
  try omega

set_option maxRecDepth 100000 in
set_option maxHeartbeats 6400000 in
theorem xright_5 (d n m imm kind : Int) (w : World) (hs : ShAt w) (hb0 : -9223372036854775808 ≤ imm) (hb1 : imm ≤ 9223372036854775807) :
    Calls Tryd.prog 12 #[.agg #[.int .i64 5, .int .i64 d, .int .i64 n, .int .i64 m, .int .i64 imm, .int .i64 kind]] w fun e w' => e = .returned (.int .i64 (GrI.code (decide (GrI.right ⟨5, d, n, m, imm, kind⟩)))) ∧ Below w.heap.size w w' := by
  have E := Lib.hid (xright_eq_5 d n m imm kind)
  have NM := Lib.hid (fun wd d n m a k ka w => number_0_0 wd d n m a k ka imm w hb0 hb1)
  have e0 : (w.alloc (.cells #[.int .i64 5, .int .i64 d, .int .i64 n, .int .i64 m, .int .i64 imm, .int .i64 kind] 23)).cell? ⟨0, 45, none⟩ = some (.int .u32 3365927936) := hs.alloc _ 45 (by decide)
  have e1 : (w.alloc (.cells #[.int .i64 5, .int .i64 d, .int .i64 n, .int .i64 m, .int .i64 imm, .int .i64 kind] 23)).cell? ⟨0, 46, none⟩ = some (.bool true) := hs.alloc _ 46 (by decide)
  have e2 : (w.alloc (.cells #[.int .i64 5, .int .i64 d, .int .i64 n, .int .i64 m, .int .i64 imm, .int .i64 kind] 23)).cell? ⟨0, 47, none⟩ = some (.bool true) := hs.alloc _ 47 (by decide)
  have e3 : (w.alloc (.cells #[.int .i64 5, .int .i64 d, .int .i64 n, .int .i64 m, .int .i64 imm, .int .i64 kind] 23)).cell? ⟨0, 48, none⟩ = some (.bool false) := hs.alloc _ 48 (by decide)
  have e4 : (w.alloc (.cells #[.int .i64 5, .int .i64 d, .int .i64 n, .int .i64 m, .int .i64 imm, .int .i64 kind] 23)).cell? ⟨0, 49, none⟩ = some (.int .i64 0) := hs.alloc _ 49 (by decide)
  have e5 : (w.alloc (.cells #[.int .i64 5, .int .i64 d, .int .i64 n, .int .i64 m, .int .i64 imm, .int .i64 kind] 23)).cell? ⟨0, 50, none⟩ = some (.int .i64 0) := hs.alloc _ 50 (by decide)
  have e6 : (w.alloc (.cells #[.int .i64 5, .int .i64 d, .int .i64 n, .int .i64 m, .int .i64 imm, .int .i64 kind] 23)).cell? ⟨0, 51, none⟩ = some (.int .i64 0) := hs.alloc _ 51 (by decide)
  have e7 : (w.alloc (.cells #[.int .i64 5, .int .i64 d, .int .i64 n, .int .i64 m, .int .i64 imm, .int .i64 kind] 23)).cell? ⟨0, 52, none⟩ = some (.int .i64 0) := hs.alloc _ 52 (by decide)
  have e8 : (w.alloc (.cells #[.int .i64 5, .int .i64 d, .int .i64 n, .int .i64 m, .int .i64 imm, .int .i64 kind] 23)).cell? ⟨0, 53, none⟩ = some (.int .i64 0) := hs.alloc _ 53 (by decide)
  have a0 : ∀ x : Wb ((w.alloc (.cells #[.int .i64 5, .int .i64 d, .int .i64 n, .int .i64 m, .int .i64 imm, .int .i64 kind] 23)).alloc (.cells #[.int .u32 3365927936, .bool true, .bool true, .bool false, .int .i64 0, .int .i64 0, .int .i64 0, .int .i64 0, .int .i64 0] 40)), x.at.cell? ⟨w.heap.size, 0, none⟩ = some (.int .i64 5) := fun x => by rw [x.cell _ (by simp; omega)]; simp [World.cell?_alloc_new]
  have a1 : ∀ x : Wb ((w.alloc (.cells #[.int .i64 5, .int .i64 d, .int .i64 n, .int .i64 m, .int .i64 imm, .int .i64 kind] 23)).alloc (.cells #[.int .u32 3365927936, .bool true, .bool true, .bool false, .int .i64 0, .int .i64 0, .int .i64 0, .int .i64 0, .int .i64 0] 40)), x.at.cell? ⟨w.heap.size, 1, none⟩ = some (.int .i64 d) := fun x => by rw [x.cell _ (by simp; omega)]; simp [World.cell?_alloc_new]
  have a2 : ∀ x : Wb ((w.alloc (.cells #[.int .i64 5, .int .i64 d, .int .i64 n, .int .i64 m, .int .i64 imm, .int .i64 kind] 23)).alloc (.cells #[.int .u32 3365927936, .bool true, .bool true, .bool false, .int .i64 0, .int .i64 0, .int .i64 0, .int .i64 0, .int .i64 0] 40)), x.at.cell? ⟨w.heap.size, 2, none⟩ = some (.int .i64 n) := fun x => by rw [x.cell _ (by simp; omega)]; simp [World.cell?_alloc_new]
  have a3 : ∀ x : Wb ((w.alloc (.cells #[.int .i64 5, .int .i64 d, .int .i64 n, .int .i64 m, .int .i64 imm, .int .i64 kind] 23)).alloc (.cells #[.int .u32 3365927936, .bool true, .bool true, .bool false, .int .i64 0, .int .i64 0, .int .i64 0, .int .i64 0, .int .i64 0] 40)), x.at.cell? ⟨w.heap.size, 3, none⟩ = some (.int .i64 m) := fun x => by rw [x.cell _ (by simp; omega)]; simp [World.cell?_alloc_new]
  have a4 : ∀ x : Wb ((w.alloc (.cells #[.int .i64 5, .int .i64 d, .int .i64 n, .int .i64 m, .int .i64 imm, .int .i64 kind] 23)).alloc (.cells #[.int .u32 3365927936, .bool true, .bool true, .bool false, .int .i64 0, .int .i64 0, .int .i64 0, .int .i64 0, .int .i64 0] 40)), x.at.cell? ⟨w.heap.size, 4, none⟩ = some (.int .i64 imm) := fun x => by rw [x.cell _ (by simp; omega)]; simp [World.cell?_alloc_new]
  have a5 : ∀ x : Wb ((w.alloc (.cells #[.int .i64 5, .int .i64 d, .int .i64 n, .int .i64 m, .int .i64 imm, .int .i64 kind] 23)).alloc (.cells #[.int .u32 3365927936, .bool true, .bool true, .bool false, .int .i64 0, .int .i64 0, .int .i64 0, .int .i64 0, .int .i64 0] 40)), x.at.cell? ⟨w.heap.size, 5, none⟩ = some (.int .i64 kind) := fun x => by rw [x.cell _ (by simp; omega)]; simp [World.cell?_alloc_new]
  have b0 : ∀ x : Wb ((w.alloc (.cells #[.int .i64 5, .int .i64 d, .int .i64 n, .int .i64 m, .int .i64 imm, .int .i64 kind] 23)).alloc (.cells #[.int .u32 3365927936, .bool true, .bool true, .bool false, .int .i64 0, .int .i64 0, .int .i64 0, .int .i64 0, .int .i64 0] 40)), x.at.cell? ⟨w.heap.size + 1, 0, none⟩ = some (.int .u32 3365927936) := fun x => by rw [x.cell _ (by simp)]; simp [World.cell?_alloc_new]
  have b1 : ∀ x : Wb ((w.alloc (.cells #[.int .i64 5, .int .i64 d, .int .i64 n, .int .i64 m, .int .i64 imm, .int .i64 kind] 23)).alloc (.cells #[.int .u32 3365927936, .bool true, .bool true, .bool false, .int .i64 0, .int .i64 0, .int .i64 0, .int .i64 0, .int .i64 0] 40)), x.at.cell? ⟨w.heap.size + 1, 1, none⟩ = some (.bool true) := fun x => by rw [x.cell _ (by simp)]; simp [World.cell?_alloc_new]
  have b2 : ∀ x : Wb ((w.alloc (.cells #[.int .i64 5, .int .i64 d, .int .i64 n, .int .i64 m, .int .i64 imm, .int .i64 kind] 23)).alloc (.cells #[.int .u32 3365927936, .bool true, .bool true, .bool false, .int .i64 0, .int .i64 0, .int .i64 0, .int .i64 0, .int .i64 0] 40)), x.at.cell? ⟨w.heap.size + 1, 2, none⟩ = some (.bool true) := fun x => by rw [x.cell _ (by simp)]; simp [World.cell?_alloc_new]
  have b3 : ∀ x : Wb ((w.alloc (.cells #[.int .i64 5, .int .i64 d, .int .i64 n, .int .i64 m, .int .i64 imm, .int .i64 kind] 23)).alloc (.cells #[.int .u32 3365927936, .bool true, .bool true, .bool false, .int .i64 0, .int .i64 0, .int .i64 0, .int .i64 0, .int .i64 0] 40)), x.at.cell? ⟨w.heap.size + 1, 3, none⟩ = some (.bool false) := fun x => by rw [x.cell _ (by simp)]; simp [World.cell?_alloc_new]
  have b4 : ∀ x : Wb ((w.alloc (.cells #[.int .i64 5, .int .i64 d, .int .i64 n, .int .i64 m, .int .i64 imm, .int .i64 kind] 23)).alloc (.cells #[.int .u32 3365927936, .bool true, .bool true, .bool false, .int .i64 0, .int .i64 0, .int .i64 0, .int .i64 0, .int .i64 0] 40)), x.at.cell? ⟨w.heap.size + 1, 4, none⟩ = some (.int .i64 0) := fun x => by rw [x.cell _ (by simp)]; simp [World.cell?_alloc_new]
  have b5 : ∀ x : Wb ((w.alloc (.cells #[.int .i64 5, .int .i64 d, .int .i64 n, .int .i64 m, .int .i64 imm, .int .i64 kind] 23)).alloc (.cells #[.int .u32 3365927936, .bool true, .bool true, .bool false, .int .i64 0, .int .i64 0, .int .i64 0, .int .i64 0, .int .i64 0] 40)), x.at.cell? ⟨w.heap.size + 1, 5, none⟩ = some (.int .i64 0) := fun x => by rw [x.cell _ (by simp)]; simp [World.cell?_alloc_new]
  have b6 : ∀ x : Wb ((w.alloc (.cells #[.int .i64 5, .int .i64 d, .int .i64 n, .int .i64 m, .int .i64 imm, .int .i64 kind] 23)).alloc (.cells #[.int .u32 3365927936, .bool true, .bool true, .bool false, .int .i64 0, .int .i64 0, .int .i64 0, .int .i64 0, .int .i64 0] 40)), x.at.cell? ⟨w.heap.size + 1, 6, none⟩ = some (.int .i64 0) := fun x => by rw [x.cell _ (by simp)]; simp [World.cell?_alloc_new]
  have b7 : ∀ x : Wb ((w.alloc (.cells #[.int .i64 5, .int .i64 d, .int .i64 n, .int .i64 m, .int .i64 imm, .int .i64 kind] 23)).alloc (.cells #[.int .u32 3365927936, .bool true, .bool true, .bool false, .int .i64 0, .int .i64 0, .int .i64 0, .int .i64 0, .int .i64 0] 40)), x.at.cell? ⟨w.heap.size + 1, 7, none⟩ = some (.int .i64 0) := fun x => by rw [x.cell _ (by simp)]; simp [World.cell?_alloc_new]
  have b8 : ∀ x : Wb ((w.alloc (.cells #[.int .i64 5, .int .i64 d, .int .i64 n, .int .i64 m, .int .i64 imm, .int .i64 kind] 23)).alloc (.cells #[.int .u32 3365927936, .bool true, .bool true, .bool false, .int .i64 0, .int .i64 0, .int .i64 0, .int .i64 0, .int .i64 0] 40)), x.at.cell? ⟨w.heap.size + 1, 8, none⟩ = some (.int .i64 0) := fun x => by rw [x.cell _ (by simp)]; simp [World.cell?_alloc_new]
  have KB := Lib.hid (fun (x : Wb ((w.alloc (.cells #[.int .i64 5, .int .i64 d, .int .i64 n, .int .i64 m, .int .i64 imm, .int .i64 kind] 23)).alloc (.cells #[.int .u32 3365927936, .bool true, .bool true, .bool false, .int .i64 0, .int .i64 0, .int .i64 0, .int .i64 0, .int .i64 0] 40))) => ((((Below.refl _ _).alloc (Nat.le_refl _) _).alloc (by simp) _).trans (x.bel.mono (by simp; omega)) : Below w.heap.size w x.at))
  clear hb0 hb1 hs
  cases r1 : GrI.regB true d with
  | false =>
    go_enter Tryd.func12, Tryd.ntmps12
    go_wp2_with (first | (go_at_call 22; refine (register_any _ _ _).mono ?_; rintro e w1 ⟨rfl, rfl⟩) | (go_at_call 23; refine (NM.out _ _ _ _ _ _ _ _).mono ?_; rintro e w1 ⟨rfl, d1⟩; obtain ⟨x1, rfl⟩ := Wb.start d1; clear d1) | (go_at_call 24; refine (kind_c _ _ _ _ _ _ _ _ _ _ _ _ _ _ _ _ (by decide) (by decide) (by decide)).mono ?_; rintro e w1 ⟨rfl, d1⟩; obtain ⟨x2, rfl⟩ := Wb.next d1; clear d1))
    go_ret
    exact ⟨ret_code (by rw [E.out]; simp [r1, GrI.code]), (((Below.refl _ _).alloc (Nat.le_refl _) _).alloc (by simp) _)⟩
  | true =>
    cases r2 : GrI.regB true n with
    | false =>
      go_enter Tryd.func12, Tryd.ntmps12
      go_wp2_with (first | (go_at_call 22; refine (register_any _ _ _).mono ?_; rintro e w1 ⟨rfl, rfl⟩) | (go_at_call 23; refine (NM.out _ _ _ _ _ _ _ _).mono ?_; rintro e w1 ⟨rfl, d1⟩; obtain ⟨x1, rfl⟩ := Wb.start d1; clear d1) | (go_at_call 24; refine (kind_c _ _ _ _ _ _ _ _ _ _ _ _ _ _ _ _ (by decide) (by decide) (by decide)).mono ?_; rintro e w1 ⟨rfl, d1⟩; obtain ⟨x2, rfl⟩ := Wb.next d1; clear d1))
      go_ret
      exact ⟨ret_code (by rw [E.out]; simp [r1, r2, GrI.code]), (((Below.refl _ _).alloc (Nat.le_refl _) _).alloc (by simp) _)⟩
    | true =>
      cases r3 : GrI.regB false m with
      | false =>
        go_enter Tryd.func12, Tryd.ntmps12
        go_wp2_with (first | (go_at_call 22; refine (register_any _ _ _).mono ?_; rintro e w1 ⟨rfl, rfl⟩) | (go_at_call 23; refine (NM.out _ _ _ _ _ _ _ _).mono ?_; rintro e w1 ⟨rfl, d1⟩; obtain ⟨x1, rfl⟩ := Wb.start d1; clear d1) | (go_at_call 24; refine (kind_c _ _ _ _ _ _ _ _ _ _ _ _ _ _ _ _ (by decide) (by decide) (by decide)).mono ?_; rintro e w1 ⟨rfl, d1⟩; obtain ⟨x2, rfl⟩ := Wb.next d1; clear d1))
        go_ret
        exact ⟨ret_code (by rw [E.out]; simp [r1, r2, r3, GrI.code]), (((Below.refl _ _).alloc (Nat.le_refl _) _).alloc (by simp) _)⟩
      | true =>
        cases r4 : GrI.numB 0 0 imm with
        | false =>
          go_enter Tryd.func12, Tryd.ntmps12
          go_wp2_with (first | (go_at_call 22; refine (register_any _ _ _).mono ?_; rintro e w1 ⟨rfl, rfl⟩) | (go_at_call 23; refine (NM.out _ _ _ _ _ _ _ _).mono ?_; rintro e w1 ⟨rfl, d1⟩; obtain ⟨x1, rfl⟩ := Wb.start d1; clear d1) | (go_at_call 24; refine (kind_c _ _ _ _ _ _ _ _ _ _ _ _ _ _ _ _ (by decide) (by decide) (by decide)).mono ?_; rintro e w1 ⟨rfl, d1⟩; obtain ⟨x2, rfl⟩ := Wb.next d1; clear d1))
          go_ret
          exact ⟨ret_code (by rw [E.out]; simp [r1, r2, r3, r4, GrI.code]), KB.out x1⟩
        | true =>
          cases r5 : GrI.kindB 5 d kind 0 with
          | false =>
            go_enter Tryd.func12, Tryd.ntmps12
            go_wp2_with (first | (go_at_call 22; refine (register_any _ _ _).mono ?_; rintro e w1 ⟨rfl, rfl⟩) | (go_at_call 23; refine (NM.out _ _ _ _ _ _ _ _).mono ?_; rintro e w1 ⟨rfl, d1⟩; obtain ⟨x1, rfl⟩ := Wb.start d1; clear d1) | (go_at_call 24; refine (kind_c _ _ _ _ _ _ _ _ _ _ _ _ _ _ _ _ (by decide) (by decide) (by decide)).mono ?_; rintro e w1 ⟨rfl, d1⟩; obtain ⟨x2, rfl⟩ := Wb.next d1; clear d1))
            go_ret
            exact ⟨ret_code (by rw [E.out]; simp [r1, r2, r3, r4, r5, GrI.code]), KB.out x2⟩
          | true =>
            go_enter Tryd.func12, Tryd.ntmps12
            go_wp2_with (first | (go_at_call 22; refine (register_any _ _ _).mono ?_; rintro e w1 ⟨rfl, rfl⟩) | (go_at_call 23; refine (NM.out _ _ _ _ _ _ _ _).mono ?_; rintro e w1 ⟨rfl, d1⟩; obtain ⟨x1, rfl⟩ := Wb.start d1; clear d1) | (go_at_call 24; refine (kind_c _ _ _ _ _ _ _ _ _ _ _ _ _ _ _ _ (by decide) (by decide) (by decide)).mono ?_; rintro e w1 ⟨rfl, d1⟩; obtain ⟨x2, rfl⟩ := Wb.next d1; clear d1))
            go_ret
            exact ⟨ret_code (by rw [E.out]; simp [r1, r2, r3, r4, r5, GrI.code]), KB.out x2⟩

theorem xright_eq_6 (d n m imm kind : Int) : decide (GrI.right ⟨6, d, n, m, imm, kind⟩) = (GrI.regB true d && (GrI.regB false n && (GrI.regB false m && (GrI.numB 16 1 imm && GrI.kindB 6 d kind 4)))) := by
  rw [Bool.eq_iff_iff]
  simp [GrI.right, GrI.parts, GrI.nums, GrI.regB, GrI.numB, GrI.kindB]
  try omega

set_option maxRecDepth 100000 in
set_option maxHeartbeats 6400000 in
theorem xright_6 (d n m imm kind : Int) (w : World) (hs : ShAt w) (hb0 : -9223372036854775808 ≤ imm) (hb1 : imm ≤ 9223372036854775807) :
    Calls Tryd.prog 12 #[.agg #[.int .i64 6, .int .i64 d, .int .i64 n, .int .i64 m, .int .i64 imm, .int .i64 kind]] w fun e w' => e = .returned (.int .i64 (GrI.code (decide (GrI.right ⟨6, d, n, m, imm, kind⟩)))) ∧ Below w.heap.size w w' := by
  have E := Lib.hid (xright_eq_6 d n m imm kind)
  have NM := Lib.hid (fun wd d n m a k ka w => number_16_1 wd d n m a k ka imm w hb0 hb1)
  have e0 : (w.alloc (.cells #[.int .i64 6, .int .i64 d, .int .i64 n, .int .i64 m, .int .i64 imm, .int .i64 kind] 23)).cell? ⟨0, 54, none⟩ = some (.int .u32 3531603968) := hs.alloc _ 54 (by decide)
  have e1 : (w.alloc (.cells #[.int .i64 6, .int .i64 d, .int .i64 n, .int .i64 m, .int .i64 imm, .int .i64 kind] 23)).cell? ⟨0, 55, none⟩ = some (.bool true) := hs.alloc _ 55 (by decide)
  have e2 : (w.alloc (.cells #[.int .i64 6, .int .i64 d, .int .i64 n, .int .i64 m, .int .i64 imm, .int .i64 kind] 23)).cell? ⟨0, 56, none⟩ = some (.bool false) := hs.alloc _ 56 (by decide)
  have e3 : (w.alloc (.cells #[.int .i64 6, .int .i64 d, .int .i64 n, .int .i64 m, .int .i64 imm, .int .i64 kind] 23)).cell? ⟨0, 57, none⟩ = some (.bool false) := hs.alloc _ 57 (by decide)
  have e4 : (w.alloc (.cells #[.int .i64 6, .int .i64 d, .int .i64 n, .int .i64 m, .int .i64 imm, .int .i64 kind] 23)).cell? ⟨0, 58, none⟩ = some (.int .i64 16) := hs.alloc _ 58 (by decide)
  have e5 : (w.alloc (.cells #[.int .i64 6, .int .i64 d, .int .i64 n, .int .i64 m, .int .i64 imm, .int .i64 kind] 23)).cell? ⟨0, 59, none⟩ = some (.int .i64 5) := hs.alloc _ 59 (by decide)
  have e6 : (w.alloc (.cells #[.int .i64 6, .int .i64 d, .int .i64 n, .int .i64 m, .int .i64 imm, .int .i64 kind] 23)).cell? ⟨0, 60, none⟩ = some (.int .i64 1) := hs.alloc _ 60 (by decide)
  have e7 : (w.alloc (.cells #[.int .i64 6, .int .i64 d, .int .i64 n, .int .i64 m, .int .i64 imm, .int .i64 kind] 23)).cell? ⟨0, 61, none⟩ = some (.int .i64 4) := hs.alloc _ 61 (by decide)
  have e8 : (w.alloc (.cells #[.int .i64 6, .int .i64 d, .int .i64 n, .int .i64 m, .int .i64 imm, .int .i64 kind] 23)).cell? ⟨0, 62, none⟩ = some (.int .i64 21) := hs.alloc _ 62 (by decide)
  have a0 : ∀ x : Wb ((w.alloc (.cells #[.int .i64 6, .int .i64 d, .int .i64 n, .int .i64 m, .int .i64 imm, .int .i64 kind] 23)).alloc (.cells #[.int .u32 3531603968, .bool true, .bool false, .bool false, .int .i64 16, .int .i64 5, .int .i64 1, .int .i64 4, .int .i64 21] 40)), x.at.cell? ⟨w.heap.size, 0, none⟩ = some (.int .i64 6) := fun x => by rw [x.cell _ (by simp; omega)]; simp [World.cell?_alloc_new]
  have a1 : ∀ x : Wb ((w.alloc (.cells #[.int .i64 6, .int .i64 d, .int .i64 n, .int .i64 m, .int .i64 imm, .int .i64 kind] 23)).alloc (.cells #[.int .u32 3531603968, .bool true, .bool false, .bool false, .int .i64 16, .int .i64 5, .int .i64 1, .int .i64 4, .int .i64 21] 40)), x.at.cell? ⟨w.heap.size, 1, none⟩ = some (.int .i64 d) := fun x => by rw [x.cell _ (by simp; omega)]; simp [World.cell?_alloc_new]
  have a2 : ∀ x : Wb ((w.alloc (.cells #[.int .i64 6, .int .i64 d, .int .i64 n, .int .i64 m, .int .i64 imm, .int .i64 kind] 23)).alloc (.cells #[.int .u32 3531603968, .bool true, .bool false, .bool false, .int .i64 16, .int .i64 5, .int .i64 1, .int .i64 4, .int .i64 21] 40)), x.at.cell? ⟨w.heap.size, 2, none⟩ = some (.int .i64 n) := fun x => by rw [x.cell _ (by simp; omega)]; simp [World.cell?_alloc_new]
  have a3 : ∀ x : Wb ((w.alloc (.cells #[.int .i64 6, .int .i64 d, .int .i64 n, .int .i64 m, .int .i64 imm, .int .i64 kind] 23)).alloc (.cells #[.int .u32 3531603968, .bool true, .bool false, .bool false, .int .i64 16, .int .i64 5, .int .i64 1, .int .i64 4, .int .i64 21] 40)), x.at.cell? ⟨w.heap.size, 3, none⟩ = some (.int .i64 m) := fun x => by rw [x.cell _ (by simp; omega)]; simp [World.cell?_alloc_new]
  have a4 : ∀ x : Wb ((w.alloc (.cells #[.int .i64 6, .int .i64 d, .int .i64 n, .int .i64 m, .int .i64 imm, .int .i64 kind] 23)).alloc (.cells #[.int .u32 3531603968, .bool true, .bool false, .bool false, .int .i64 16, .int .i64 5, .int .i64 1, .int .i64 4, .int .i64 21] 40)), x.at.cell? ⟨w.heap.size, 4, none⟩ = some (.int .i64 imm) := fun x => by rw [x.cell _ (by simp; omega)]; simp [World.cell?_alloc_new]
  have a5 : ∀ x : Wb ((w.alloc (.cells #[.int .i64 6, .int .i64 d, .int .i64 n, .int .i64 m, .int .i64 imm, .int .i64 kind] 23)).alloc (.cells #[.int .u32 3531603968, .bool true, .bool false, .bool false, .int .i64 16, .int .i64 5, .int .i64 1, .int .i64 4, .int .i64 21] 40)), x.at.cell? ⟨w.heap.size, 5, none⟩ = some (.int .i64 kind) := fun x => by rw [x.cell _ (by simp; omega)]; simp [World.cell?_alloc_new]
  have b0 : ∀ x : Wb ((w.alloc (.cells #[.int .i64 6, .int .i64 d, .int .i64 n, .int .i64 m, .int .i64 imm, .int .i64 kind] 23)).alloc (.cells #[.int .u32 3531603968, .bool true, .bool false, .bool false, .int .i64 16, .int .i64 5, .int .i64 1, .int .i64 4, .int .i64 21] 40)), x.at.cell? ⟨w.heap.size + 1, 0, none⟩ = some (.int .u32 3531603968) := fun x => by rw [x.cell _ (by simp)]; simp [World.cell?_alloc_new]
  have b1 : ∀ x : Wb ((w.alloc (.cells #[.int .i64 6, .int .i64 d, .int .i64 n, .int .i64 m, .int .i64 imm, .int .i64 kind] 23)).alloc (.cells #[.int .u32 3531603968, .bool true, .bool false, .bool false, .int .i64 16, .int .i64 5, .int .i64 1, .int .i64 4, .int .i64 21] 40)), x.at.cell? ⟨w.heap.size + 1, 1, none⟩ = some (.bool true) := fun x => by rw [x.cell _ (by simp)]; simp [World.cell?_alloc_new]
  have b2 : ∀ x : Wb ((w.alloc (.cells #[.int .i64 6, .int .i64 d, .int .i64 n, .int .i64 m, .int .i64 imm, .int .i64 kind] 23)).alloc (.cells #[.int .u32 3531603968, .bool true, .bool false, .bool false, .int .i64 16, .int .i64 5, .int .i64 1, .int .i64 4, .int .i64 21] 40)), x.at.cell? ⟨w.heap.size + 1, 2, none⟩ = some (.bool false) := fun x => by rw [x.cell _ (by simp)]; simp [World.cell?_alloc_new]
  have b3 : ∀ x : Wb ((w.alloc (.cells #[.int .i64 6, .int .i64 d, .int .i64 n, .int .i64 m, .int .i64 imm, .int .i64 kind] 23)).alloc (.cells #[.int .u32 3531603968, .bool true, .bool false, .bool false, .int .i64 16, .int .i64 5, .int .i64 1, .int .i64 4, .int .i64 21] 40)), x.at.cell? ⟨w.heap.size + 1, 3, none⟩ = some (.bool false) := fun x => by rw [x.cell _ (by simp)]; simp [World.cell?_alloc_new]
  have b4 : ∀ x : Wb ((w.alloc (.cells #[.int .i64 6, .int .i64 d, .int .i64 n, .int .i64 m, .int .i64 imm, .int .i64 kind] 23)).alloc (.cells #[.int .u32 3531603968, .bool true, .bool false, .bool false, .int .i64 16, .int .i64 5, .int .i64 1, .int .i64 4, .int .i64 21] 40)), x.at.cell? ⟨w.heap.size + 1, 4, none⟩ = some (.int .i64 16) := fun x => by rw [x.cell _ (by simp)]; simp [World.cell?_alloc_new]
  have b5 : ∀ x : Wb ((w.alloc (.cells #[.int .i64 6, .int .i64 d, .int .i64 n, .int .i64 m, .int .i64 imm, .int .i64 kind] 23)).alloc (.cells #[.int .u32 3531603968, .bool true, .bool false, .bool false, .int .i64 16, .int .i64 5, .int .i64 1, .int .i64 4, .int .i64 21] 40)), x.at.cell? ⟨w.heap.size + 1, 5, none⟩ = some (.int .i64 5) := fun x => by rw [x.cell _ (by simp)]; simp [World.cell?_alloc_new]
  have b6 : ∀ x : Wb ((w.alloc (.cells #[.int .i64 6, .int .i64 d, .int .i64 n, .int .i64 m, .int .i64 imm, .int .i64 kind] 23)).alloc (.cells #[.int .u32 3531603968, .bool true, .bool false, .bool false, .int .i64 16, .int .i64 5, .int .i64 1, .int .i64 4, .int .i64 21] 40)), x.at.cell? ⟨w.heap.size + 1, 6, none⟩ = some (.int .i64 1) := fun x => by rw [x.cell _ (by simp)]; simp [World.cell?_alloc_new]
  have b7 : ∀ x : Wb ((w.alloc (.cells #[.int .i64 6, .int .i64 d, .int .i64 n, .int .i64 m, .int .i64 imm, .int .i64 kind] 23)).alloc (.cells #[.int .u32 3531603968, .bool true, .bool false, .bool false, .int .i64 16, .int .i64 5, .int .i64 1, .int .i64 4, .int .i64 21] 40)), x.at.cell? ⟨w.heap.size + 1, 7, none⟩ = some (.int .i64 4) := fun x => by rw [x.cell _ (by simp)]; simp [World.cell?_alloc_new]
  have b8 : ∀ x : Wb ((w.alloc (.cells #[.int .i64 6, .int .i64 d, .int .i64 n, .int .i64 m, .int .i64 imm, .int .i64 kind] 23)).alloc (.cells #[.int .u32 3531603968, .bool true, .bool false, .bool false, .int .i64 16, .int .i64 5, .int .i64 1, .int .i64 4, .int .i64 21] 40)), x.at.cell? ⟨w.heap.size + 1, 8, none⟩ = some (.int .i64 21) := fun x => by rw [x.cell _ (by simp)]; simp [World.cell?_alloc_new]
  have KB := Lib.hid (fun (x : Wb ((w.alloc (.cells #[.int .i64 6, .int .i64 d, .int .i64 n, .int .i64 m, .int .i64 imm, .int .i64 kind] 23)).alloc (.cells #[.int .u32 3531603968, .bool true, .bool false, .bool false, .int .i64 16, .int .i64 5, .int .i64 1, .int .i64 4, .int .i64 21] 40))) => ((((Below.refl _ _).alloc (Nat.le_refl _) _).alloc (by simp) _).trans (x.bel.mono (by simp; omega)) : Below w.heap.size w x.at))
  clear hb0 hb1 hs
  cases r1 : GrI.regB true d with
  | false =>
    go_enter Tryd.func12, Tryd.ntmps12
    go_wp2_with (first | (go_at_call 22; refine (register_any _ _ _).mono ?_; rintro e w1 ⟨rfl, rfl⟩) | (go_at_call 23; refine (NM.out _ _ _ _ _ _ _ _).mono ?_; rintro e w1 ⟨rfl, d1⟩; obtain ⟨x1, rfl⟩ := Wb.start d1; clear d1) | (go_at_call 24; refine (kind_c _ _ _ _ _ _ _ _ _ _ _ _ _ _ _ _ (by decide) (by decide) (by decide)).mono ?_; rintro e w1 ⟨rfl, d1⟩; obtain ⟨x2, rfl⟩ := Wb.next d1; clear d1))
    go_ret
    exact ⟨ret_code (by rw [E.out]; simp [r1, GrI.code]), (((Below.refl _ _).alloc (Nat.le_refl _) _).alloc (by simp) _)⟩
  | true =>
    cases r2 : GrI.regB false n with
    | false =>
      go_enter Tryd.func12, Tryd.ntmps12
      go_wp2_with (first | (go_at_call 22; refine (register_any _ _ _).mono ?_; rintro e w1 ⟨rfl, rfl⟩) | (go_at_call 23; refine (NM.out _ _ _ _ _ _ _ _).mono ?_; rintro e w1 ⟨rfl, d1⟩; obtain ⟨x1, rfl⟩ := Wb.start d1; clear d1) | (go_at_call 24; refine (kind_c _ _ _ _ _ _ _ _ _ _ _ _ _ _ _ _ (by decide) (by decide) (by decide)).mono ?_; rintro e w1 ⟨rfl, d1⟩; obtain ⟨x2, rfl⟩ := Wb.next d1; clear d1))
      go_ret
      exact ⟨ret_code (by rw [E.out]; simp [r1, r2, GrI.code]), (((Below.refl _ _).alloc (Nat.le_refl _) _).alloc (by simp) _)⟩
    | true =>
      cases r3 : GrI.regB false m with
      | false =>
        go_enter Tryd.func12, Tryd.ntmps12
        go_wp2_with (first | (go_at_call 22; refine (register_any _ _ _).mono ?_; rintro e w1 ⟨rfl, rfl⟩) | (go_at_call 23; refine (NM.out _ _ _ _ _ _ _ _).mono ?_; rintro e w1 ⟨rfl, d1⟩; obtain ⟨x1, rfl⟩ := Wb.start d1; clear d1) | (go_at_call 24; refine (kind_c _ _ _ _ _ _ _ _ _ _ _ _ _ _ _ _ (by decide) (by decide) (by decide)).mono ?_; rintro e w1 ⟨rfl, d1⟩; obtain ⟨x2, rfl⟩ := Wb.next d1; clear d1))
        go_ret
        exact ⟨ret_code (by rw [E.out]; simp [r1, r2, r3, GrI.code]), (((Below.refl _ _).alloc (Nat.le_refl _) _).alloc (by simp) _)⟩
      | true =>
        cases r4 : GrI.numB 16 1 imm with
        | false =>
          go_enter Tryd.func12, Tryd.ntmps12
          go_wp2_with (first | (go_at_call 22; refine (register_any _ _ _).mono ?_; rintro e w1 ⟨rfl, rfl⟩) | (go_at_call 23; refine (NM.out _ _ _ _ _ _ _ _).mono ?_; rintro e w1 ⟨rfl, d1⟩; obtain ⟨x1, rfl⟩ := Wb.start d1; clear d1) | (go_at_call 24; refine (kind_c _ _ _ _ _ _ _ _ _ _ _ _ _ _ _ _ (by decide) (by decide) (by decide)).mono ?_; rintro e w1 ⟨rfl, d1⟩; obtain ⟨x2, rfl⟩ := Wb.next d1; clear d1))
          go_ret
          exact ⟨ret_code (by rw [E.out]; simp [r1, r2, r3, r4, GrI.code]), KB.out x1⟩
        | true =>
          cases r5 : GrI.kindB 6 d kind 4 with
          | false =>
            go_enter Tryd.func12, Tryd.ntmps12
            go_wp2_with (first | (go_at_call 22; refine (register_any _ _ _).mono ?_; rintro e w1 ⟨rfl, rfl⟩) | (go_at_call 23; refine (NM.out _ _ _ _ _ _ _ _).mono ?_; rintro e w1 ⟨rfl, d1⟩; obtain ⟨x1, rfl⟩ := Wb.start d1; clear d1) | (go_at_call 24; refine (kind_c _ _ _ _ _ _ _ _ _ _ _ _ _ _ _ _ (by decide) (by decide) (by decide)).mono ?_; rintro e w1 ⟨rfl, d1⟩; obtain ⟨x2, rfl⟩ := Wb.next d1; clear d1))
            go_ret
            exact ⟨ret_code (by rw [E.out]; simp [r1, r2, r3, r4, r5, GrI.code]), KB.out x2⟩
          | true =>
            go_enter Tryd.func12, Tryd.ntmps12
            go_wp2_with (first | (go_at_call 22; refine (register_any _ _ _).mono ?_; rintro e w1 ⟨rfl, rfl⟩) | (go_at_call 23; refine (NM.out _ _ _ _ _ _ _ _).mono ?_; rintro e w1 ⟨rfl, d1⟩; obtain ⟨x1, rfl⟩ := Wb.start d1; clear d1) | (go_at_call 24; refine (kind_c _ _ _ _ _ _ _ _ _ _ _ _ _ _ _ _ (by decide) (by decide) (by decide)).mono ?_; rintro e w1 ⟨rfl, d1⟩; obtain ⟨x2, rfl⟩ := Wb.next d1; clear d1))
            go_ret
            exact ⟨ret_code (by rw [E.out]; simp [r1, r2, r3, r4, r5, GrI.code]), KB.out x2⟩

end Go.Proofs.YtnehdgapcgbdeaaDoor
