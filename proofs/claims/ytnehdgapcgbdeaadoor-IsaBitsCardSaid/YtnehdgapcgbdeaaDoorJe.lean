/-
  Layer 3, the code's walks: Right, operations 7 to 12.
-/
import Derived.Test.YtnehdgapcgbdeaaDoorJc
set_option linter.unusedSimpArgs false
set_option linter.unusedVariables false
namespace Go.Proofs.YtnehdgapcgbdeaaDoor
open Go.RowKit

theorem xright_eq_7 (d n m imm kind : Int) : decide (GrI.right ⟨7, d, n, m, imm, kind⟩) = (GrI.regB true d && (GrI.regB true n && (GrI.regB false m && (GrI.numB 12 1 imm && GrI.kindB 7 d kind 0)))) := by
  rw [Bool.eq_iff_iff]
  simp [GrI.right, GrI.parts, GrI.nums, GrI.regB, GrI.numB, GrI.kindB]
  try omega

set_option maxRecDepth 100000 in
set_option maxHeartbeats 6400000 in
theorem xright_7 (d n m imm kind : Int) (w : World) (hs : ShAt w) (hb0 : -9223372036854775808 ≤ imm) (hb1 : imm ≤ 9223372036854775807) :
    Calls Tryd.prog 12 #[.agg #[.int .i64 7, .int .i64 d, .int .i64 n, .int .i64 m, .int .i64 imm, .int .i64 kind]] w fun e w' => e = .returned (.int .i64 (GrI.code (decide (GrI.right ⟨7, d, n, m, imm, kind⟩)))) ∧ Below w.heap.size w w' := by
  have E := Lib.hid (xright_eq_7 d n m imm kind)
  have NM := Lib.hid (fun wd d n m a k ka w => number_12_1 wd d n m a k ka imm w hb0 hb1)
  have e0 : (w.alloc (.cells #[.int .i64 7, .int .i64 d, .int .i64 n, .int .i64 m, .int .i64 imm, .int .i64 kind] 23)).cell? ⟨0, 63, none⟩ = some (.int .u32 2432696320) := hs.alloc _ 63 (by decide)
  have e1 : (w.alloc (.cells #[.int .i64 7, .int .i64 d, .int .i64 n, .int .i64 m, .int .i64 imm, .int .i64 kind] 23)).cell? ⟨0, 64, none⟩ = some (.bool true) := hs.alloc _ 64 (by decide)
  have e2 : (w.alloc (.cells #[.int .i64 7, .int .i64 d, .int .i64 n, .int .i64 m, .int .i64 imm, .int .i64 kind] 23)).cell? ⟨0, 65, none⟩ = some (.bool true) := hs.alloc _ 65 (by decide)
  have e3 : (w.alloc (.cells #[.int .i64 7, .int .i64 d, .int .i64 n, .int .i64 m, .int .i64 imm, .int .i64 kind] 23)).cell? ⟨0, 66, none⟩ = some (.bool false) := hs.alloc _ 66 (by decide)
  have e4 : (w.alloc (.cells #[.int .i64 7, .int .i64 d, .int .i64 n, .int .i64 m, .int .i64 imm, .int .i64 kind] 23)).cell? ⟨0, 67, none⟩ = some (.int .i64 12) := hs.alloc _ 67 (by decide)
  have e5 : (w.alloc (.cells #[.int .i64 7, .int .i64 d, .int .i64 n, .int .i64 m, .int .i64 imm, .int .i64 kind] 23)).cell? ⟨0, 68, none⟩ = some (.int .i64 10) := hs.alloc _ 68 (by decide)
  have e6 : (w.alloc (.cells #[.int .i64 7, .int .i64 d, .int .i64 n, .int .i64 m, .int .i64 imm, .int .i64 kind] 23)).cell? ⟨0, 69, none⟩ = some (.int .i64 1) := hs.alloc _ 69 (by decide)
  have e7 : (w.alloc (.cells #[.int .i64 7, .int .i64 d, .int .i64 n, .int .i64 m, .int .i64 imm, .int .i64 kind] 23)).cell? ⟨0, 70, none⟩ = some (.int .i64 0) := hs.alloc _ 70 (by decide)
  have e8 : (w.alloc (.cells #[.int .i64 7, .int .i64 d, .int .i64 n, .int .i64 m, .int .i64 imm, .int .i64 kind] 23)).cell? ⟨0, 71, none⟩ = some (.int .i64 0) := hs.alloc _ 71 (by decide)
  have a0 : ∀ x : Wb ((w.alloc (.cells #[.int .i64 7, .int .i64 d, .int .i64 n, .int .i64 m, .int .i64 imm, .int .i64 kind] 23)).alloc (.cells #[.int .u32 2432696320, .bool true, .bool true, .bool false, .int .i64 12, .int .i64 10, .int .i64 1, .int .i64 0, .int .i64 0] 40)), x.at.cell? ⟨w.heap.size, 0, none⟩ = some (.int .i64 7) := fun x => by rw [x.cell _ (by simp; omega)]; simp [World.cell?_alloc_new]
  have a1 : ∀ x : Wb ((w.alloc (.cells #[.int .i64 7, .int .i64 d, .int .i64 n, .int .i64 m, .int .i64 imm, .int .i64 kind] 23)).alloc (.cells #[.int .u32 2432696320, .bool true, .bool true, .bool false, .int .i64 12, .int .i64 10, .int .i64 1, .int .i64 0, .int .i64 0] 40)), x.at.cell? ⟨w.heap.size, 1, none⟩ = some (.int .i64 d) := fun x => by rw [x.cell _ (by simp; omega)]; simp [World.cell?_alloc_new]
  have a2 : ∀ x : Wb ((w.alloc (.cells #[.int .i64 7, .int .i64 d, .int .i64 n, .int .i64 m, .int .i64 imm, .int .i64 kind] 23)).alloc (.cells #[.int .u32 2432696320, .bool true, .bool true, .bool false, .int .i64 12, .int .i64 10, .int .i64 1, .int .i64 0, .int .i64 0] 40)), x.at.cell? ⟨w.heap.size, 2, none⟩ = some (.int .i64 n) := fun x => by rw [x.cell _ (by simp; omega)]; simp [World.cell?_alloc_new]
  have a3 : ∀ x : Wb ((w.alloc (.cells #[.int .i64 7, .int .i64 d, .int .i64 n, .int .i64 m, .int .i64 imm, .int .i64 kind] 23)).alloc (.cells #[.int .u32 2432696320, .bool true, .bool true, .bool false, .int .i64 12, .int .i64 10, .int .i64 1, .int .i64 0, .int .i64 0] 40)), x.at.cell? ⟨w.heap.size, 3, none⟩ = some (.int .i64 m) := fun x => by rw [x.cell _ (by simp; omega)]; simp [World.cell?_alloc_new]
  have a4 : ∀ x : Wb ((w.alloc (.cells #[.int .i64 7, .int .i64 d, .int .i64 n, .int .i64 m, .int .i64 imm, .int .i64 kind] 23)).alloc (.cells #[.int .u32 2432696320, .bool true, .bool true, .bool false, .int .i64 12, .int .i64 10, .int .i64 1, .int .i64 0, .int .i64 0] 40)), x.at.cell? ⟨w.heap.size, 4, none⟩ = some (.int .i64 imm) := fun x => by rw [x.cell _ (by simp; omega)]; simp [World.cell?_alloc_new]
  have a5 : ∀ x : Wb ((w.alloc (.cells #[.int .i64 7, .int .i64 d, .int .i64 n, .int .i64 m, .int .i64 imm, .int .i64 kind] 23)).alloc (.cells #[.int .u32 2432696320, .bool true, .bool true, .bool false, .int .i64 12, .int .i64 10, .int .i64 1, .int .i64 0, .int .i64 0] 40)), x.at.cell? ⟨w.heap.size, 5, none⟩ = some (.int .i64 kind) := fun x => by rw [x.cell _ (by simp; omega)]; simp [World.cell?_alloc_new]
  have b0 : ∀ x : Wb ((w.alloc (.cells #[.int .i64 7, .int .i64 d, .int .i64 n, .int .i64 m, .int .i64 imm, .int .i64 kind] 23)).alloc (.cells #[.int .u32 2432696320, .bool true, .bool true, .bool false, .int .i64 12, .int .i64 10, .int .i64 1, .int .i64 0, .int .i64 0] 40)), x.at.cell? ⟨w.heap.size + 1, 0, none⟩ = some (.int .u32 2432696320) := fun x => by rw [x.cell _ (by simp)]; simp [World.cell?_alloc_new]
  have b1 : ∀ x : Wb ((w.alloc (.cells #[.int .i64 7, .int .i64 d, .int .i64 n, .int .i64 m, .int .i64 imm, .int .i64 kind] 23)).alloc (.cells #[.int .u32 2432696320, .bool true, .bool true, .bool false, .int .i64 12, .int .i64 10, .int .i64 1, .int .i64 0, .int .i64 0] 40)), x.at.cell? ⟨w.heap.size + 1, 1, none⟩ = some (.bool true) := fun x => by rw [x.cell _ (by simp)]; simp [World.cell?_alloc_new]
  have b2 : ∀ x : Wb ((w.alloc (.cells #[.int .i64 7, .int .i64 d, .int .i64 n, .int .i64 m, .int .i64 imm, .int .i64 kind] 23)).alloc (.cells #[.int .u32 2432696320, .bool true, .bool true, .bool false, .int .i64 12, .int .i64 10, .int .i64 1, .int .i64 0, .int .i64 0] 40)), x.at.cell? ⟨w.heap.size + 1, 2, none⟩ = some (.bool true) := fun x => by rw [x.cell _ (by simp)]; simp [World.cell?_alloc_new]
  have b3 : ∀ x : Wb ((w.alloc (.cells #[.int .i64 7, .int .i64 d, .int .i64 n, .int .i64 m, .int .i64 imm, .int .i64 kind] 23)).alloc (.cells #[.int .u32 2432696320, .bool true, .bool true, .bool false, .int .i64 12, .int .i64 10, .int .i64 1, .int .i64 0, .int .i64 0] 40)), x.at.cell? ⟨w.heap.size + 1, 3, none⟩ = some (.bool false) := fun x => by rw [x.cell _ (by simp)]; simp [World.cell?_alloc_new]
  have b4 : ∀ x : Wb ((w.alloc (.cells #[.int .i64 7, .int .i64 d, .int .i64 n, .int .i64 m, .int .i64 imm, .int .i64 kind] 23)).alloc (.cells #[.int .u32 2432696320, .bool true, .bool true, .bool false, .int .i64 12, .int .i64 10, .int .i64 1, .int .i64 0, .int .i64 0] 40)), x.at.cell? ⟨w.heap.size + 1, 4, none⟩ = some (.int .i64 12) := fun x => by rw [x.cell _ (by simp)]; simp [World.cell?_alloc_new]
  have b5 : ∀ x : Wb ((w.alloc (.cells #[.int .i64 7, .int .i64 d, .int .i64 n, .int .i64 m, .int .i64 imm, .int .i64 kind] 23)).alloc (.cells #[.int .u32 2432696320, .bool true, .bool true, .bool false, .int .i64 12, .int .i64 10, .int .i64 1, .int .i64 0, .int .i64 0] 40)), x.at.cell? ⟨w.heap.size + 1, 5, none⟩ = some (.int .i64 10) := fun x => by rw [x.cell _ (by simp)]; simp [World.cell?_alloc_new]
  have b6 : ∀ x : Wb ((w.alloc (.cells #[.int .i64 7, .int .i64 d, .int .i64 n, .int .i64 m, .int .i64 imm, .int .i64 kind] 23)).alloc (.cells #[.int .u32 2432696320, .bool true, .bool true, .bool false, .int .i64 12, .int .i64 10, .int .i64 1, .int .i64 0, .int .i64 0] 40)), x.at.cell? ⟨w.heap.size + 1, 6, none⟩ = some (.int .i64 1) := fun x => by rw [x.cell _ (by simp)]; simp [World.cell?_alloc_new]
  have b7 : ∀ x : Wb ((w.alloc (.cells #[.int .i64 7, .int .i64 d, .int .i64 n, .int .i64 m, .int .i64 imm, .int .i64 kind] 23)).alloc (.cells #[.int .u32 2432696320, .bool true, .bool true, .bool false, .int .i64 12, .int .i64 10, .int .i64 1, .int .i64 0, .int .i64 0] 40)), x.at.cell? ⟨w.heap.size + 1, 7, none⟩ = some (.int .i64 0) := fun x => by rw [x.cell _ (by simp)]; simp [World.cell?_alloc_new]
  have b8 : ∀ x : Wb ((w.alloc (.cells #[.int .i64 7, .int .i64 d, .int .i64 n, .int .i64 m, .int .i64 imm, .int .i64 kind] 23)).alloc (.cells #[.int .u32 2432696320, .bool true, .bool true, .bool false, .int .i64 12, .int .i64 10, .int .i64 1, .int .i64 0, .int .i64 0] 40)), x.at.cell? ⟨w.heap.size + 1, 8, none⟩ = some (.int .i64 0) := fun x => by rw [x.cell _ (by simp)]; simp [World.cell?_alloc_new]
  have KB := Lib.hid (fun (x : Wb ((w.alloc (.cells #[.int .i64 7, .int .i64 d, .int .i64 n, .int .i64 m, .int .i64 imm, .int .i64 kind] 23)).alloc (.cells #[.int .u32 2432696320, .bool true, .bool true, .bool false, .int .i64 12, .int .i64 10, .int .i64 1, .int .i64 0, .int .i64 0] 40))) => ((((Below.refl _ _).alloc (Nat.le_refl _) _).alloc (by simp) _).trans (x.bel.mono (by simp; omega)) : Below w.heap.size w x.at))
  clear hb0 hb1 hs
  cases r1 : GrI.regB true d with
  | false =>
    go_enter Tryd.func12, Tryd.ntmps12
    go_wp2_with (first | (go_at_call 22; refine (register_any _ _ _).mono ?_; rintro e w1 ⟨rfl, rfl⟩) | (go_at_call 23; refine (NM.out _ _ _ _ _ _ _ _).mono ?_; rintro e w1 ⟨rfl, d1⟩; obtain ⟨x1, rfl⟩ := Wb.start d1; clear d1) | (go_at_call 24; refine (kind_c _ _ _ _ _ _ _ _ _ _ _ _ _ _ _ _ (by decide) (by decide) (by decide)).mono ?_; rintro e w1 ⟨rfl, d1⟩; obtain ⟨x2, rfl⟩ := Wb.next d1; clear d1))
    go_ret
    exact ⟨ret_code (by rw [E.out]; simp [r1, GrI.code]), (((Below.refl _ _).alloc (Nat.le_refl _) _).alloc (by simp) _)⟩
  | true =>
    cases r2 : GrI.regB true n with
    | false =>
      go_enter Tryd.func12, Tryd.ntmps12
      go_wp2_with (first | (go_at_call 22; refine (register_any _ _ _).mono ?_; rintro e w1 ⟨rfl, rfl⟩) | (go_at_call 23; refine (NM.out _ _ _ _ _ _ _ _).mono ?_; rintro e w1 ⟨rfl, d1⟩; obtain ⟨x1, rfl⟩ := Wb.start d1; clear d1) | (go_at_call 24; refine (kind_c _ _ _ _ _ _ _ _ _ _ _ _ _ _ _ _ (by decide) (by decide) (by decide)).mono ?_; rintro e w1 ⟨rfl, d1⟩; obtain ⟨x2, rfl⟩ := Wb.next d1; clear d1))
      go_ret
      exact ⟨ret_code (by rw [E.out]; simp [r1, r2, GrI.code]), (((Below.refl _ _).alloc (Nat.le_refl _) _).alloc (by simp) _)⟩
    | true =>
      cases r3 : GrI.regB false m with
      | false =>
        go_enter Tryd.func12, Tryd.ntmps12
        go_wp2_with (first | (go_at_call 22; refine (register_any _ _ _).mono ?_; rintro e w1 ⟨rfl, rfl⟩) | (go_at_call 23; refine (NM.out _ _ _ _ _ _ _ _).mono ?_; rintro e w1 ⟨rfl, d1⟩; obtain ⟨x1, rfl⟩ := Wb.start d1; clear d1) | (go_at_call 24; refine (kind_c _ _ _ _ _ _ _ _ _ _ _ _ _ _ _ _ (by decide) (by decide) (by decide)).mono ?_; rintro e w1 ⟨rfl, d1⟩; obtain ⟨x2, rfl⟩ := Wb.next d1; clear d1))
        go_ret
        exact ⟨ret_code (by rw [E.out]; simp [r1, r2, r3, GrI.code]), (((Below.refl _ _).alloc (Nat.le_refl _) _).alloc (by simp) _)⟩
      | true =>
        cases r4 : GrI.numB 12 1 imm with
        | false =>
          go_enter Tryd.func12, Tryd.ntmps12
          go_wp2_with (first | (go_at_call 22; refine (register_any _ _ _).mono ?_; rintro e w1 ⟨rfl, rfl⟩) | (go_at_call 23; refine (NM.out _ _ _ _ _ _ _ _).mono ?_; rintro e w1 ⟨rfl, d1⟩; obtain ⟨x1, rfl⟩ := Wb.start d1; clear d1) | (go_at_call 24; refine (kind_c _ _ _ _ _ _ _ _ _ _ _ _ _ _ _ _ (by decide) (by decide) (by decide)).mono ?_; rintro e w1 ⟨rfl, d1⟩; obtain ⟨x2, rfl⟩ := Wb.next d1; clear d1))
          go_ret
          exact ⟨ret_code (by rw [E.out]; simp [r1, r2, r3, r4, GrI.code]), KB.out x1⟩
        | true =>
          cases r5 : GrI.kindB 7 d kind 0 with
          | false =>
            go_enter Tryd.func12, Tryd.ntmps12
            go_wp2_with (first | (go_at_call 22; refine (register_any _ _ _).mono ?_; rintro e w1 ⟨rfl, rfl⟩) | (go_at_call 23; refine (NM.out _ _ _ _ _ _ _ _).mono ?_; rintro e w1 ⟨rfl, d1⟩; obtain ⟨x1, rfl⟩ := Wb.start d1; clear d1) | (go_at_call 24; refine (kind_c _ _ _ _ _ _ _ _ _ _ _ _ _ _ _ _ (by decide) (by decide) (by decide)).mono ?_; rintro e w1 ⟨rfl, d1⟩; obtain ⟨x2, rfl⟩ := Wb.next d1; clear d1))
            go_ret
            exact ⟨ret_code (by rw [E.out]; simp [r1, r2, r3, r4, r5, GrI.code]), KB.out x2⟩
          | true =>
            go_enter Tryd.func12, Tryd.ntmps12
            go_wp2_with (first | (go_at_call 22; refine (register_any _ _ _).mono ?_; rintro e w1 ⟨rfl, rfl⟩) | (go_at_call 23; refine (NM.out _ _ _ _ _ _ _ _).mono ?_; rintro e w1 ⟨rfl, d1⟩; obtain ⟨x1, rfl⟩ := Wb.start d1; clear d1) | (go_at_call 24; refine (kind_c _ _ _ _ _ _ _ _ _ _ _ _ _ _ _ _ (by decide) (by decide) (by decide)).mono ?_; rintro e w1 ⟨rfl, d1⟩; obtain ⟨x2, rfl⟩ := Wb.next d1; clear d1))
            go_ret
            exact ⟨ret_code (by rw [E.out]; simp [r1, r2, r3, r4, r5, GrI.code]), KB.out x2⟩

theorem xright_eq_8 (d n m imm kind : Int) : decide (GrI.right ⟨8, d, n, m, imm, kind⟩) = (GrI.regB true d && (GrI.regB true n && (GrI.regB true m && (GrI.numB 0 0 imm && GrI.kindB 8 d kind 0)))) := by
  rw [Bool.eq_iff_iff]
  simp [GrI.right, GrI.parts, GrI.nums, GrI.regB, GrI.numB, GrI.kindB]
  try omega

set_option maxRecDepth 100000 in
set_option maxHeartbeats 6400000 in
theorem xright_8 (d n m imm kind : Int) (w : World) (hs : ShAt w) (hb0 : -9223372036854775808 ≤ imm) (hb1 : imm ≤ 9223372036854775807) :
    Calls Tryd.prog 12 #[.agg #[.int .i64 8, .int .i64 d, .int .i64 n, .int .i64 m, .int .i64 imm, .int .i64 kind]] w fun e w' => e = .returned (.int .i64 (GrI.code (decide (GrI.right ⟨8, d, n, m, imm, kind⟩)))) ∧ Below w.heap.size w w' := by
  have E := Lib.hid (xright_eq_8 d n m imm kind)
  have NM := Lib.hid (fun wd d n m a k ka w => number_0_0 wd d n m a k ka imm w hb0 hb1)
  have e0 : (w.alloc (.cells #[.int .i64 8, .int .i64 d, .int .i64 n, .int .i64 m, .int .i64 imm, .int .i64 kind] 23)).cell? ⟨0, 72, none⟩ = some (.int .u32 2332033024) := hs.alloc _ 72 (by decide)
  have e1 : (w.alloc (.cells #[.int .i64 8, .int .i64 d, .int .i64 n, .int .i64 m, .int .i64 imm, .int .i64 kind] 23)).cell? ⟨0, 73, none⟩ = some (.bool true) := hs.alloc _ 73 (by decide)
  have e2 : (w.alloc (.cells #[.int .i64 8, .int .i64 d, .int .i64 n, .int .i64 m, .int .i64 imm, .int .i64 kind] 23)).cell? ⟨0, 74, none⟩ = some (.bool true) := hs.alloc _ 74 (by decide)
  have e3 : (w.alloc (.cells #[.int .i64 8, .int .i64 d, .int .i64 n, .int .i64 m, .int .i64 imm, .int .i64 kind] 23)).cell? ⟨0, 75, none⟩ = some (.bool true) := hs.alloc _ 75 (by decide)
  have e4 : (w.alloc (.cells #[.int .i64 8, .int .i64 d, .int .i64 n, .int .i64 m, .int .i64 imm, .int .i64 kind] 23)).cell? ⟨0, 76, none⟩ = some (.int .i64 0) := hs.alloc _ 76 (by decide)
  have e5 : (w.alloc (.cells #[.int .i64 8, .int .i64 d, .int .i64 n, .int .i64 m, .int .i64 imm, .int .i64 kind] 23)).cell? ⟨0, 77, none⟩ = some (.int .i64 0) := hs.alloc _ 77 (by decide)
  have e6 : (w.alloc (.cells #[.int .i64 8, .int .i64 d, .int .i64 n, .int .i64 m, .int .i64 imm, .int .i64 kind] 23)).cell? ⟨0, 78, none⟩ = some (.int .i64 0) := hs.alloc _ 78 (by decide)
  have e7 : (w.alloc (.cells #[.int .i64 8, .int .i64 d, .int .i64 n, .int .i64 m, .int .i64 imm, .int .i64 kind] 23)).cell? ⟨0, 79, none⟩ = some (.int .i64 0) := hs.alloc _ 79 (by decide)
  have e8 : (w.alloc (.cells #[.int .i64 8, .int .i64 d, .int .i64 n, .int .i64 m, .int .i64 imm, .int .i64 kind] 23)).cell? ⟨0, 80, none⟩ = some (.int .i64 0) := hs.alloc _ 80 (by decide)
  have a0 : ∀ x : Wb ((w.alloc (.cells #[.int .i64 8, .int .i64 d, .int .i64 n, .int .i64 m, .int .i64 imm, .int .i64 kind] 23)).alloc (.cells #[.int .u32 2332033024, .bool true, .bool true, .bool true, .int .i64 0, .int .i64 0, .int .i64 0, .int .i64 0, .int .i64 0] 40)), x.at.cell? ⟨w.heap.size, 0, none⟩ = some (.int .i64 8) := fun x => by rw [x.cell _ (by simp; omega)]; simp [World.cell?_alloc_new]
  have a1 : ∀ x : Wb ((w.alloc (.cells #[.int .i64 8, .int .i64 d, .int .i64 n, .int .i64 m, .int .i64 imm, .int .i64 kind] 23)).alloc (.cells #[.int .u32 2332033024, .bool true, .bool true, .bool true, .int .i64 0, .int .i64 0, .int .i64 0, .int .i64 0, .int .i64 0] 40)), x.at.cell? ⟨w.heap.size, 1, none⟩ = some (.int .i64 d) := fun x => by rw [x.cell _ (by simp; omega)]; simp [World.cell?_alloc_new]
  have a2 : ∀ x : Wb ((w.alloc (.cells #[.int .i64 8, .int .i64 d, .int .i64 n, .int .i64 m, .int .i64 imm, .int .i64 kind] 23)).alloc (.cells #[.int .u32 2332033024, .bool true, .bool true, .bool true, .int .i64 0, .int .i64 0, .int .i64 0, .int .i64 0, .int .i64 0] 40)), x.at.cell? ⟨w.heap.size, 2, none⟩ = some (.int .i64 n) := fun x => by rw [x.cell _ (by simp; omega)]; simp [World.cell?_alloc_new]
  have a3 : ∀ x : Wb ((w.alloc (.cells #[.int .i64 8, .int .i64 d, .int .i64 n, .int .i64 m, .int .i64 imm, .int .i64 kind] 23)).alloc (.cells #[.int .u32 2332033024, .bool true, .bool true, .bool true, .int .i64 0, .int .i64 0, .int .i64 0, .int .i64 0, .int .i64 0] 40)), x.at.cell? ⟨w.heap.size, 3, none⟩ = some (.int .i64 m) := fun x => by rw [x.cell _ (by simp; omega)]; simp [World.cell?_alloc_new]
  have a4 : ∀ x : Wb ((w.alloc (.cells #[.int .i64 8, .int .i64 d, .int .i64 n, .int .i64 m, .int .i64 imm, .int .i64 kind] 23)).alloc (.cells #[.int .u32 2332033024, .bool true, .bool true, .bool true, .int .i64 0, .int .i64 0, .int .i64 0, .int .i64 0, .int .i64 0] 40)), x.at.cell? ⟨w.heap.size, 4, none⟩ = some (.int .i64 imm) := fun x => by rw [x.cell _ (by simp; omega)]; simp [World.cell?_alloc_new]
  have a5 : ∀ x : Wb ((w.alloc (.cells #[.int .i64 8, .int .i64 d, .int .i64 n, .int .i64 m, .int .i64 imm, .int .i64 kind] 23)).alloc (.cells #[.int .u32 2332033024, .bool true, .bool true, .bool true, .int .i64 0, .int .i64 0, .int .i64 0, .int .i64 0, .int .i64 0] 40)), x.at.cell? ⟨w.heap.size, 5, none⟩ = some (.int .i64 kind) := fun x => by rw [x.cell _ (by simp; omega)]; simp [World.cell?_alloc_new]
  have b0 : ∀ x : Wb ((w.alloc (.cells #[.int .i64 8, .int .i64 d, .int .i64 n, .int .i64 m, .int .i64 imm, .int .i64 kind] 23)).alloc (.cells #[.int .u32 2332033024, .bool true, .bool true, .bool true, .int .i64 0, .int .i64 0, .int .i64 0, .int .i64 0, .int .i64 0] 40)), x.at.cell? ⟨w.heap.size + 1, 0, none⟩ = some (.int .u32 2332033024) := fun x => by rw [x.cell _ (by simp)]; simp [World.cell?_alloc_new]
  have b1 : ∀ x : Wb ((w.alloc (.cells #[.int .i64 8, .int .i64 d, .int .i64 n, .int .i64 m, .int .i64 imm, .int .i64 kind] 23)).alloc (.cells #[.int .u32 2332033024, .bool true, .bool true, .bool true, .int .i64 0, .int .i64 0, .int .i64 0, .int .i64 0, .int .i64 0] 40)), x.at.cell? ⟨w.heap.size + 1, 1, none⟩ = some (.bool true) := fun x => by rw [x.cell _ (by simp)]; simp [World.cell?_alloc_new]
  have b2 : ∀ x : Wb ((w.alloc (.cells #[.int .i64 8, .int .i64 d, .int .i64 n, .int .i64 m, .int .i64 imm, .int .i64 kind] 23)).alloc (.cells #[.int .u32 2332033024, .bool true, .bool true, .bool true, .int .i64 0, .int .i64 0, .int .i64 0, .int .i64 0, .int .i64 0] 40)), x.at.cell? ⟨w.heap.size + 1, 2, none⟩ = some (.bool true) := fun x => by rw [x.cell _ (by simp)]; simp [World.cell?_alloc_new]
  have b3 : ∀ x : Wb ((w.alloc (.cells #[.int .i64 8, .int .i64 d, .int .i64 n, .int .i64 m, .int .i64 imm, .int .i64 kind] 23)).alloc (.cells #[.int .u32 2332033024, .bool true, .bool true, .bool true, .int .i64 0, .int .i64 0, .int .i64 0, .int .i64 0, .int .i64 0] 40)), x.at.cell? ⟨w.heap.size + 1, 3, none⟩ = some (.bool true) := fun x => by rw [x.cell _ (by simp)]; simp [World.cell?_alloc_new]
  have b4 : ∀ x : Wb ((w.alloc (.cells #[.int .i64 8, .int .i64 d, .int .i64 n, .int .i64 m, .int .i64 imm, .int .i64 kind] 23)).alloc (.cells #[.int .u32 2332033024, .bool true, .bool true, .bool true, .int .i64 0, .int .i64 0, .int .i64 0, .int .i64 0, .int .i64 0] 40)), x.at.cell? ⟨w.heap.size + 1, 4, none⟩ = some (.int .i64 0) := fun x => by rw [x.cell _ (by simp)]; simp [World.cell?_alloc_new]
  have b5 : ∀ x : Wb ((w.alloc (.cells #[.int .i64 8, .int .i64 d, .int .i64 n, .int .i64 m, .int .i64 imm, .int .i64 kind] 23)).alloc (.cells #[.int .u32 2332033024, .bool true, .bool true, .bool true, .int .i64 0, .int .i64 0, .int .i64 0, .int .i64 0, .int .i64 0] 40)), x.at.cell? ⟨w.heap.size + 1, 5, none⟩ = some (.int .i64 0) := fun x => by rw [x.cell _ (by simp)]; simp [World.cell?_alloc_new]
  have b6 : ∀ x : Wb ((w.alloc (.cells #[.int .i64 8, .int .i64 d, .int .i64 n, .int .i64 m, .int .i64 imm, .int .i64 kind] 23)).alloc (.cells #[.int .u32 2332033024, .bool true, .bool true, .bool true, .int .i64 0, .int .i64 0, .int .i64 0, .int .i64 0, .int .i64 0] 40)), x.at.cell? ⟨w.heap.size + 1, 6, none⟩ = some (.int .i64 0) := fun x => by rw [x.cell _ (by simp)]; simp [World.cell?_alloc_new]
  have b7 : ∀ x : Wb ((w.alloc (.cells #[.int .i64 8, .int .i64 d, .int .i64 n, .int .i64 m, .int .i64 imm, .int .i64 kind] 23)).alloc (.cells #[.int .u32 2332033024, .bool true, .bool true, .bool true, .int .i64 0, .int .i64 0, .int .i64 0, .int .i64 0, .int .i64 0] 40)), x.at.cell? ⟨w.heap.size + 1, 7, none⟩ = some (.int .i64 0) := fun x => by rw [x.cell _ (by simp)]; simp [World.cell?_alloc_new]
  have b8 : ∀ x : Wb ((w.alloc (.cells #[.int .i64 8, .int .i64 d, .int .i64 n, .int .i64 m, .int .i64 imm, .int .i64 kind] 23)).alloc (.cells #[.int .u32 2332033024, .bool true, .bool true, .bool true, .int .i64 0, .int .i64 0, .int .i64 0, .int .i64 0, .int .i64 0] 40)), x.at.cell? ⟨w.heap.size + 1, 8, none⟩ = some (.int .i64 0) := fun x => by rw [x.cell _ (by simp)]; simp [World.cell?_alloc_new]
  have KB := Lib.hid (fun (x : Wb ((w.alloc (.cells #[.int .i64 8, .int .i64 d, .int .i64 n, .int .i64 m, .int .i64 imm, .int .i64 kind] 23)).alloc (.cells #[.int .u32 2332033024, .bool true, .bool true, .bool true, .int .i64 0, .int .i64 0, .int .i64 0, .int .i64 0, .int .i64 0] 40))) => ((((Below.refl _ _).alloc (Nat.le_refl _) _).alloc (by simp) _).trans (x.bel.mono (by simp; omega)) : Below w.heap.size w x.at))
  clear hb0 hb1 hs
  cases r1 : GrI.regB true d with
  | false =>
    go_enter Tryd.func12, Tryd.ntmps12
    go_wp2_with (first | (go_at_call 22; refine (register_any _ _ _).mono ?_; rintro e w1 ⟨rfl, rfl⟩) | (go_at_call 23; refine (NM.out _ _ _ _ _ _ _ _).mono ?_; rintro e w1 ⟨rfl, d1⟩; obtain ⟨x1, rfl⟩ := Wb.start d1; clear d1) | (go_at_call 24; refine (kind_c _ _ _ _ _ _ _ _ _ _ _ _ _ _ _ _ (by decide) (by decide) (by decide)).mono ?_; rintro e w1 ⟨rfl, d1⟩; obtain ⟨x2, rfl⟩ := Wb.next d1; clear d1))
    go_ret
    exact ⟨ret_code (by rw [E.out]; simp [r1, GrI.code]), (((Below.refl _ _).alloc (Nat.le_refl _) _).alloc (by simp) _)⟩
  | true =>
    cases r2 : GrI.regB true n with
    | false =>
      go_enter Tryd.func12, Tryd.ntmps12
      go_wp2_with (first | (go_at_call 22; refine (register_any _ _ _).mono ?_; rintro e w1 ⟨rfl, rfl⟩) | (go_at_call 23; refine (NM.out _ _ _ _ _ _ _ _).mono ?_; rintro e w1 ⟨rfl, d1⟩; obtain ⟨x1, rfl⟩ := Wb.start d1; clear d1) | (go_at_call 24; refine (kind_c _ _ _ _ _ _ _ _ _ _ _ _ _ _ _ _ (by decide) (by decide) (by decide)).mono ?_; rintro e w1 ⟨rfl, d1⟩; obtain ⟨x2, rfl⟩ := Wb.next d1; clear d1))
      go_ret
      exact ⟨ret_code (by rw [E.out]; simp [r1, r2, GrI.code]), (((Below.refl _ _).alloc (Nat.le_refl _) _).alloc (by simp) _)⟩
    | true =>
      cases r3 : GrI.regB true m with
      | false =>
        go_enter Tryd.func12, Tryd.ntmps12
        go_wp2_with (first | (go_at_call 22; refine (register_any _ _ _).mono ?_; rintro e w1 ⟨rfl, rfl⟩) | (go_at_call 23; refine (NM.out _ _ _ _ _ _ _ _).mono ?_; rintro e w1 ⟨rfl, d1⟩; obtain ⟨x1, rfl⟩ := Wb.start d1; clear d1) | (go_at_call 24; refine (kind_c _ _ _ _ _ _ _ _ _ _ _ _ _ _ _ _ (by decide) (by decide) (by decide)).mono ?_; rintro e w1 ⟨rfl, d1⟩; obtain ⟨x2, rfl⟩ := Wb.next d1; clear d1))
        go_ret
        exact ⟨ret_code (by rw [E.out]; simp [r1, r2, r3, GrI.code]), (((Below.refl _ _).alloc (Nat.le_refl _) _).alloc (by simp) _)⟩
      | true =>
        cases r4 : GrI.numB 0 0 imm with
        | false =>
          go_enter Tryd.func12, Tryd.ntmps12
          go_wp2_with (first | (go_at_call 22; refine (register_any _ _ _).mono ?_; rintro e w1 ⟨rfl, rfl⟩) | (go_at_call 23; refine (NM.out _ _ _ _ _ _ _ _).mono ?_; rintro e w1 ⟨rfl, d1⟩; obtain ⟨x1, rfl⟩ := Wb.start d1; clear d1) | (go_at_call 24; refine (kind_c _ _ _ _ _ _ _ _ _ _ _ _ _ _ _ _ (by decide) (by decide) (by decide)).mono ?_; rintro e w1 ⟨rfl, d1⟩; obtain ⟨x2, rfl⟩ := Wb.next d1; clear d1))
          go_ret
          exact ⟨ret_code (by rw [E.out]; simp [r1, r2, r3, r4, GrI.code]), KB.out x1⟩
        | true =>
          cases r5 : GrI.kindB 8 d kind 0 with
          | false =>
            go_enter Tryd.func12, Tryd.ntmps12
            go_wp2_with (first | (go_at_call 22; refine (register_any _ _ _).mono ?_; rintro e w1 ⟨rfl, rfl⟩) | (go_at_call 23; refine (NM.out _ _ _ _ _ _ _ _).mono ?_; rintro e w1 ⟨rfl, d1⟩; obtain ⟨x1, rfl⟩ := Wb.start d1; clear d1) | (go_at_call 24; refine (kind_c _ _ _ _ _ _ _ _ _ _ _ _ _ _ _ _ (by decide) (by decide) (by decide)).mono ?_; rintro e w1 ⟨rfl, d1⟩; obtain ⟨x2, rfl⟩ := Wb.next d1; clear d1))
            go_ret
            exact ⟨ret_code (by rw [E.out]; simp [r1, r2, r3, r4, r5, GrI.code]), KB.out x2⟩
          | true =>
            go_enter Tryd.func12, Tryd.ntmps12
            go_wp2_with (first | (go_at_call 22; refine (register_any _ _ _).mono ?_; rintro e w1 ⟨rfl, rfl⟩) | (go_at_call 23; refine (NM.out _ _ _ _ _ _ _ _).mono ?_; rintro e w1 ⟨rfl, d1⟩; obtain ⟨x1, rfl⟩ := Wb.start d1; clear d1) | (go_at_call 24; refine (kind_c _ _ _ _ _ _ _ _ _ _ _ _ _ _ _ _ (by decide) (by decide) (by decide)).mono ?_; rintro e w1 ⟨rfl, d1⟩; obtain ⟨x2, rfl⟩ := Wb.next d1; clear d1))
            go_ret
            exact ⟨ret_code (by rw [E.out]; simp [r1, r2, r3, r4, r5, GrI.code]), KB.out x2⟩

theorem xright_eq_9 (d n m imm kind : Int) : decide (GrI.right ⟨9, d, n, m, imm, kind⟩) = (GrI.regB true d && (GrI.regB true n && (GrI.regB true m && (GrI.numB 0 0 imm && GrI.kindB 9 d kind 0)))) := by
  rw [Bool.eq_iff_iff]
  simp [GrI.right, GrI.parts, GrI.nums, GrI.regB, GrI.numB, GrI.kindB]
  try omega

set_option maxRecDepth 100000 in
set_option maxHeartbeats 6400000 in
theorem xright_9 (d n m imm kind : Int) (w : World) (hs : ShAt w) (hb0 : -9223372036854775808 ≤ imm) (hb1 : imm ≤ 9223372036854775807) :
    Calls Tryd.prog 12 #[.agg #[.int .i64 9, .int .i64 d, .int .i64 n, .int .i64 m, .int .i64 imm, .int .i64 kind]] w fun e w' => e = .returned (.int .i64 (GrI.code (decide (GrI.right ⟨9, d, n, m, imm, kind⟩)))) ∧ Below w.heap.size w w' := by
  have E := Lib.hid (xright_eq_9 d n m imm kind)
  have NM := Lib.hid (fun wd d n m a k ka w => number_0_0 wd d n m a k ka imm w hb0 hb1)
  have e0 : (w.alloc (.cells #[.int .i64 9, .int .i64 d, .int .i64 n, .int .i64 m, .int .i64 imm, .int .i64 kind] 23)).cell? ⟨0, 81, none⟩ = some (.int .u32 3405774848) := hs.alloc _ 81 (by decide)
  have e1 : (w.alloc (.cells #[.int .i64 9, .int .i64 d, .int .i64 n, .int .i64 m, .int .i64 imm, .int .i64 kind] 23)).cell? ⟨0, 82, none⟩ = some (.bool true) := hs.alloc _ 82 (by decide)
  have e2 : (w.alloc (.cells #[.int .i64 9, .int .i64 d, .int .i64 n, .int .i64 m, .int .i64 imm, .int .i64 kind] 23)).cell? ⟨0, 83, none⟩ = some (.bool true) := hs.alloc _ 83 (by decide)
  have e3 : (w.alloc (.cells #[.int .i64 9, .int .i64 d, .int .i64 n, .int .i64 m, .int .i64 imm, .int .i64 kind] 23)).cell? ⟨0, 84, none⟩ = some (.bool true) := hs.alloc _ 84 (by decide)
  have e4 : (w.alloc (.cells #[.int .i64 9, .int .i64 d, .int .i64 n, .int .i64 m, .int .i64 imm, .int .i64 kind] 23)).cell? ⟨0, 85, none⟩ = some (.int .i64 0) := hs.alloc _ 85 (by decide)
  have e5 : (w.alloc (.cells #[.int .i64 9, .int .i64 d, .int .i64 n, .int .i64 m, .int .i64 imm, .int .i64 kind] 23)).cell? ⟨0, 86, none⟩ = some (.int .i64 0) := hs.alloc _ 86 (by decide)
  have e6 : (w.alloc (.cells #[.int .i64 9, .int .i64 d, .int .i64 n, .int .i64 m, .int .i64 imm, .int .i64 kind] 23)).cell? ⟨0, 87, none⟩ = some (.int .i64 0) := hs.alloc _ 87 (by decide)
  have e7 : (w.alloc (.cells #[.int .i64 9, .int .i64 d, .int .i64 n, .int .i64 m, .int .i64 imm, .int .i64 kind] 23)).cell? ⟨0, 88, none⟩ = some (.int .i64 0) := hs.alloc _ 88 (by decide)
  have e8 : (w.alloc (.cells #[.int .i64 9, .int .i64 d, .int .i64 n, .int .i64 m, .int .i64 imm, .int .i64 kind] 23)).cell? ⟨0, 89, none⟩ = some (.int .i64 0) := hs.alloc _ 89 (by decide)
  have a0 : ∀ x : Wb ((w.alloc (.cells #[.int .i64 9, .int .i64 d, .int .i64 n, .int .i64 m, .int .i64 imm, .int .i64 kind] 23)).alloc (.cells #[.int .u32 3405774848, .bool true, .bool true, .bool true, .int .i64 0, .int .i64 0, .int .i64 0, .int .i64 0, .int .i64 0] 40)), x.at.cell? ⟨w.heap.size, 0, none⟩ = some (.int .i64 9) := fun x => by rw [x.cell _ (by simp; omega)]; simp [World.cell?_alloc_new]
  have a1 : ∀ x : Wb ((w.alloc (.cells #[.int .i64 9, .int .i64 d, .int .i64 n, .int .i64 m, .int .i64 imm, .int .i64 kind] 23)).alloc (.cells #[.int .u32 3405774848, .bool true, .bool true, .bool true, .int .i64 0, .int .i64 0, .int .i64 0, .int .i64 0, .int .i64 0] 40)), x.at.cell? ⟨w.heap.size, 1, none⟩ = some (.int .i64 d) := fun x => by rw [x.cell _ (by simp; omega)]; simp [World.cell?_alloc_new]
  have a2 : ∀ x : Wb ((w.alloc (.cells #[.int .i64 9, .int .i64 d, .int .i64 n, .int .i64 m, .int .i64 imm, .int .i64 kind] 23)).alloc (.cells #[.int .u32 3405774848, .bool true, .bool true, .bool true, .int .i64 0, .int .i64 0, .int .i64 0, .int .i64 0, .int .i64 0] 40)), x.at.cell? ⟨w.heap.size, 2, none⟩ = some (.int .i64 n) := fun x => by rw [x.cell _ (by simp; omega)]; simp [World.cell?_alloc_new]
  have a3 : ∀ x : Wb ((w.alloc (.cells #[.int .i64 9, .int .i64 d, .int .i64 n, .int .i64 m, .int .i64 imm, .int .i64 kind] 23)).alloc (.cells #[.int .u32 3405774848, .bool true, .bool true, .bool true, .int .i64 0, .int .i64 0, .int .i64 0, .int .i64 0, .int .i64 0] 40)), x.at.cell? ⟨w.heap.size, 3, none⟩ = some (.int .i64 m) := fun x => by rw [x.cell _ (by simp; omega)]; simp [World.cell?_alloc_new]
  have a4 : ∀ x : Wb ((w.alloc (.cells #[.int .i64 9, .int .i64 d, .int .i64 n, .int .i64 m, .int .i64 imm, .int .i64 kind] 23)).alloc (.cells #[.int .u32 3405774848, .bool true, .bool true, .bool true, .int .i64 0, .int .i64 0, .int .i64 0, .int .i64 0, .int .i64 0] 40)), x.at.cell? ⟨w.heap.size, 4, none⟩ = some (.int .i64 imm) := fun x => by rw [x.cell _ (by simp; omega)]; simp [World.cell?_alloc_new]
  have a5 : ∀ x : Wb ((w.alloc (.cells #[.int .i64 9, .int .i64 d, .int .i64 n, .int .i64 m, .int .i64 imm, .int .i64 kind] 23)).alloc (.cells #[.int .u32 3405774848, .bool true, .bool true, .bool true, .int .i64 0, .int .i64 0, .int .i64 0, .int .i64 0, .int .i64 0] 40)), x.at.cell? ⟨w.heap.size, 5, none⟩ = some (.int .i64 kind) := fun x => by rw [x.cell _ (by simp; omega)]; simp [World.cell?_alloc_new]
  have b0 : ∀ x : Wb ((w.alloc (.cells #[.int .i64 9, .int .i64 d, .int .i64 n, .int .i64 m, .int .i64 imm, .int .i64 kind] 23)).alloc (.cells #[.int .u32 3405774848, .bool true, .bool true, .bool true, .int .i64 0, .int .i64 0, .int .i64 0, .int .i64 0, .int .i64 0] 40)), x.at.cell? ⟨w.heap.size + 1, 0, none⟩ = some (.int .u32 3405774848) := fun x => by rw [x.cell _ (by simp)]; simp [World.cell?_alloc_new]
  have b1 : ∀ x : Wb ((w.alloc (.cells #[.int .i64 9, .int .i64 d, .int .i64 n, .int .i64 m, .int .i64 imm, .int .i64 kind] 23)).alloc (.cells #[.int .u32 3405774848, .bool true, .bool true, .bool true, .int .i64 0, .int .i64 0, .int .i64 0, .int .i64 0, .int .i64 0] 40)), x.at.cell? ⟨w.heap.size + 1, 1, none⟩ = some (.bool true) := fun x => by rw [x.cell _ (by simp)]; simp [World.cell?_alloc_new]
  have b2 : ∀ x : Wb ((w.alloc (.cells #[.int .i64 9, .int .i64 d, .int .i64 n, .int .i64 m, .int .i64 imm, .int .i64 kind] 23)).alloc (.cells #[.int .u32 3405774848, .bool true, .bool true, .bool true, .int .i64 0, .int .i64 0, .int .i64 0, .int .i64 0, .int .i64 0] 40)), x.at.cell? ⟨w.heap.size + 1, 2, none⟩ = some (.bool true) := fun x => by rw [x.cell _ (by simp)]; simp [World.cell?_alloc_new]
  have b3 : ∀ x : Wb ((w.alloc (.cells #[.int .i64 9, .int .i64 d, .int .i64 n, .int .i64 m, .int .i64 imm, .int .i64 kind] 23)).alloc (.cells #[.int .u32 3405774848, .bool true, .bool true, .bool true, .int .i64 0, .int .i64 0, .int .i64 0, .int .i64 0, .int .i64 0] 40)), x.at.cell? ⟨w.heap.size + 1, 3, none⟩ = some (.bool true) := fun x => by rw [x.cell _ (by simp)]; simp [World.cell?_alloc_new]
  have b4 : ∀ x : Wb ((w.alloc (.cells #[.int .i64 9, .int .i64 d, .int .i64 n, .int .i64 m, .int .i64 imm, .int .i64 kind] 23)).alloc (.cells #[.int .u32 3405774848, .bool true, .bool true, .bool true, .int .i64 0, .int .i64 0, .int .i64 0, .int .i64 0, .int .i64 0] 40)), x.at.cell? ⟨w.heap.size + 1, 4, none⟩ = some (.int .i64 0) := fun x => by rw [x.cell _ (by simp)]; simp [World.cell?_alloc_new]
  have b5 : ∀ x : Wb ((w.alloc (.cells #[.int .i64 9, .int .i64 d, .int .i64 n, .int .i64 m, .int .i64 imm, .int .i64 kind] 23)).alloc (.cells #[.int .u32 3405774848, .bool true, .bool true, .bool true, .int .i64 0, .int .i64 0, .int .i64 0, .int .i64 0, .int .i64 0] 40)), x.at.cell? ⟨w.heap.size + 1, 5, none⟩ = some (.int .i64 0) := fun x => by rw [x.cell _ (by simp)]; simp [World.cell?_alloc_new]
  have b6 : ∀ x : Wb ((w.alloc (.cells #[.int .i64 9, .int .i64 d, .int .i64 n, .int .i64 m, .int .i64 imm, .int .i64 kind] 23)).alloc (.cells #[.int .u32 3405774848, .bool true, .bool true, .bool true, .int .i64 0, .int .i64 0, .int .i64 0, .int .i64 0, .int .i64 0] 40)), x.at.cell? ⟨w.heap.size + 1, 6, none⟩ = some (.int .i64 0) := fun x => by rw [x.cell _ (by simp)]; simp [World.cell?_alloc_new]
  have b7 : ∀ x : Wb ((w.alloc (.cells #[.int .i64 9, .int .i64 d, .int .i64 n, .int .i64 m, .int .i64 imm, .int .i64 kind] 23)).alloc (.cells #[.int .u32 3405774848, .bool true, .bool true, .bool true, .int .i64 0, .int .i64 0, .int .i64 0, .int .i64 0, .int .i64 0] 40)), x.at.cell? ⟨w.heap.size + 1, 7, none⟩ = some (.int .i64 0) := fun x => by rw [x.cell _ (by simp)]; simp [World.cell?_alloc_new]
  have b8 : ∀ x : Wb ((w.alloc (.cells #[.int .i64 9, .int .i64 d, .int .i64 n, .int .i64 m, .int .i64 imm, .int .i64 kind] 23)).alloc (.cells #[.int .u32 3405774848, .bool true, .bool true, .bool true, .int .i64 0, .int .i64 0, .int .i64 0, .int .i64 0, .int .i64 0] 40)), x.at.cell? ⟨w.heap.size + 1, 8, none⟩ = some (.int .i64 0) := fun x => by rw [x.cell _ (by simp)]; simp [World.cell?_alloc_new]
  have KB := Lib.hid (fun (x : Wb ((w.alloc (.cells #[.int .i64 9, .int .i64 d, .int .i64 n, .int .i64 m, .int .i64 imm, .int .i64 kind] 23)).alloc (.cells #[.int .u32 3405774848, .bool true, .bool true, .bool true, .int .i64 0, .int .i64 0, .int .i64 0, .int .i64 0, .int .i64 0] 40))) => ((((Below.refl _ _).alloc (Nat.le_refl _) _).alloc (by simp) _).trans (x.bel.mono (by simp; omega)) : Below w.heap.size w x.at))
  clear hb0 hb1 hs
  cases r1 : GrI.regB true d with
  | false =>
    go_enter Tryd.func12, Tryd.ntmps12
    go_wp2_with (first | (go_at_call 22; refine (register_any _ _ _).mono ?_; rintro e w1 ⟨rfl, rfl⟩) | (go_at_call 23; refine (NM.out _ _ _ _ _ _ _ _).mono ?_; rintro e w1 ⟨rfl, d1⟩; obtain ⟨x1, rfl⟩ := Wb.start d1; clear d1) | (go_at_call 24; refine (kind_c _ _ _ _ _ _ _ _ _ _ _ _ _ _ _ _ (by decide) (by decide) (by decide)).mono ?_; rintro e w1 ⟨rfl, d1⟩; obtain ⟨x2, rfl⟩ := Wb.next d1; clear d1))
    go_ret
    exact ⟨ret_code (by rw [E.out]; simp [r1, GrI.code]), (((Below.refl _ _).alloc (Nat.le_refl _) _).alloc (by simp) _)⟩
  | true =>
    cases r2 : GrI.regB true n with
    | false =>
      go_enter Tryd.func12, Tryd.ntmps12
      go_wp2_with (first | (go_at_call 22; refine (register_any _ _ _).mono ?_; rintro e w1 ⟨rfl, rfl⟩) | (go_at_call 23; refine (NM.out _ _ _ _ _ _ _ _).mono ?_; rintro e w1 ⟨rfl, d1⟩; obtain ⟨x1, rfl⟩ := Wb.start d1; clear d1) | (go_at_call 24; refine (kind_c _ _ _ _ _ _ _ _ _ _ _ _ _ _ _ _ (by decide) (by decide) (by decide)).mono ?_; rintro e w1 ⟨rfl, d1⟩; obtain ⟨x2, rfl⟩ := Wb.next d1; clear d1))
      go_ret
      exact ⟨ret_code (by rw [E.out]; simp [r1, r2, GrI.code]), (((Below.refl _ _).alloc (Nat.le_refl _) _).alloc (by simp) _)⟩
    | true =>
      cases r3 : GrI.regB true m with
      | false =>
        go_enter Tryd.func12, Tryd.ntmps12
        go_wp2_with (first | (go_at_call 22; refine (register_any _ _ _).mono ?_; rintro e w1 ⟨rfl, rfl⟩) | (go_at_call 23; refine (NM.out _ _ _ _ _ _ _ _).mono ?_; rintro e w1 ⟨rfl, d1⟩; obtain ⟨x1, rfl⟩ := Wb.start d1; clear d1) | (go_at_call 24; refine (kind_c _ _ _ _ _ _ _ _ _ _ _ _ _ _ _ _ (by decide) (by decide) (by decide)).mono ?_; rintro e w1 ⟨rfl, d1⟩; obtain ⟨x2, rfl⟩ := Wb.next d1; clear d1))
        go_ret
        exact ⟨ret_code (by rw [E.out]; simp [r1, r2, r3, GrI.code]), (((Below.refl _ _).alloc (Nat.le_refl _) _).alloc (by simp) _)⟩
      | true =>
        cases r4 : GrI.numB 0 0 imm with
        | false =>
          go_enter Tryd.func12, Tryd.ntmps12
          go_wp2_with (first | (go_at_call 22; refine (register_any _ _ _).mono ?_; rintro e w1 ⟨rfl, rfl⟩) | (go_at_call 23; refine (NM.out _ _ _ _ _ _ _ _).mono ?_; rintro e w1 ⟨rfl, d1⟩; obtain ⟨x1, rfl⟩ := Wb.start d1; clear d1) | (go_at_call 24; refine (kind_c _ _ _ _ _ _ _ _ _ _ _ _ _ _ _ _ (by decide) (by decide) (by decide)).mono ?_; rintro e w1 ⟨rfl, d1⟩; obtain ⟨x2, rfl⟩ := Wb.next d1; clear d1))
          go_ret
          exact ⟨ret_code (by rw [E.out]; simp [r1, r2, r3, r4, GrI.code]), KB.out x1⟩
        | true =>
          cases r5 : GrI.kindB 9 d kind 0 with
          | false =>
            go_enter Tryd.func12, Tryd.ntmps12
            go_wp2_with (first | (go_at_call 22; refine (register_any _ _ _).mono ?_; rintro e w1 ⟨rfl, rfl⟩) | (go_at_call 23; refine (NM.out _ _ _ _ _ _ _ _).mono ?_; rintro e w1 ⟨rfl, d1⟩; obtain ⟨x1, rfl⟩ := Wb.start d1; clear d1) | (go_at_call 24; refine (kind_c _ _ _ _ _ _ _ _ _ _ _ _ _ _ _ _ (by decide) (by decide) (by decide)).mono ?_; rintro e w1 ⟨rfl, d1⟩; obtain ⟨x2, rfl⟩ := Wb.next d1; clear d1))
            go_ret
            exact ⟨ret_code (by rw [E.out]; simp [r1, r2, r3, r4, r5, GrI.code]), KB.out x2⟩
          | true =>
            go_enter Tryd.func12, Tryd.ntmps12
            go_wp2_with (first | (go_at_call 22; refine (register_any _ _ _).mono ?_; rintro e w1 ⟨rfl, rfl⟩) | (go_at_call 23; refine (NM.out _ _ _ _ _ _ _ _).mono ?_; rintro e w1 ⟨rfl, d1⟩; obtain ⟨x1, rfl⟩ := Wb.start d1; clear d1) | (go_at_call 24; refine (kind_c _ _ _ _ _ _ _ _ _ _ _ _ _ _ _ _ (by decide) (by decide) (by decide)).mono ?_; rintro e w1 ⟨rfl, d1⟩; obtain ⟨x2, rfl⟩ := Wb.next d1; clear d1))
            go_ret
            exact ⟨ret_code (by rw [E.out]; simp [r1, r2, r3, r4, r5, GrI.code]), KB.out x2⟩

theorem xright_eq_10 (d n m imm kind : Int) : decide (GrI.right ⟨10, d, n, m, imm, kind⟩) = (GrI.regB true d && (GrI.regB true n && (GrI.regB true m && (GrI.numB 0 0 imm && GrI.kindB 10 d kind 0)))) := by
  rw [Bool.eq_iff_iff]
  simp [GrI.right, GrI.parts, GrI.nums, GrI.regB, GrI.numB, GrI.kindB]
  try omega

set_option maxRecDepth 100000 in
set_option maxHeartbeats 6400000 in
theorem xright_10 (d n m imm kind : Int) (w : World) (hs : ShAt w) (hb0 : -9223372036854775808 ≤ imm) (hb1 : imm ≤ 9223372036854775807) :
    Calls Tryd.prog 12 #[.agg #[.int .i64 10, .int .i64 d, .int .i64 n, .int .i64 m, .int .i64 imm, .int .i64 kind]] w fun e w' => e = .returned (.int .i64 (GrI.code (decide (GrI.right ⟨10, d, n, m, imm, kind⟩)))) ∧ Below w.heap.size w w' := by
  have E := Lib.hid (xright_eq_10 d n m imm kind)
  have NM := Lib.hid (fun wd d n m a k ka w => number_0_0 wd d n m a k ka imm w hb0 hb1)
  have e0 : (w.alloc (.cells #[.int .i64 10, .int .i64 d, .int .i64 n, .int .i64 m, .int .i64 imm, .int .i64 kind] 23)).cell? ⟨0, 90, none⟩ = some (.int .u32 2315255808) := hs.alloc _ 90 (by decide)
  have e1 : (w.alloc (.cells #[.int .i64 10, .int .i64 d, .int .i64 n, .int .i64 m, .int .i64 imm, .int .i64 kind] 23)).cell? ⟨0, 91, none⟩ = some (.bool true) := hs.alloc _ 91 (by decide)
  have e2 : (w.alloc (.cells #[.int .i64 10, .int .i64 d, .int .i64 n, .int .i64 m, .int .i64 imm, .int .i64 kind] 23)).cell? ⟨0, 92, none⟩ = some (.bool true) := hs.alloc _ 92 (by decide)
  have e3 : (w.alloc (.cells #[.int .i64 10, .int .i64 d, .int .i64 n, .int .i64 m, .int .i64 imm, .int .i64 kind] 23)).cell? ⟨0, 93, none⟩ = some (.bool true) := hs.alloc _ 93 (by decide)
  have e4 : (w.alloc (.cells #[.int .i64 10, .int .i64 d, .int .i64 n, .int .i64 m, .int .i64 imm, .int .i64 kind] 23)).cell? ⟨0, 94, none⟩ = some (.int .i64 0) := hs.alloc _ 94 (by decide)
  have e5 : (w.alloc (.cells #[.int .i64 10, .int .i64 d, .int .i64 n, .int .i64 m, .int .i64 imm, .int .i64 kind] 23)).cell? ⟨0, 95, none⟩ = some (.int .i64 0) := hs.alloc _ 95 (by decide)
  have e6 : (w.alloc (.cells #[.int .i64 10, .int .i64 d, .int .i64 n, .int .i64 m, .int .i64 imm, .int .i64 kind] 23)).cell? ⟨0, 96, none⟩ = some (.int .i64 0) := hs.alloc _ 96 (by decide)
  have e7 : (w.alloc (.cells #[.int .i64 10, .int .i64 d, .int .i64 n, .int .i64 m, .int .i64 imm, .int .i64 kind] 23)).cell? ⟨0, 97, none⟩ = some (.int .i64 0) := hs.alloc _ 97 (by decide)
  have e8 : (w.alloc (.cells #[.int .i64 10, .int .i64 d, .int .i64 n, .int .i64 m, .int .i64 imm, .int .i64 kind] 23)).cell? ⟨0, 98, none⟩ = some (.int .i64 0) := hs.alloc _ 98 (by decide)
  have a0 : ∀ x : Wb ((w.alloc (.cells #[.int .i64 10, .int .i64 d, .int .i64 n, .int .i64 m, .int .i64 imm, .int .i64 kind] 23)).alloc (.cells #[.int .u32 2315255808, .bool true, .bool true, .bool true, .int .i64 0, .int .i64 0, .int .i64 0, .int .i64 0, .int .i64 0] 40)), x.at.cell? ⟨w.heap.size, 0, none⟩ = some (.int .i64 10) := fun x => by rw [x.cell _ (by simp; omega)]; simp [World.cell?_alloc_new]
  have a1 : ∀ x : Wb ((w.alloc (.cells #[.int .i64 10, .int .i64 d, .int .i64 n, .int .i64 m, .int .i64 imm, .int .i64 kind] 23)).alloc (.cells #[.int .u32 2315255808, .bool true, .bool true, .bool true, .int .i64 0, .int .i64 0, .int .i64 0, .int .i64 0, .int .i64 0] 40)), x.at.cell? ⟨w.heap.size, 1, none⟩ = some (.int .i64 d) := fun x => by rw [x.cell _ (by simp; omega)]; simp [World.cell?_alloc_new]
  have a2 : ∀ x : Wb ((w.alloc (.cells #[.int .i64 10, .int .i64 d, .int .i64 n, .int .i64 m, .int .i64 imm, .int .i64 kind] 23)).alloc (.cells #[.int .u32 2315255808, .bool true, .bool true, .bool true, .int .i64 0, .int .i64 0, .int .i64 0, .int .i64 0, .int .i64 0] 40)), x.at.cell? ⟨w.heap.size, 2, none⟩ = some (.int .i64 n) := fun x => by rw [x.cell _ (by simp; omega)]; simp [World.cell?_alloc_new]
  have a3 : ∀ x : Wb ((w.alloc (.cells #[.int .i64 10, .int .i64 d, .int .i64 n, .int .i64 m, .int .i64 imm, .int .i64 kind] 23)).alloc (.cells #[.int .u32 2315255808, .bool true, .bool true, .bool true, .int .i64 0, .int .i64 0, .int .i64 0, .int .i64 0, .int .i64 0] 40)), x.at.cell? ⟨w.heap.size, 3, none⟩ = some (.int .i64 m) := fun x => by rw [x.cell _ (by simp; omega)]; simp [World.cell?_alloc_new]
  have a4 : ∀ x : Wb ((w.alloc (.cells #[.int .i64 10, .int .i64 d, .int .i64 n, .int .i64 m, .int .i64 imm, .int .i64 kind] 23)).alloc (.cells #[.int .u32 2315255808, .bool true, .bool true, .bool true, .int .i64 0, .int .i64 0, .int .i64 0, .int .i64 0, .int .i64 0] 40)), x.at.cell? ⟨w.heap.size, 4, none⟩ = some (.int .i64 imm) := fun x => by rw [x.cell _ (by simp; omega)]; simp [World.cell?_alloc_new]
  have a5 : ∀ x : Wb ((w.alloc (.cells #[.int .i64 10, .int .i64 d, .int .i64 n, .int .i64 m, .int .i64 imm, .int .i64 kind] 23)).alloc (.cells #[.int .u32 2315255808, .bool true, .bool true, .bool true, .int .i64 0, .int .i64 0, .int .i64 0, .int .i64 0, .int .i64 0] 40)), x.at.cell? ⟨w.heap.size, 5, none⟩ = some (.int .i64 kind) := fun x => by rw [x.cell _ (by simp; omega)]; simp [World.cell?_alloc_new]
  have b0 : ∀ x : Wb ((w.alloc (.cells #[.int .i64 10, .int .i64 d, .int .i64 n, .int .i64 m, .int .i64 imm, .int .i64 kind] 23)).alloc (.cells #[.int .u32 2315255808, .bool true, .bool true, .bool true, .int .i64 0, .int .i64 0, .int .i64 0, .int .i64 0, .int .i64 0] 40)), x.at.cell? ⟨w.heap.size + 1, 0, none⟩ = some (.int .u32 2315255808) := fun x => by rw [x.cell _ (by simp)]; simp [World.cell?_alloc_new]
  have b1 : ∀ x : Wb ((w.alloc (.cells #[.int .i64 10, .int .i64 d, .int .i64 n, .int .i64 m, .int .i64 imm, .int .i64 kind] 23)).alloc (.cells #[.int .u32 2315255808, .bool true, .bool true, .bool true, .int .i64 0, .int .i64 0, .int .i64 0, .int .i64 0, .int .i64 0] 40)), x.at.cell? ⟨w.heap.size + 1, 1, none⟩ = some (.bool true) := fun x => by rw [x.cell _ (by simp)]; simp [World.cell?_alloc_new]
  have b2 : ∀ x : Wb ((w.alloc (.cells #[.int .i64 10, .int .i64 d, .int .i64 n, .int .i64 m, .int .i64 imm, .int .i64 kind] 23)).alloc (.cells #[.int .u32 2315255808, .bool true, .bool true, .bool true, .int .i64 0, .int .i64 0, .int .i64 0, .int .i64 0, .int .i64 0] 40)), x.at.cell? ⟨w.heap.size + 1, 2, none⟩ = some (.bool true) := fun x => by rw [x.cell _ (by simp)]; simp [World.cell?_alloc_new]
  have b3 : ∀ x : Wb ((w.alloc (.cells #[.int .i64 10, .int .i64 d, .int .i64 n, .int .i64 m, .int .i64 imm, .int .i64 kind] 23)).alloc (.cells #[.int .u32 2315255808, .bool true, .bool true, .bool true, .int .i64 0, .int .i64 0, .int .i64 0, .int .i64 0, .int .i64 0] 40)), x.at.cell? ⟨w.heap.size + 1, 3, none⟩ = some (.bool true) := fun x => by rw [x.cell _ (by simp)]; simp [World.cell?_alloc_new]
  have b4 : ∀ x : Wb ((w.alloc (.cells #[.int .i64 10, .int .i64 d, .int .i64 n, .int .i64 m, .int .i64 imm, .int .i64 kind] 23)).alloc (.cells #[.int .u32 2315255808, .bool true, .bool true, .bool true, .int .i64 0, .int .i64 0, .int .i64 0, .int .i64 0, .int .i64 0] 40)), x.at.cell? ⟨w.heap.size + 1, 4, none⟩ = some (.int .i64 0) := fun x => by rw [x.cell _ (by simp)]; simp [World.cell?_alloc_new]
  have b5 : ∀ x : Wb ((w.alloc (.cells #[.int .i64 10, .int .i64 d, .int .i64 n, .int .i64 m, .int .i64 imm, .int .i64 kind] 23)).alloc (.cells #[.int .u32 2315255808, .bool true, .bool true, .bool true, .int .i64 0, .int .i64 0, .int .i64 0, .int .i64 0, .int .i64 0] 40)), x.at.cell? ⟨w.heap.size + 1, 5, none⟩ = some (.int .i64 0) := fun x => by rw [x.cell _ (by simp)]; simp [World.cell?_alloc_new]
  have b6 : ∀ x : Wb ((w.alloc (.cells #[.int .i64 10, .int .i64 d, .int .i64 n, .int .i64 m, .int .i64 imm, .int .i64 kind] 23)).alloc (.cells #[.int .u32 2315255808, .bool true, .bool true, .bool true, .int .i64 0, .int .i64 0, .int .i64 0, .int .i64 0, .int .i64 0] 40)), x.at.cell? ⟨w.heap.size + 1, 6, none⟩ = some (.int .i64 0) := fun x => by rw [x.cell _ (by simp)]; simp [World.cell?_alloc_new]
  have b7 : ∀ x : Wb ((w.alloc (.cells #[.int .i64 10, .int .i64 d, .int .i64 n, .int .i64 m, .int .i64 imm, .int .i64 kind] 23)).alloc (.cells #[.int .u32 2315255808, .bool true, .bool true, .bool true, .int .i64 0, .int .i64 0, .int .i64 0, .int .i64 0, .int .i64 0] 40)), x.at.cell? ⟨w.heap.size + 1, 7, none⟩ = some (.int .i64 0) := fun x => by rw [x.cell _ (by simp)]; simp [World.cell?_alloc_new]
  have b8 : ∀ x : Wb ((w.alloc (.cells #[.int .i64 10, .int .i64 d, .int .i64 n, .int .i64 m, .int .i64 imm, .int .i64 kind] 23)).alloc (.cells #[.int .u32 2315255808, .bool true, .bool true, .bool true, .int .i64 0, .int .i64 0, .int .i64 0, .int .i64 0, .int .i64 0] 40)), x.at.cell? ⟨w.heap.size + 1, 8, none⟩ = some (.int .i64 0) := fun x => by rw [x.cell _ (by simp)]; simp [World.cell?_alloc_new]
  have KB := Lib.hid (fun (x : Wb ((w.alloc (.cells #[.int .i64 10, .int .i64 d, .int .i64 n, .int .i64 m, .int .i64 imm, .int .i64 kind] 23)).alloc (.cells #[.int .u32 2315255808, .bool true, .bool true, .bool true, .int .i64 0, .int .i64 0, .int .i64 0, .int .i64 0, .int .i64 0] 40))) => ((((Below.refl _ _).alloc (Nat.le_refl _) _).alloc (by simp) _).trans (x.bel.mono (by simp; omega)) : Below w.heap.size w x.at))
  clear hb0 hb1 hs
  cases r1 : GrI.regB true d with
  | false =>
    go_enter Tryd.func12, Tryd.ntmps12
    go_wp2_with (first | (go_at_call 22; refine (register_any _ _ _).mono ?_; rintro e w1 ⟨rfl, rfl⟩) | (go_at_call 23; refine (NM.out _ _ _ _ _ _ _ _).mono ?_; rintro e w1 ⟨rfl, d1⟩; obtain ⟨x1, rfl⟩ := Wb.start d1; clear d1) | (go_at_call 24; refine (kind_c _ _ _ _ _ _ _ _ _ _ _ _ _ _ _ _ (by decide) (by decide) (by decide)).mono ?_; rintro e w1 ⟨rfl, d1⟩; obtain ⟨x2, rfl⟩ := Wb.next d1; clear d1))
    go_ret
    exact ⟨ret_code (by rw [E.out]; simp [r1, GrI.code]), (((Below.refl _ _).alloc (Nat.le_refl _) _).alloc (by simp) _)⟩
  | true =>
    cases r2 : GrI.regB true n with
    | false =>
      go_enter Tryd.func12, Tryd.ntmps12
      go_wp2_with (first | (go_at_call 22; refine (register_any _ _ _).mono ?_; rintro e w1 ⟨rfl, rfl⟩) | (go_at_call 23; refine (NM.out _ _ _ _ _ _ _ _).mono ?_; rintro e w1 ⟨rfl, d1⟩; obtain ⟨x1, rfl⟩ := Wb.start d1; clear d1) | (go_at_call 24; refine (kind_c _ _ _ _ _ _ _ _ _ _ _ _ _ _ _ _ (by decide) (by decide) (by decide)).mono ?_; rintro e w1 ⟨rfl, d1⟩; obtain ⟨x2, rfl⟩ := Wb.next d1; clear d1))
      go_ret
      exact ⟨ret_code (by rw [E.out]; simp [r1, r2, GrI.code]), (((Below.refl _ _).alloc (Nat.le_refl _) _).alloc (by simp) _)⟩
    | true =>
      cases r3 : GrI.regB true m with
      | false =>
        go_enter Tryd.func12, Tryd.ntmps12
        go_wp2_with (first | (go_at_call 22; refine (register_any _ _ _).mono ?_; rintro e w1 ⟨rfl, rfl⟩) | (go_at_call 23; refine (NM.out _ _ _ _ _ _ _ _).mono ?_; rintro e w1 ⟨rfl, d1⟩; obtain ⟨x1, rfl⟩ := Wb.start d1; clear d1) | (go_at_call 24; refine (kind_c _ _ _ _ _ _ _ _ _ _ _ _ _ _ _ _ (by decide) (by decide) (by decide)).mono ?_; rintro e w1 ⟨rfl, d1⟩; obtain ⟨x2, rfl⟩ := Wb.next d1; clear d1))
        go_ret
        exact ⟨ret_code (by rw [E.out]; simp [r1, r2, r3, GrI.code]), (((Below.refl _ _).alloc (Nat.le_refl _) _).alloc (by simp) _)⟩
      | true =>
        cases r4 : GrI.numB 0 0 imm with
        | false =>
          go_enter Tryd.func12, Tryd.ntmps12
          go_wp2_with (first | (go_at_call 22; refine (register_any _ _ _).mono ?_; rintro e w1 ⟨rfl, rfl⟩) | (go_at_call 23; refine (NM.out _ _ _ _ _ _ _ _).mono ?_; rintro e w1 ⟨rfl, d1⟩; obtain ⟨x1, rfl⟩ := Wb.start d1; clear d1) | (go_at_call 24; refine (kind_c _ _ _ _ _ _ _ _ _ _ _ _ _ _ _ _ (by decide) (by decide) (by decide)).mono ?_; rintro e w1 ⟨rfl, d1⟩; obtain ⟨x2, rfl⟩ := Wb.next d1; clear d1))
          go_ret
          exact ⟨ret_code (by rw [E.out]; simp [r1, r2, r3, r4, GrI.code]), KB.out x1⟩
        | true =>
          cases r5 : GrI.kindB 10 d kind 0 with
          | false =>
            go_enter Tryd.func12, Tryd.ntmps12
            go_wp2_with (first | (go_at_call 22; refine (register_any _ _ _).mono ?_; rintro e w1 ⟨rfl, rfl⟩) | (go_at_call 23; refine (NM.out _ _ _ _ _ _ _ _).mono ?_; rintro e w1 ⟨rfl, d1⟩; obtain ⟨x1, rfl⟩ := Wb.start d1; clear d1) | (go_at_call 24; refine (kind_c _ _ _ _ _ _ _ _ _ _ _ _ _ _ _ _ (by decide) (by decide) (by decide)).mono ?_; rintro e w1 ⟨rfl, d1⟩; obtain ⟨x2, rfl⟩ := Wb.next d1; clear d1))
            go_ret
            exact ⟨ret_code (by rw [E.out]; simp [r1, r2, r3, r4, r5, GrI.code]), KB.out x2⟩
          | true =>
            go_enter Tryd.func12, Tryd.ntmps12
            go_wp2_with (first | (go_at_call 22; refine (register_any _ _ _).mono ?_; rintro e w1 ⟨rfl, rfl⟩) | (go_at_call 23; refine (NM.out _ _ _ _ _ _ _ _).mono ?_; rintro e w1 ⟨rfl, d1⟩; obtain ⟨x1, rfl⟩ := Wb.start d1; clear d1) | (go_at_call 24; refine (kind_c _ _ _ _ _ _ _ _ _ _ _ _ _ _ _ _ (by decide) (by decide) (by decide)).mono ?_; rintro e w1 ⟨rfl, d1⟩; obtain ⟨x2, rfl⟩ := Wb.next d1; clear d1))
            go_ret
            exact ⟨ret_code (by rw [E.out]; simp [r1, r2, r3, r4, r5, GrI.code]), KB.out x2⟩

theorem xright_eq_11 (d n m imm kind : Int) : decide (GrI.right ⟨11, d, n, m, imm, kind⟩) = (GrI.regB true d && (GrI.regB true n && (GrI.regB true m && (GrI.numB 0 0 imm && GrI.kindB 11 d kind 0)))) := by
  rw [Bool.eq_iff_iff]
  simp [GrI.right, GrI.parts, GrI.nums, GrI.regB, GrI.numB, GrI.kindB]
  try omega

set_option maxRecDepth 100000 in
set_option maxHeartbeats 6400000 in
theorem xright_11 (d n m imm kind : Int) (w : World) (hs : ShAt w) (hb0 : -9223372036854775808 ≤ imm) (hb1 : imm ≤ 9223372036854775807) :
    Calls Tryd.prog 12 #[.agg #[.int .i64 11, .int .i64 d, .int .i64 n, .int .i64 m, .int .i64 imm, .int .i64 kind]] w fun e w' => e = .returned (.int .i64 (GrI.code (decide (GrI.right ⟨11, d, n, m, imm, kind⟩)))) ∧ Below w.heap.size w w' := by
  have E := Lib.hid (xright_eq_11 d n m imm kind)
  have NM := Lib.hid (fun wd d n m a k ka w => number_0_0 wd d n m a k ka imm w hb0 hb1)
  have e0 : (w.alloc (.cells #[.int .i64 11, .int .i64 d, .int .i64 n, .int .i64 m, .int .i64 imm, .int .i64 kind] 23)).cell? ⟨0, 99, none⟩ = some (.int .u32 2852126720) := hs.alloc _ 99 (by decide)
  have e1 : (w.alloc (.cells #[.int .i64 11, .int .i64 d, .int .i64 n, .int .i64 m, .int .i64 imm, .int .i64 kind] 23)).cell? ⟨0, 100, none⟩ = some (.bool true) := hs.alloc _ 100 (by decide)
  have e2 : (w.alloc (.cells #[.int .i64 11, .int .i64 d, .int .i64 n, .int .i64 m, .int .i64 imm, .int .i64 kind] 23)).cell? ⟨0, 101, none⟩ = some (.bool true) := hs.alloc _ 101 (by decide)
  have e3 : (w.alloc (.cells #[.int .i64 11, .int .i64 d, .int .i64 n, .int .i64 m, .int .i64 imm, .int .i64 kind] 23)).cell? ⟨0, 102, none⟩ = some (.bool true) := hs.alloc _ 102 (by decide)
  have e4 : (w.alloc (.cells #[.int .i64 11, .int .i64 d, .int .i64 n, .int .i64 m, .int .i64 imm, .int .i64 kind] 23)).cell? ⟨0, 103, none⟩ = some (.int .i64 0) := hs.alloc _ 103 (by decide)
  have e5 : (w.alloc (.cells #[.int .i64 11, .int .i64 d, .int .i64 n, .int .i64 m, .int .i64 imm, .int .i64 kind] 23)).cell? ⟨0, 104, none⟩ = some (.int .i64 0) := hs.alloc _ 104 (by decide)
  have e6 : (w.alloc (.cells #[.int .i64 11, .int .i64 d, .int .i64 n, .int .i64 m, .int .i64 imm, .int .i64 kind] 23)).cell? ⟨0, 105, none⟩ = some (.int .i64 0) := hs.alloc _ 105 (by decide)
  have e7 : (w.alloc (.cells #[.int .i64 11, .int .i64 d, .int .i64 n, .int .i64 m, .int .i64 imm, .int .i64 kind] 23)).cell? ⟨0, 106, none⟩ = some (.int .i64 0) := hs.alloc _ 106 (by decide)
  have e8 : (w.alloc (.cells #[.int .i64 11, .int .i64 d, .int .i64 n, .int .i64 m, .int .i64 imm, .int .i64 kind] 23)).cell? ⟨0, 107, none⟩ = some (.int .i64 0) := hs.alloc _ 107 (by decide)
  have a0 : ∀ x : Wb ((w.alloc (.cells #[.int .i64 11, .int .i64 d, .int .i64 n, .int .i64 m, .int .i64 imm, .int .i64 kind] 23)).alloc (.cells #[.int .u32 2852126720, .bool true, .bool true, .bool true, .int .i64 0, .int .i64 0, .int .i64 0, .int .i64 0, .int .i64 0] 40)), x.at.cell? ⟨w.heap.size, 0, none⟩ = some (.int .i64 11) := fun x => by rw [x.cell _ (by simp; omega)]; simp [World.cell?_alloc_new]
  have a1 : ∀ x : Wb ((w.alloc (.cells #[.int .i64 11, .int .i64 d, .int .i64 n, .int .i64 m, .int .i64 imm, .int .i64 kind] 23)).alloc (.cells #[.int .u32 2852126720, .bool true, .bool true, .bool true, .int .i64 0, .int .i64 0, .int .i64 0, .int .i64 0, .int .i64 0] 40)), x.at.cell? ⟨w.heap.size, 1, none⟩ = some (.int .i64 d) := fun x => by rw [x.cell _ (by simp; omega)]; simp [World.cell?_alloc_new]
  have a2 : ∀ x : Wb ((w.alloc (.cells #[.int .i64 11, .int .i64 d, .int .i64 n, .int .i64 m, .int .i64 imm, .int .i64 kind] 23)).alloc (.cells #[.int .u32 2852126720, .bool true, .bool true, .bool true, .int .i64 0, .int .i64 0, .int .i64 0, .int .i64 0, .int .i64 0] 40)), x.at.cell? ⟨w.heap.size, 2, none⟩ = some (.int .i64 n) := fun x => by rw [x.cell _ (by simp; omega)]; simp [World.cell?_alloc_new]
  have a3 : ∀ x : Wb ((w.alloc (.cells #[.int .i64 11, .int .i64 d, .int .i64 n, .int .i64 m, .int .i64 imm, .int .i64 kind] 23)).alloc (.cells #[.int .u32 2852126720, .bool true, .bool true, .bool true, .int .i64 0, .int .i64 0, .int .i64 0, .int .i64 0, .int .i64 0] 40)), x.at.cell? ⟨w.heap.size, 3, none⟩ = some (.int .i64 m) := fun x => by rw [x.cell _ (by simp; omega)]; simp [World.cell?_alloc_new]
  have a4 : ∀ x : Wb ((w.alloc (.cells #[.int .i64 11, .int .i64 d, .int .i64 n, .int .i64 m, .int .i64 imm, .int .i64 kind] 23)).alloc (.cells #[.int .u32 2852126720, .bool true, .bool true, .bool true, .int .i64 0, .int .i64 0, .int .i64 0, .int .i64 0, .int .i64 0] 40)), x.at.cell? ⟨w.heap.size, 4, none⟩ = some (.int .i64 imm) := fun x => by rw [x.cell _ (by simp; omega)]; simp [World.cell?_alloc_new]
  have a5 : ∀ x : Wb ((w.alloc (.cells #[.int .i64 11, .int .i64 d, .int .i64 n, .int .i64 m, .int .i64 imm, .int .i64 kind] 23)).alloc (.cells #[.int .u32 2852126720, .bool true, .bool true, .bool true, .int .i64 0, .int .i64 0, .int .i64 0, .int .i64 0, .int .i64 0] 40)), x.at.cell? ⟨w.heap.size, 5, none⟩ = some (.int .i64 kind) := fun x => by rw [x.cell _ (by simp; omega)]; simp [World.cell?_alloc_new]
  have b0 : ∀ x : Wb ((w.alloc (.cells #[.int .i64 11, .int .i64 d, .int .i64 n, .int .i64 m, .int .i64 imm, .int .i64 kind] 23)).alloc (.cells #[.int .u32 2852126720, .bool true, .bool true, .bool true, .int .i64 0, .int .i64 0, .int .i64 0, .int .i64 0, .int .i64 0] 40)), x.at.cell? ⟨w.heap.size + 1, 0, none⟩ = some (.int .u32 2852126720) := fun x => by rw [x.cell _ (by simp)]; simp [World.cell?_alloc_new]
  have b1 : ∀ x : Wb ((w.alloc (.cells #[.int .i64 11, .int .i64 d, .int .i64 n, .int .i64 m, .int .i64 imm, .int .i64 kind] 23)).alloc (.cells #[.int .u32 2852126720, .bool true, .bool true, .bool true, .int .i64 0, .int .i64 0, .int .i64 0, .int .i64 0, .int .i64 0] 40)), x.at.cell? ⟨w.heap.size + 1, 1, none⟩ = some (.bool true) := fun x => by rw [x.cell _ (by simp)]; simp [World.cell?_alloc_new]
  have b2 : ∀ x : Wb ((w.alloc (.cells #[.int .i64 11, .int .i64 d, .int .i64 n, .int .i64 m, .int .i64 imm, .int .i64 kind] 23)).alloc (.cells #[.int .u32 2852126720, .bool true, .bool true, .bool true, .int .i64 0, .int .i64 0, .int .i64 0, .int .i64 0, .int .i64 0] 40)), x.at.cell? ⟨w.heap.size + 1, 2, none⟩ = some (.bool true) := fun x => by rw [x.cell _ (by simp)]; simp [World.cell?_alloc_new]
  have b3 : ∀ x : Wb ((w.alloc (.cells #[.int .i64 11, .int .i64 d, .int .i64 n, .int .i64 m, .int .i64 imm, .int .i64 kind] 23)).alloc (.cells #[.int .u32 2852126720, .bool true, .bool true, .bool true, .int .i64 0, .int .i64 0, .int .i64 0, .int .i64 0, .int .i64 0] 40)), x.at.cell? ⟨w.heap.size + 1, 3, none⟩ = some (.bool true) := fun x => by rw [x.cell _ (by simp)]; simp [World.cell?_alloc_new]
  have b4 : ∀ x : Wb ((w.alloc (.cells #[.int .i64 11, .int .i64 d, .int .i64 n, .int .i64 m, .int .i64 imm, .int .i64 kind] 23)).alloc (.cells #[.int .u32 2852126720, .bool true, .bool true, .bool true, .int .i64 0, .int .i64 0, .int .i64 0, .int .i64 0, .int .i64 0] 40)), x.at.cell? ⟨w.heap.size + 1, 4, none⟩ = some (.int .i64 0) := fun x => by rw [x.cell _ (by simp)]; simp [World.cell?_alloc_new]
  have b5 : ∀ x : Wb ((w.alloc (.cells #[.int .i64 11, .int .i64 d, .int .i64 n, .int .i64 m, .int .i64 imm, .int .i64 kind] 23)).alloc (.cells #[.int .u32 2852126720, .bool true, .bool true, .bool true, .int .i64 0, .int .i64 0, .int .i64 0, .int .i64 0, .int .i64 0] 40)), x.at.cell? ⟨w.heap.size + 1, 5, none⟩ = some (.int .i64 0) := fun x => by rw [x.cell _ (by simp)]; simp [World.cell?_alloc_new]
  have b6 : ∀ x : Wb ((w.alloc (.cells #[.int .i64 11, .int .i64 d, .int .i64 n, .int .i64 m, .int .i64 imm, .int .i64 kind] 23)).alloc (.cells #[.int .u32 2852126720, .bool true, .bool true, .bool true, .int .i64 0, .int .i64 0, .int .i64 0, .int .i64 0, .int .i64 0] 40)), x.at.cell? ⟨w.heap.size + 1, 6, none⟩ = some (.int .i64 0) := fun x => by rw [x.cell _ (by simp)]; simp [World.cell?_alloc_new]
  have b7 : ∀ x : Wb ((w.alloc (.cells #[.int .i64 11, .int .i64 d, .int .i64 n, .int .i64 m, .int .i64 imm, .int .i64 kind] 23)).alloc (.cells #[.int .u32 2852126720, .bool true, .bool true, .bool true, .int .i64 0, .int .i64 0, .int .i64 0, .int .i64 0, .int .i64 0] 40)), x.at.cell? ⟨w.heap.size + 1, 7, none⟩ = some (.int .i64 0) := fun x => by rw [x.cell _ (by simp)]; simp [World.cell?_alloc_new]
  have b8 : ∀ x : Wb ((w.alloc (.cells #[.int .i64 11, .int .i64 d, .int .i64 n, .int .i64 m, .int .i64 imm, .int .i64 kind] 23)).alloc (.cells #[.int .u32 2852126720, .bool true, .bool true, .bool true, .int .i64 0, .int .i64 0, .int .i64 0, .int .i64 0, .int .i64 0] 40)), x.at.cell? ⟨w.heap.size + 1, 8, none⟩ = some (.int .i64 0) := fun x => by rw [x.cell _ (by simp)]; simp [World.cell?_alloc_new]
  have KB := Lib.hid (fun (x : Wb ((w.alloc (.cells #[.int .i64 11, .int .i64 d, .int .i64 n, .int .i64 m, .int .i64 imm, .int .i64 kind] 23)).alloc (.cells #[.int .u32 2852126720, .bool true, .bool true, .bool true, .int .i64 0, .int .i64 0, .int .i64 0, .int .i64 0, .int .i64 0] 40))) => ((((Below.refl _ _).alloc (Nat.le_refl _) _).alloc (by simp) _).trans (x.bel.mono (by simp; omega)) : Below w.heap.size w x.at))
  clear hb0 hb1 hs
  cases r1 : GrI.regB true d with
  | false =>
    go_enter Tryd.func12, Tryd.ntmps12
    go_wp2_with (first | (go_at_call 22; refine (register_any _ _ _).mono ?_; rintro e w1 ⟨rfl, rfl⟩) | (go_at_call 23; refine (NM.out _ _ _ _ _ _ _ _).mono ?_; rintro e w1 ⟨rfl, d1⟩; obtain ⟨x1, rfl⟩ := Wb.start d1; clear d1) | (go_at_call 24; refine (kind_c _ _ _ _ _ _ _ _ _ _ _ _ _ _ _ _ (by decide) (by decide) (by decide)).mono ?_; rintro e w1 ⟨rfl, d1⟩; obtain ⟨x2, rfl⟩ := Wb.next d1; clear d1))
    go_ret
    exact ⟨ret_code (by rw [E.out]; simp [r1, GrI.code]), (((Below.refl _ _).alloc (Nat.le_refl _) _).alloc (by simp) _)⟩
  | true =>
    cases r2 : GrI.regB true n with
    | false =>
      go_enter Tryd.func12, Tryd.ntmps12
      go_wp2_with (first | (go_at_call 22; refine (register_any _ _ _).mono ?_; rintro e w1 ⟨rfl, rfl⟩) | (go_at_call 23; refine (NM.out _ _ _ _ _ _ _ _).mono ?_; rintro e w1 ⟨rfl, d1⟩; obtain ⟨x1, rfl⟩ := Wb.start d1; clear d1) | (go_at_call 24; refine (kind_c _ _ _ _ _ _ _ _ _ _ _ _ _ _ _ _ (by decide) (by decide) (by decide)).mono ?_; rintro e w1 ⟨rfl, d1⟩; obtain ⟨x2, rfl⟩ := Wb.next d1; clear d1))
      go_ret
      exact ⟨ret_code (by rw [E.out]; simp [r1, r2, GrI.code]), (((Below.refl _ _).alloc (Nat.le_refl _) _).alloc (by simp) _)⟩
    | true =>
      cases r3 : GrI.regB true m with
      | false =>
        go_enter Tryd.func12, Tryd.ntmps12
        go_wp2_with (first | (go_at_call 22; refine (register_any _ _ _).mono ?_; rintro e w1 ⟨rfl, rfl⟩) | (go_at_call 23; refine (NM.out _ _ _ _ _ _ _ _).mono ?_; rintro e w1 ⟨rfl, d1⟩; obtain ⟨x1, rfl⟩ := Wb.start d1; clear d1) | (go_at_call 24; refine (kind_c _ _ _ _ _ _ _ _ _ _ _ _ _ _ _ _ (by decide) (by decide) (by decide)).mono ?_; rintro e w1 ⟨rfl, d1⟩; obtain ⟨x2, rfl⟩ := Wb.next d1; clear d1))
        go_ret
        exact ⟨ret_code (by rw [E.out]; simp [r1, r2, r3, GrI.code]), (((Below.refl _ _).alloc (Nat.le_refl _) _).alloc (by simp) _)⟩
      | true =>
        cases r4 : GrI.numB 0 0 imm with
        | false =>
          go_enter Tryd.func12, Tryd.ntmps12
          go_wp2_with (first | (go_at_call 22; refine (register_any _ _ _).mono ?_; rintro e w1 ⟨rfl, rfl⟩) | (go_at_call 23; refine (NM.out _ _ _ _ _ _ _ _).mono ?_; rintro e w1 ⟨rfl, d1⟩; obtain ⟨x1, rfl⟩ := Wb.start d1; clear d1) | (go_at_call 24; refine (kind_c _ _ _ _ _ _ _ _ _ _ _ _ _ _ _ _ (by decide) (by decide) (by decide)).mono ?_; rintro e w1 ⟨rfl, d1⟩; obtain ⟨x2, rfl⟩ := Wb.next d1; clear d1))
          go_ret
          exact ⟨ret_code (by rw [E.out]; simp [r1, r2, r3, r4, GrI.code]), KB.out x1⟩
        | true =>
          cases r5 : GrI.kindB 11 d kind 0 with
          | false =>
            go_enter Tryd.func12, Tryd.ntmps12
            go_wp2_with (first | (go_at_call 22; refine (register_any _ _ _).mono ?_; rintro e w1 ⟨rfl, rfl⟩) | (go_at_call 23; refine (NM.out _ _ _ _ _ _ _ _).mono ?_; rintro e w1 ⟨rfl, d1⟩; obtain ⟨x1, rfl⟩ := Wb.start d1; clear d1) | (go_at_call 24; refine (kind_c _ _ _ _ _ _ _ _ _ _ _ _ _ _ _ _ (by decide) (by decide) (by decide)).mono ?_; rintro e w1 ⟨rfl, d1⟩; obtain ⟨x2, rfl⟩ := Wb.next d1; clear d1))
            go_ret
            exact ⟨ret_code (by rw [E.out]; simp [r1, r2, r3, r4, r5, GrI.code]), KB.out x2⟩
          | true =>
            go_enter Tryd.func12, Tryd.ntmps12
            go_wp2_with (first | (go_at_call 22; refine (register_any _ _ _).mono ?_; rintro e w1 ⟨rfl, rfl⟩) | (go_at_call 23; refine (NM.out _ _ _ _ _ _ _ _).mono ?_; rintro e w1 ⟨rfl, d1⟩; obtain ⟨x1, rfl⟩ := Wb.start d1; clear d1) | (go_at_call 24; refine (kind_c _ _ _ _ _ _ _ _ _ _ _ _ _ _ _ _ (by decide) (by decide) (by decide)).mono ?_; rintro e w1 ⟨rfl, d1⟩; obtain ⟨x2, rfl⟩ := Wb.next d1; clear d1))
            go_ret
            exact ⟨ret_code (by rw [E.out]; simp [r1, r2, r3, r4, r5, GrI.code]), KB.out x2⟩

theorem xright_eq_12 (d n m imm kind : Int) : decide (GrI.right ⟨12, d, n, m, imm, kind⟩) = (GrI.regB true d && (GrI.regB true n && (GrI.regB true m && (GrI.numB 0 0 imm && GrI.kindB 12 d kind 0)))) := by
  rw [Bool.eq_iff_iff]
  simp [GrI.right, GrI.parts, GrI.nums, GrI.regB, GrI.numB, GrI.kindB]
  try omega

set_option maxRecDepth 100000 in
set_option maxHeartbeats 6400000 in
theorem xright_12 (d n m imm kind : Int) (w : World) (hs : ShAt w) (hb0 : -9223372036854775808 ≤ imm) (hb1 : imm ≤ 9223372036854775807) :
    Calls Tryd.prog 12 #[.agg #[.int .i64 12, .int .i64 d, .int .i64 n, .int .i64 m, .int .i64 imm, .int .i64 kind]] w fun e w' => e = .returned (.int .i64 (GrI.code (decide (GrI.right ⟨12, d, n, m, imm, kind⟩)))) ∧ Below w.heap.size w w' := by
  have E := Lib.hid (xright_eq_12 d n m imm kind)
  have NM := Lib.hid (fun wd d n m a k ka w => number_0_0 wd d n m a k ka imm w hb0 hb1)
  have e0 : (w.alloc (.cells #[.int .i64 12, .int .i64 d, .int .i64 n, .int .i64 m, .int .i64 imm, .int .i64 kind] 23)).cell? ⟨0, 108, none⟩ = some (.int .u32 3388997632) := hs.alloc _ 108 (by decide)
  have e1 : (w.alloc (.cells #[.int .i64 12, .int .i64 d, .int .i64 n, .int .i64 m, .int .i64 imm, .int .i64 kind] 23)).cell? ⟨0, 109, none⟩ = some (.bool true) := hs.alloc _ 109 (by decide)
  have e2 : (w.alloc (.cells #[.int .i64 12, .int .i64 d, .int .i64 n, .int .i64 m, .int .i64 imm, .int .i64 kind] 23)).cell? ⟨0, 110, none⟩ = some (.bool true) := hs.alloc _ 110 (by decide)
  have e3 : (w.alloc (.cells #[.int .i64 12, .int .i64 d, .int .i64 n, .int .i64 m, .int .i64 imm, .int .i64 kind] 23)).cell? ⟨0, 111, none⟩ = some (.bool true) := hs.alloc _ 111 (by decide)
  have e4 : (w.alloc (.cells #[.int .i64 12, .int .i64 d, .int .i64 n, .int .i64 m, .int .i64 imm, .int .i64 kind] 23)).cell? ⟨0, 112, none⟩ = some (.int .i64 0) := hs.alloc _ 112 (by decide)
  have e5 : (w.alloc (.cells #[.int .i64 12, .int .i64 d, .int .i64 n, .int .i64 m, .int .i64 imm, .int .i64 kind] 23)).cell? ⟨0, 113, none⟩ = some (.int .i64 0) := hs.alloc _ 113 (by decide)
  have e6 : (w.alloc (.cells #[.int .i64 12, .int .i64 d, .int .i64 n, .int .i64 m, .int .i64 imm, .int .i64 kind] 23)).cell? ⟨0, 114, none⟩ = some (.int .i64 0) := hs.alloc _ 114 (by decide)
  have e7 : (w.alloc (.cells #[.int .i64 12, .int .i64 d, .int .i64 n, .int .i64 m, .int .i64 imm, .int .i64 kind] 23)).cell? ⟨0, 115, none⟩ = some (.int .i64 0) := hs.alloc _ 115 (by decide)
  have e8 : (w.alloc (.cells #[.int .i64 12, .int .i64 d, .int .i64 n, .int .i64 m, .int .i64 imm, .int .i64 kind] 23)).cell? ⟨0, 116, none⟩ = some (.int .i64 0) := hs.alloc _ 116 (by decide)
  have a0 : ∀ x : Wb ((w.alloc (.cells #[.int .i64 12, .int .i64 d, .int .i64 n, .int .i64 m, .int .i64 imm, .int .i64 kind] 23)).alloc (.cells #[.int .u32 3388997632, .bool true, .bool true, .bool true, .int .i64 0, .int .i64 0, .int .i64 0, .int .i64 0, .int .i64 0] 40)), x.at.cell? ⟨w.heap.size, 0, none⟩ = some (.int .i64 12) := fun x => by rw [x.cell _ (by simp; omega)]; simp [World.cell?_alloc_new]
  have a1 : ∀ x : Wb ((w.alloc (.cells #[.int .i64 12, .int .i64 d, .int .i64 n, .int .i64 m, .int .i64 imm, .int .i64 kind] 23)).alloc (.cells #[.int .u32 3388997632, .bool true, .bool true, .bool true, .int .i64 0, .int .i64 0, .int .i64 0, .int .i64 0, .int .i64 0] 40)), x.at.cell? ⟨w.heap.size, 1, none⟩ = some (.int .i64 d) := fun x => by rw [x.cell _ (by simp; omega)]; simp [World.cell?_alloc_new]
  have a2 : ∀ x : Wb ((w.alloc (.cells #[.int .i64 12, .int .i64 d, .int .i64 n, .int .i64 m, .int .i64 imm, .int .i64 kind] 23)).alloc (.cells #[.int .u32 3388997632, .bool true, .bool true, .bool true, .int .i64 0, .int .i64 0, .int .i64 0, .int .i64 0, .int .i64 0] 40)), x.at.cell? ⟨w.heap.size, 2, none⟩ = some (.int .i64 n) := fun x => by rw [x.cell _ (by simp; omega)]; simp [World.cell?_alloc_new]
  have a3 : ∀ x : Wb ((w.alloc (.cells #[.int .i64 12, .int .i64 d, .int .i64 n, .int .i64 m, .int .i64 imm, .int .i64 kind] 23)).alloc (.cells #[.int .u32 3388997632, .bool true, .bool true, .bool true, .int .i64 0, .int .i64 0, .int .i64 0, .int .i64 0, .int .i64 0] 40)), x.at.cell? ⟨w.heap.size, 3, none⟩ = some (.int .i64 m) := fun x => by rw [x.cell _ (by simp; omega)]; simp [World.cell?_alloc_new]
  have a4 : ∀ x : Wb ((w.alloc (.cells #[.int .i64 12, .int .i64 d, .int .i64 n, .int .i64 m, .int .i64 imm, .int .i64 kind] 23)).alloc (.cells #[.int .u32 3388997632, .bool true, .bool true, .bool true, .int .i64 0, .int .i64 0, .int .i64 0, .int .i64 0, .int .i64 0] 40)), x.at.cell? ⟨w.heap.size, 4, none⟩ = some (.int .i64 imm) := fun x => by rw [x.cell _ (by simp; omega)]; simp [World.cell?_alloc_new]
  have a5 : ∀ x : Wb ((w.alloc (.cells #[.int .i64 12, .int .i64 d, .int .i64 n, .int .i64 m, .int .i64 imm, .int .i64 kind] 23)).alloc (.cells #[.int .u32 3388997632, .bool true, .bool true, .bool true, .int .i64 0, .int .i64 0, .int .i64 0, .int .i64 0, .int .i64 0] 40)), x.at.cell? ⟨w.heap.size, 5, none⟩ = some (.int .i64 kind) := fun x => by rw [x.cell _ (by simp; omega)]; simp [World.cell?_alloc_new]
  have b0 : ∀ x : Wb ((w.alloc (.cells #[.int .i64 12, .int .i64 d, .int .i64 n, .int .i64 m, .int .i64 imm, .int .i64 kind] 23)).alloc (.cells #[.int .u32 3388997632, .bool true, .bool true, .bool true, .int .i64 0, .int .i64 0, .int .i64 0, .int .i64 0, .int .i64 0] 40)), x.at.cell? ⟨w.heap.size + 1, 0, none⟩ = some (.int .u32 3388997632) := fun x => by rw [x.cell _ (by simp)]; simp [World.cell?_alloc_new]
  have b1 : ∀ x : Wb ((w.alloc (.cells #[.int .i64 12, .int .i64 d, .int .i64 n, .int .i64 m, .int .i64 imm, .int .i64 kind] 23)).alloc (.cells #[.int .u32 3388997632, .bool true, .bool true, .bool true, .int .i64 0, .int .i64 0, .int .i64 0, .int .i64 0, .int .i64 0] 40)), x.at.cell? ⟨w.heap.size + 1, 1, none⟩ = some (.bool true) := fun x => by rw [x.cell _ (by simp)]; simp [World.cell?_alloc_new]
  have b2 : ∀ x : Wb ((w.alloc (.cells #[.int .i64 12, .int .i64 d, .int .i64 n, .int .i64 m, .int .i64 imm, .int .i64 kind] 23)).alloc (.cells #[.int .u32 3388997632, .bool true, .bool true, .bool true, .int .i64 0, .int .i64 0, .int .i64 0, .int .i64 0, .int .i64 0] 40)), x.at.cell? ⟨w.heap.size + 1, 2, none⟩ = some (.bool true) := fun x => by rw [x.cell _ (by simp)]; simp [World.cell?_alloc_new]
  have b3 : ∀ x : Wb ((w.alloc (.cells #[.int .i64 12, .int .i64 d, .int .i64 n, .int .i64 m, .int .i64 imm, .int .i64 kind] 23)).alloc (.cells #[.int .u32 3388997632, .bool true, .bool true, .bool true, .int .i64 0, .int .i64 0, .int .i64 0, .int .i64 0, .int .i64 0] 40)), x.at.cell? ⟨w.heap.size + 1, 3, none⟩ = some (.bool true) := fun x => by rw [x.cell _ (by simp)]; simp [World.cell?_alloc_new]
  have b4 : ∀ x : Wb ((w.alloc (.cells #[.int .i64 12, .int .i64 d, .int .i64 n, .int .i64 m, .int .i64 imm, .int .i64 kind] 23)).alloc (.cells #[.int .u32 3388997632, .bool true, .bool true, .bool true, .int .i64 0, .int .i64 0, .int .i64 0, .int .i64 0, .int .i64 0] 40)), x.at.cell? ⟨w.heap.size + 1, 4, none⟩ = some (.int .i64 0) := fun x => by rw [x.cell _ (by simp)]; simp [World.cell?_alloc_new]
  have b5 : ∀ x : Wb ((w.alloc (.cells #[.int .i64 12, .int .i64 d, .int .i64 n, .int .i64 m, .int .i64 imm, .int .i64 kind] 23)).alloc (.cells #[.int .u32 3388997632, .bool true, .bool true, .bool true, .int .i64 0, .int .i64 0, .int .i64 0, .int .i64 0, .int .i64 0] 40)), x.at.cell? ⟨w.heap.size + 1, 5, none⟩ = some (.int .i64 0) := fun x => by rw [x.cell _ (by simp)]; simp [World.cell?_alloc_new]
  have b6 : ∀ x : Wb ((w.alloc (.cells #[.int .i64 12, .int .i64 d, .int .i64 n, .int .i64 m, .int .i64 imm, .int .i64 kind] 23)).alloc (.cells #[.int .u32 3388997632, .bool true, .bool true, .bool true, .int .i64 0, .int .i64 0, .int .i64 0, .int .i64 0, .int .i64 0] 40)), x.at.cell? ⟨w.heap.size + 1, 6, none⟩ = some (.int .i64 0) := fun x => by rw [x.cell _ (by simp)]; simp [World.cell?_alloc_new]
  have b7 : ∀ x : Wb ((w.alloc (.cells #[.int .i64 12, .int .i64 d, .int .i64 n, .int .i64 m, .int .i64 imm, .int .i64 kind] 23)).alloc (.cells #[.int .u32 3388997632, .bool true, .bool true, .bool true, .int .i64 0, .int .i64 0, .int .i64 0, .int .i64 0, .int .i64 0] 40)), x.at.cell? ⟨w.heap.size + 1, 7, none⟩ = some (.int .i64 0) := fun x => by rw [x.cell _ (by simp)]; simp [World.cell?_alloc_new]
  have b8 : ∀ x : Wb ((w.alloc (.cells #[.int .i64 12, .int .i64 d, .int .i64 n, .int .i64 m, .int .i64 imm, .int .i64 kind] 23)).alloc (.cells #[.int .u32 3388997632, .bool true, .bool true, .bool true, .int .i64 0, .int .i64 0, .int .i64 0, .int .i64 0, .int .i64 0] 40)), x.at.cell? ⟨w.heap.size + 1, 8, none⟩ = some (.int .i64 0) := fun x => by rw [x.cell _ (by simp)]; simp [World.cell?_alloc_new]
  have KB := Lib.hid (fun (x : Wb ((w.alloc (.cells #[.int .i64 12, .int .i64 d, .int .i64 n, .int .i64 m, .int .i64 imm, .int .i64 kind] 23)).alloc (.cells #[.int .u32 3388997632, .bool true, .bool true, .bool true, .int .i64 0, .int .i64 0, .int .i64 0, .int .i64 0, .int .i64 0] 40))) => ((((Below.refl _ _).alloc (Nat.le_refl _) _).alloc (by simp) _).trans (x.bel.mono (by simp; omega)) : Below w.heap.size w x.at))
  clear hb0 hb1 hs
  cases r1 : GrI.regB true d with
  | false =>
    go_enter Tryd.func12, Tryd.ntmps12
    go_wp2_with (first | (go_at_call 22; refine (register_any _ _ _).mono ?_; rintro e w1 ⟨rfl, rfl⟩) | (go_at_call 23; refine (NM.out _ _ _ _ _ _ _ _).mono ?_; rintro e w1 ⟨rfl, d1⟩; obtain ⟨x1, rfl⟩ := Wb.start d1; clear d1) | (go_at_call 24; refine (kind_c _ _ _ _ _ _ _ _ _ _ _ _ _ _ _ _ (by decide) (by decide) (by decide)).mono ?_; rintro e w1 ⟨rfl, d1⟩; obtain ⟨x2, rfl⟩ := Wb.next d1; clear d1))
    go_ret
    exact ⟨ret_code (by rw [E.out]; simp [r1, GrI.code]), (((Below.refl _ _).alloc (Nat.le_refl _) _).alloc (by simp) _)⟩
  | true =>
    cases r2 : GrI.regB true n with
    | false =>
      go_enter Tryd.func12, Tryd.ntmps12
      go_wp2_with (first | (go_at_call 22; refine (register_any _ _ _).mono ?_; rintro e w1 ⟨rfl, rfl⟩) | (go_at_call 23; refine (NM.out _ _ _ _ _ _ _ _).mono ?_; rintro e w1 ⟨rfl, d1⟩; obtain ⟨x1, rfl⟩ := Wb.start d1; clear d1) | (go_at_call 24; refine (kind_c _ _ _ _ _ _ _ _ _ _ _ _ _ _ _ _ (by decide) (by decide) (by decide)).mono ?_; rintro e w1 ⟨rfl, d1⟩; obtain ⟨x2, rfl⟩ := Wb.next d1; clear d1))
      go_ret
      exact ⟨ret_code (by rw [E.out]; simp [r1, r2, GrI.code]), (((Below.refl _ _).alloc (Nat.le_refl _) _).alloc (by simp) _)⟩
    | true =>
      cases r3 : GrI.regB true m with
      | false =>
        go_enter Tryd.func12, Tryd.ntmps12
        go_wp2_with (first | (go_at_call 22; refine (register_any _ _ _).mono ?_; rintro e w1 ⟨rfl, rfl⟩) | (go_at_call 23; refine (NM.out _ _ _ _ _ _ _ _).mono ?_; rintro e w1 ⟨rfl, d1⟩; obtain ⟨x1, rfl⟩ := Wb.start d1; clear d1) | (go_at_call 24; refine (kind_c _ _ _ _ _ _ _ _ _ _ _ _ _ _ _ _ (by decide) (by decide) (by decide)).mono ?_; rintro e w1 ⟨rfl, d1⟩; obtain ⟨x2, rfl⟩ := Wb.next d1; clear d1))
        go_ret
        exact ⟨ret_code (by rw [E.out]; simp [r1, r2, r3, GrI.code]), (((Below.refl _ _).alloc (Nat.le_refl _) _).alloc (by simp) _)⟩
      | true =>
        cases r4 : GrI.numB 0 0 imm with
        | false =>
          go_enter Tryd.func12, Tryd.ntmps12
          go_wp2_with (first | (go_at_call 22; refine (register_any _ _ _).mono ?_; rintro e w1 ⟨rfl, rfl⟩) | (go_at_call 23; refine (NM.out _ _ _ _ _ _ _ _).mono ?_; rintro e w1 ⟨rfl, d1⟩; obtain ⟨x1, rfl⟩ := Wb.start d1; clear d1) | (go_at_call 24; refine (kind_c _ _ _ _ _ _ _ _ _ _ _ _ _ _ _ _ (by decide) (by decide) (by decide)).mono ?_; rintro e w1 ⟨rfl, d1⟩; obtain ⟨x2, rfl⟩ := Wb.next d1; clear d1))
          go_ret
          exact ⟨ret_code (by rw [E.out]; simp [r1, r2, r3, r4, GrI.code]), KB.out x1⟩
        | true =>
          cases r5 : GrI.kindB 12 d kind 0 with
          | false =>
            go_enter Tryd.func12, Tryd.ntmps12
            go_wp2_with (first | (go_at_call 22; refine (register_any _ _ _).mono ?_; rintro e w1 ⟨rfl, rfl⟩) | (go_at_call 23; refine (NM.out _ _ _ _ _ _ _ _).mono ?_; rintro e w1 ⟨rfl, d1⟩; obtain ⟨x1, rfl⟩ := Wb.start d1; clear d1) | (go_at_call 24; refine (kind_c _ _ _ _ _ _ _ _ _ _ _ _ _ _ _ _ (by decide) (by decide) (by decide)).mono ?_; rintro e w1 ⟨rfl, d1⟩; obtain ⟨x2, rfl⟩ := Wb.next d1; clear d1))
            go_ret
            exact ⟨ret_code (by rw [E.out]; simp [r1, r2, r3, r4, r5, GrI.code]), KB.out x2⟩
          | true =>
            go_enter Tryd.func12, Tryd.ntmps12
            go_wp2_with (first | (go_at_call 22; refine (register_any _ _ _).mono ?_; rintro e w1 ⟨rfl, rfl⟩) | (go_at_call 23; refine (NM.out _ _ _ _ _ _ _ _).mono ?_; rintro e w1 ⟨rfl, d1⟩; obtain ⟨x1, rfl⟩ := Wb.start d1; clear d1) | (go_at_call 24; refine (kind_c _ _ _ _ _ _ _ _ _ _ _ _ _ _ _ _ (by decide) (by decide) (by decide)).mono ?_; rintro e w1 ⟨rfl, d1⟩; obtain ⟨x2, rfl⟩ := Wb.next d1; clear d1))
            go_ret
            exact ⟨ret_code (by rw [E.out]; simp [r1, r2, r3, r4, r5, GrI.code]), KB.out x2⟩

end Go.Proofs.YtnehdgapcgbdeaaDoor
