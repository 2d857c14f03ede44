/-
  Layer 3, the code's walks: Right, operations 19 to 23.
-/
import Derived.Test.YtnehdgapcgbdeaaDoorJc
set_option linter.unusedSimpArgs false
set_option linter.unusedVariables false
namespace Go.Proofs.YtnehdgapcgbdeaaDoor
open Go.RowKit

theorem xright_eq_19 (d n m imm kind : Int) : decide (GrI.right ⟨19, d, n, m, imm, kind⟩) = (GrI.regB false d && (GrI.regB false n && (GrI.regB false m && (GrI.numB 0 0 imm && GrI.kindB 19 d kind 16)))) := by
  rw [Bool.eq_iff_iff]
  simp [GrI.right, GrI.parts, GrI.nums, GrI.regB, GrI.numB, GrI.kindB]
  try omega

set_option maxRecDepth 100000 in
set_option maxHeartbeats 6400000 in
theorem xright_19 (d n m imm kind : Int) (w : World) (hs : ShAt w) (hb0 : -9223372036854775808 ≤ imm) (hb1 : imm ≤ 9223372036854775807) :
    Calls Tryd.prog 12 #[.agg #[.int .i64 19, .int .i64 d, .int .i64 n, .int .i64 m, .int .i64 imm, .int .i64 kind]] w fun e w' => e = .returned (.int .i64 (GrI.code (decide (GrI.right ⟨19, d, n, m, imm, kind⟩)))) ∧ Below w.heap.size w w' := by
  have E := Lib.hid (xright_eq_19 d n m imm kind)
  have NM := Lib.hid (fun wd d n m a k ka w => number_0_0 wd d n m a k ka imm w hb0 hb1)
  have e0 : (w.alloc (.cells #[.int .i64 19, .int .i64 d, .int .i64 n, .int .i64 m, .int .i64 imm, .int .i64 kind] 23)).cell? ⟨0, 171, none⟩ = some (.int .u32 3573756063) := hs.alloc _ 171 (by decide)
  have e1 : (w.alloc (.cells #[.int .i64 19, .int .i64 d, .int .i64 n, .int .i64 m, .int .i64 imm, .int .i64 kind] 23)).cell? ⟨0, 172, none⟩ = some (.bool false) := hs.alloc _ 172 (by decide)
  have e2 : (w.alloc (.cells #[.int .i64 19, .int .i64 d, .int .i64 n, .int .i64 m, .int .i64 imm, .int .i64 kind] 23)).cell? ⟨0, 173, none⟩ = some (.bool false) := hs.alloc _ 173 (by decide)
  have e3 : (w.alloc (.cells #[.int .i64 19, .int .i64 d, .int .i64 n, .int .i64 m, .int .i64 imm, .int .i64 kind] 23)).cell? ⟨0, 174, none⟩ = some (.bool false) := hs.alloc _ 174 (by decide)
  have e4 : (w.alloc (.cells #[.int .i64 19, .int .i64 d, .int .i64 n, .int .i64 m, .int .i64 imm, .int .i64 kind] 23)).cell? ⟨0, 175, none⟩ = some (.int .i64 0) := hs.alloc _ 175 (by decide)
  have e5 : (w.alloc (.cells #[.int .i64 19, .int .i64 d, .int .i64 n, .int .i64 m, .int .i64 imm, .int .i64 kind] 23)).cell? ⟨0, 176, none⟩ = some (.int .i64 0) := hs.alloc _ 176 (by decide)
  have e6 : (w.alloc (.cells #[.int .i64 19, .int .i64 d, .int .i64 n, .int .i64 m, .int .i64 imm, .int .i64 kind] 23)).cell? ⟨0, 177, none⟩ = some (.int .i64 0) := hs.alloc _ 177 (by decide)
  have e7 : (w.alloc (.cells #[.int .i64 19, .int .i64 d, .int .i64 n, .int .i64 m, .int .i64 imm, .int .i64 kind] 23)).cell? ⟨0, 178, none⟩ = some (.int .i64 16) := hs.alloc _ 178 (by decide)
  have e8 : (w.alloc (.cells #[.int .i64 19, .int .i64 d, .int .i64 n, .int .i64 m, .int .i64 imm, .int .i64 kind] 23)).cell? ⟨0, 179, none⟩ = some (.int .i64 8) := hs.alloc _ 179 (by decide)
  have a0 : ∀ x : Wb ((w.alloc (.cells #[.int .i64 19, .int .i64 d, .int .i64 n, .int .i64 m, .int .i64 imm, .int .i64 kind] 23)).alloc (.cells #[.int .u32 3573756063, .bool false, .bool false, .bool false, .int .i64 0, .int .i64 0, .int .i64 0, .int .i64 16, .int .i64 8] 40)), x.at.cell? ⟨w.heap.size, 0, none⟩ = some (.int .i64 19) := fun x => by rw [x.cell _ (by simp; omega)]; simp [World.cell?_alloc_new]
  have a1 : ∀ x : Wb ((w.alloc (.cells #[.int .i64 19, .int .i64 d, .int .i64 n, .int .i64 m, .int .i64 imm, .int .i64 kind] 23)).alloc (.cells #[.int .u32 3573756063, .bool false, .bool false, .bool false, .int .i64 0, .int .i64 0, .int .i64 0, .int .i64 16, .int .i64 8] 40)), x.at.cell? ⟨w.heap.size, 1, none⟩ = some (.int .i64 d) := fun x => by rw [x.cell _ (by simp; omega)]; simp [World.cell?_alloc_new]
  have a2 : ∀ x : Wb ((w.alloc (.cells #[.int .i64 19, .int .i64 d, .int .i64 n, .int .i64 m, .int .i64 imm, .int .i64 kind] 23)).alloc (.cells #[.int .u32 3573756063, .bool false, .bool false, .bool false, .int .i64 0, .int .i64 0, .int .i64 0, .int .i64 16, .int .i64 8] 40)), x.at.cell? ⟨w.heap.size, 2, none⟩ = some (.int .i64 n) := fun x => by rw [x.cell _ (by simp; omega)]; simp [World.cell?_alloc_new]
  have a3 : ∀ x : Wb ((w.alloc (.cells #[.int .i64 19, .int .i64 d, .int .i64 n, .int .i64 m, .int .i64 imm, .int .i64 kind] 23)).alloc (.cells #[.int .u32 3573756063, .bool false, .bool false, .bool false, .int .i64 0, .int .i64 0, .int .i64 0, .int .i64 16, .int .i64 8] 40)), x.at.cell? ⟨w.heap.size, 3, none⟩ = some (.int .i64 m) := fun x => by rw [x.cell _ (by simp; omega)]; simp [World.cell?_alloc_new]
  have a4 : ∀ x : Wb ((w.alloc (.cells #[.int .i64 19, .int .i64 d, .int .i64 n, .int .i64 m, .int .i64 imm, .int .i64 kind] 23)).alloc (.cells #[.int .u32 3573756063, .bool false, .bool false, .bool false, .int .i64 0, .int .i64 0, .int .i64 0, .int .i64 16, .int .i64 8] 40)), x.at.cell? ⟨w.heap.size, 4, none⟩ = some (.int .i64 imm) := fun x => by rw [x.cell _ (by simp; omega)]; simp [World.cell?_alloc_new]
  have a5 : ∀ x : Wb ((w.alloc (.cells #[.int .i64 19, .int .i64 d, .int .i64 n, .int .i64 m, .int .i64 imm, .int .i64 kind] 23)).alloc (.cells #[.int .u32 3573756063, .bool false, .bool false, .bool false, .int .i64 0, .int .i64 0, .int .i64 0, .int .i64 16, .int .i64 8] 40)), x.at.cell? ⟨w.heap.size, 5, none⟩ = some (.int .i64 kind) := fun x => by rw [x.cell _ (by simp; omega)]; simp [World.cell?_alloc_new]
  have b0 : ∀ x : Wb ((w.alloc (.cells #[.int .i64 19, .int .i64 d, .int .i64 n, .int .i64 m, .int .i64 imm, .int .i64 kind] 23)).alloc (.cells #[.int .u32 3573756063, .bool false, .bool false, .bool false, .int .i64 0, .int .i64 0, .int .i64 0, .int .i64 16, .int .i64 8] 40)), x.at.cell? ⟨w.heap.size + 1, 0, none⟩ = some (.int .u32 3573756063) := fun x => by rw [x.cell _ (by simp)]; simp [World.cell?_alloc_new]
  have b1 : ∀ x : Wb ((w.alloc (.cells #[.int .i64 19, .int .i64 d, .int .i64 n, .int .i64 m, .int .i64 imm, .int .i64 kind] 23)).alloc (.cells #[.int .u32 3573756063, .bool false, .bool false, .bool false, .int .i64 0, .int .i64 0, .int .i64 0, .int .i64 16, .int .i64 8] 40)), x.at.cell? ⟨w.heap.size + 1, 1, none⟩ = some (.bool false) := fun x => by rw [x.cell _ (by simp)]; simp [World.cell?_alloc_new]
  have b2 : ∀ x : Wb ((w.alloc (.cells #[.int .i64 19, .int .i64 d, .int .i64 n, .int .i64 m, .int .i64 imm, .int .i64 kind] 23)).alloc (.cells #[.int .u32 3573756063, .bool false, .bool false, .bool false, .int .i64 0, .int .i64 0, .int .i64 0, .int .i64 16, .int .i64 8] 40)), x.at.cell? ⟨w.heap.size + 1, 2, none⟩ = some (.bool false) := fun x => by rw [x.cell _ (by simp)]; simp [World.cell?_alloc_new]
  have b3 : ∀ x : Wb ((w.alloc (.cells #[.int .i64 19, .int .i64 d, .int .i64 n, .int .i64 m, .int .i64 imm, .int .i64 kind] 23)).alloc (.cells #[.int .u32 3573756063, .bool false, .bool false, .bool false, .int .i64 0, .int .i64 0, .int .i64 0, .int .i64 16, .int .i64 8] 40)), x.at.cell? ⟨w.heap.size + 1, 3, none⟩ = some (.bool false) := fun x => by rw [x.cell _ (by simp)]; simp [World.cell?_alloc_new]
  have b4 : ∀ x : Wb ((w.alloc (.cells #[.int .i64 19, .int .i64 d, .int .i64 n, .int .i64 m, .int .i64 imm, .int .i64 kind] 23)).alloc (.cells #[.int .u32 3573756063, .bool false, .bool false, .bool false, .int .i64 0, .int .i64 0, .int .i64 0, .int .i64 16, .int .i64 8] 40)), x.at.cell? ⟨w.heap.size + 1, 4, none⟩ = some (.int .i64 0) := fun x => by rw [x.cell _ (by simp)]; simp [World.cell?_alloc_new]
  have b5 : ∀ x : Wb ((w.alloc (.cells #[.int .i64 19, .int .i64 d, .int .i64 n, .int .i64 m, .int .i64 imm, .int .i64 kind] 23)).alloc (.cells #[.int .u32 3573756063, .bool false, .bool false, .bool false, .int .i64 0, .int .i64 0, .int .i64 0, .int .i64 16, .int .i64 8] 40)), x.at.cell? ⟨w.heap.size + 1, 5, none⟩ = some (.int .i64 0) := fun x => by rw [x.cell _ (by simp)]; simp [World.cell?_alloc_new]
  have b6 : ∀ x : Wb ((w.alloc (.cells #[.int .i64 19, .int .i64 d, .int .i64 n, .int .i64 m, .int .i64 imm, .int .i64 kind] 23)).alloc (.cells #[.int .u32 3573756063, .bool false, .bool false, .bool false, .int .i64 0, .int .i64 0, .int .i64 0, .int .i64 16, .int .i64 8] 40)), x.at.cell? ⟨w.heap.size + 1, 6, none⟩ = some (.int .i64 0) := fun x => by rw [x.cell _ (by simp)]; simp [World.cell?_alloc_new]
  have b7 : ∀ x : Wb ((w.alloc (.cells #[.int .i64 19, .int .i64 d, .int .i64 n, .int .i64 m, .int .i64 imm, .int .i64 kind] 23)).alloc (.cells #[.int .u32 3573756063, .bool false, .bool false, .bool false, .int .i64 0, .int .i64 0, .int .i64 0, .int .i64 16, .int .i64 8] 40)), x.at.cell? ⟨w.heap.size + 1, 7, none⟩ = some (.int .i64 16) := fun x => by rw [x.cell _ (by simp)]; simp [World.cell?_alloc_new]
  have b8 : ∀ x : Wb ((w.alloc (.cells #[.int .i64 19, .int .i64 d, .int .i64 n, .int .i64 m, .int .i64 imm, .int .i64 kind] 23)).alloc (.cells #[.int .u32 3573756063, .bool false, .bool false, .bool false, .int .i64 0, .int .i64 0, .int .i64 0, .int .i64 16, .int .i64 8] 40)), x.at.cell? ⟨w.heap.size + 1, 8, none⟩ = some (.int .i64 8) := fun x => by rw [x.cell _ (by simp)]; simp [World.cell?_alloc_new]
  have KB := Lib.hid (fun (x : Wb ((w.alloc (.cells #[.int .i64 19, .int .i64 d, .int .i64 n, .int .i64 m, .int .i64 imm, .int .i64 kind] 23)).alloc (.cells #[.int .u32 3573756063, .bool false, .bool false, .bool false, .int .i64 0, .int .i64 0, .int .i64 0, .int .i64 16, .int .i64 8] 40))) => ((((Below.refl _ _).alloc (Nat.le_refl _) _).alloc (by simp) _).trans (x.bel.mono (by simp; omega)) : Below w.heap.size w x.at))
  clear hb0 hb1 hs
  cases r1 : GrI.regB false d with
  | false =>
    go_enter Tryd.func12, Tryd.ntmps12
    go_wp2_with (first | (go_at_call 22; refine (register_any _ _ _).mono ?_; rintro e w1 ⟨rfl, rfl⟩) | (go_at_call 23; refine (NM.out _ _ _ _ _ _ _ _).mono ?_; rintro e w1 ⟨rfl, d1⟩; obtain ⟨x1, rfl⟩ := Wb.start d1; clear d1) | (go_at_call 24; refine (kind_a _ _ _ _ _ _ _ _ _ _ _ _ _ _ _ _ (by decide)).mono ?_; rintro e w1 ⟨rfl, d1⟩; obtain ⟨x2, rfl⟩ := Wb.next d1; clear d1))
    go_ret
    exact ⟨ret_code (by rw [E.out]; simp [r1, GrI.code]), (((Below.refl _ _).alloc (Nat.le_refl _) _).alloc (by simp) _)⟩
  | true =>
    cases r2 : GrI.regB false n with
    | false =>
      go_enter Tryd.func12, Tryd.ntmps12
      go_wp2_with (first | (go_at_call 22; refine (register_any _ _ _).mono ?_; rintro e w1 ⟨rfl, rfl⟩) | (go_at_call 23; refine (NM.out _ _ _ _ _ _ _ _).mono ?_; rintro e w1 ⟨rfl, d1⟩; obtain ⟨x1, rfl⟩ := Wb.start d1; clear d1) | (go_at_call 24; refine (kind_a _ _ _ _ _ _ _ _ _ _ _ _ _ _ _ _ (by decide)).mono ?_; rintro e w1 ⟨rfl, d1⟩; obtain ⟨x2, rfl⟩ := Wb.next d1; clear d1))
      go_ret
      exact ⟨ret_code (by rw [E.out]; simp [r1, r2, GrI.code]), (((Below.refl _ _).alloc (Nat.le_refl _) _).alloc (by simp) _)⟩
    | true =>
      cases r3 : GrI.regB false m with
      | false =>
        go_enter Tryd.func12, Tryd.ntmps12
        go_wp2_with (first | (go_at_call 22; refine (register_any _ _ _).mono ?_; rintro e w1 ⟨rfl, rfl⟩) | (go_at_call 23; refine (NM.out _ _ _ _ _ _ _ _).mono ?_; rintro e w1 ⟨rfl, d1⟩; obtain ⟨x1, rfl⟩ := Wb.start d1; clear d1) | (go_at_call 24; refine (kind_a _ _ _ _ _ _ _ _ _ _ _ _ _ _ _ _ (by decide)).mono ?_; rintro e w1 ⟨rfl, d1⟩; obtain ⟨x2, rfl⟩ := Wb.next d1; clear d1))
        go_ret
        exact ⟨ret_code (by rw [E.out]; simp [r1, r2, r3, GrI.code]), (((Below.refl _ _).alloc (Nat.le_refl _) _).alloc (by simp) _)⟩
      | true =>
        cases r4 : GrI.numB 0 0 imm with
        | false =>
          go_enter Tryd.func12, Tryd.ntmps12
          go_wp2_with (first | (go_at_call 22; refine (register_any _ _ _).mono ?_; rintro e w1 ⟨rfl, rfl⟩) | (go_at_call 23; refine (NM.out _ _ _ _ _ _ _ _).mono ?_; rintro e w1 ⟨rfl, d1⟩; obtain ⟨x1, rfl⟩ := Wb.start d1; clear d1) | (go_at_call 24; refine (kind_a _ _ _ _ _ _ _ _ _ _ _ _ _ _ _ _ (by decide)).mono ?_; rintro e w1 ⟨rfl, d1⟩; obtain ⟨x2, rfl⟩ := Wb.next d1; clear d1))
          go_ret
          exact ⟨ret_code (by rw [E.out]; simp [r1, r2, r3, r4, GrI.code]), KB.out x1⟩
        | true =>
          cases r5 : GrI.kindB 19 d kind 16 with
          | false =>
            go_enter Tryd.func12, Tryd.ntmps12
            go_wp2_with (first | (go_at_call 22; refine (register_any _ _ _).mono ?_; rintro e w1 ⟨rfl, rfl⟩) | (go_at_call 23; refine (NM.out _ _ _ _ _ _ _ _).mono ?_; rintro e w1 ⟨rfl, d1⟩; obtain ⟨x1, rfl⟩ := Wb.start d1; clear d1) | (go_at_call 24; refine (kind_a _ _ _ _ _ _ _ _ _ _ _ _ _ _ _ _ (by decide)).mono ?_; rintro e w1 ⟨rfl, d1⟩; obtain ⟨x2, rfl⟩ := Wb.next d1; clear d1))
            go_ret
            exact ⟨ret_code (by rw [E.out]; simp [r1, r2, r3, r4, r5, GrI.code]), KB.out x2⟩
          | true =>
            go_enter Tryd.func12, Tryd.ntmps12
            go_wp2_with (first | (go_at_call 22; refine (register_any _ _ _).mono ?_; rintro e w1 ⟨rfl, rfl⟩) | (go_at_call 23; refine (NM.out _ _ _ _ _ _ _ _).mono ?_; rintro e w1 ⟨rfl, d1⟩; obtain ⟨x1, rfl⟩ := Wb.start d1; clear d1) | (go_at_call 24; refine (kind_a _ _ _ _ _ _ _ _ _ _ _ _ _ _ _ _ (by decide)).mono ?_; rintro e w1 ⟨rfl, d1⟩; obtain ⟨x2, rfl⟩ := Wb.next d1; clear d1))
            go_ret
            exact ⟨ret_code (by rw [E.out]; simp [r1, r2, r3, r4, r5, GrI.code]), KB.out x2⟩

theorem xright_eq_20 (d n m imm kind : Int) : decide (GrI.right ⟨20, d, n, m, imm, kind⟩) = (GrI.regB false d && (GrI.regB false n && (GrI.regB false m && (GrI.numB 0 0 imm && GrI.kindB 20 d kind 0)))) := by
  rw [Bool.eq_iff_iff]
  simp [GrI.right, GrI.parts, GrI.nums, GrI.regB, GrI.numB, GrI.kindB]
  try omega

set_option maxRecDepth 100000 in
set_option maxHeartbeats 6400000 in
theorem xright_20 (d n m imm kind : Int) (w : World) (hs : ShAt w) (hb0 : -9223372036854775808 ≤ imm) (hb1 : imm ≤ 9223372036854775807) :
    Calls Tryd.prog 12 #[.agg #[.int .i64 20, .int .i64 d, .int .i64 n, .int .i64 m, .int .i64 imm, .int .i64 kind]] w fun e w' => e = .returned (.int .i64 (GrI.code (decide (GrI.right ⟨20, d, n, m, imm, kind⟩)))) ∧ Below w.heap.size w w' := by
  have E := Lib.hid (xright_eq_20 d n m imm kind)
  have NM := Lib.hid (fun wd d n m a k ka w => number_0_0 wd d n m a k ka imm w hb0 hb1)
  have e0 : (w.alloc (.cells #[.int .i64 20, .int .i64 d, .int .i64 n, .int .i64 m, .int .i64 imm, .int .i64 kind] 23)).cell? ⟨0, 180, none⟩ = some (.int .u32 3573759967) := hs.alloc _ 180 (by decide)
  have e1 : (w.alloc (.cells #[.int .i64 20, .int .i64 d, .int .i64 n, .int .i64 m, .int .i64 imm, .int .i64 kind] 23)).cell? ⟨0, 181, none⟩ = some (.bool false) := hs.alloc _ 181 (by decide)
  have e2 : (w.alloc (.cells #[.int .i64 20, .int .i64 d, .int .i64 n, .int .i64 m, .int .i64 imm, .int .i64 kind] 23)).cell? ⟨0, 182, none⟩ = some (.bool false) := hs.alloc _ 182 (by decide)
  have e3 : (w.alloc (.cells #[.int .i64 20, .int .i64 d, .int .i64 n, .int .i64 m, .int .i64 imm, .int .i64 kind] 23)).cell? ⟨0, 183, none⟩ = some (.bool false) := hs.alloc _ 183 (by decide)
  have e4 : (w.alloc (.cells #[.int .i64 20, .int .i64 d, .int .i64 n, .int .i64 m, .int .i64 imm, .int .i64 kind] 23)).cell? ⟨0, 184, none⟩ = some (.int .i64 0) := hs.alloc _ 184 (by decide)
  have e5 : (w.alloc (.cells #[.int .i64 20, .int .i64 d, .int .i64 n, .int .i64 m, .int .i64 imm, .int .i64 kind] 23)).cell? ⟨0, 185, none⟩ = some (.int .i64 0) := hs.alloc _ 185 (by decide)
  have e6 : (w.alloc (.cells #[.int .i64 20, .int .i64 d, .int .i64 n, .int .i64 m, .int .i64 imm, .int .i64 kind] 23)).cell? ⟨0, 186, none⟩ = some (.int .i64 0) := hs.alloc _ 186 (by decide)
  have e7 : (w.alloc (.cells #[.int .i64 20, .int .i64 d, .int .i64 n, .int .i64 m, .int .i64 imm, .int .i64 kind] 23)).cell? ⟨0, 187, none⟩ = some (.int .i64 0) := hs.alloc _ 187 (by decide)
  have e8 : (w.alloc (.cells #[.int .i64 20, .int .i64 d, .int .i64 n, .int .i64 m, .int .i64 imm, .int .i64 kind] 23)).cell? ⟨0, 188, none⟩ = some (.int .i64 0) := hs.alloc _ 188 (by decide)
  have a0 : ∀ x : Wb ((w.alloc (.cells #[.int .i64 20, .int .i64 d, .int .i64 n, .int .i64 m, .int .i64 imm, .int .i64 kind] 23)).alloc (.cells #[.int .u32 3573759967, .bool false, .bool false, .bool false, .int .i64 0, .int .i64 0, .int .i64 0, .int .i64 0, .int .i64 0] 40)), x.at.cell? ⟨w.heap.size, 0, none⟩ = some (.int .i64 20) := fun x => by rw [x.cell _ (by simp; omega)]; simp [World.cell?_alloc_new]
  have a1 : ∀ x : Wb ((w.alloc (.cells #[.int .i64 20, .int .i64 d, .int .i64 n, .int .i64 m, .int .i64 imm, .int .i64 kind] 23)).alloc (.cells #[.int .u32 3573759967, .bool false, .bool false, .bool false, .int .i64 0, .int .i64 0, .int .i64 0, .int .i64 0, .int .i64 0] 40)), x.at.cell? ⟨w.heap.size, 1, none⟩ = some (.int .i64 d) := fun x => by rw [x.cell _ (by simp; omega)]; simp [World.cell?_alloc_new]
  have a2 : ∀ x : Wb ((w.alloc (.cells #[.int .i64 20, .int .i64 d, .int .i64 n, .int .i64 m, .int .i64 imm, .int .i64 kind] 23)).alloc (.cells #[.int .u32 3573759967, .bool false, .bool false, .bool false, .int .i64 0, .int .i64 0, .int .i64 0, .int .i64 0, .int .i64 0] 40)), x.at.cell? ⟨w.heap.size, 2, none⟩ = some (.int .i64 n) := fun x => by rw [x.cell _ (by simp; omega)]; simp [World.cell?_alloc_new]
  have a3 : ∀ x : Wb ((w.alloc (.cells #[.int .i64 20, .int .i64 d, .int .i64 n, .int .i64 m, .int .i64 imm, .int .i64 kind] 23)).alloc (.cells #[.int .u32 3573759967, .bool false, .bool false, .bool false, .int .i64 0, .int .i64 0, .int .i64 0, .int .i64 0, .int .i64 0] 40)), x.at.cell? ⟨w.heap.size, 3, none⟩ = some (.int .i64 m) := fun x => by rw [x.cell _ (by simp; omega)]; simp [World.cell?_alloc_new]
  have a4 : ∀ x : Wb ((w.alloc (.cells #[.int .i64 20, .int .i64 d, .int .i64 n, .int .i64 m, .int .i64 imm, .int .i64 kind] 23)).alloc (.cells #[.int .u32 3573759967, .bool false, .bool false, .bool false, .int .i64 0, .int .i64 0, .int .i64 0, .int .i64 0, .int .i64 0] 40)), x.at.cell? ⟨w.heap.size, 4, none⟩ = some (.int .i64 imm) := fun x => by rw [x.cell _ (by simp; omega)]; simp [World.cell?_alloc_new]
  have a5 : ∀ x : Wb ((w.alloc (.cells #[.int .i64 20, .int .i64 d, .int .i64 n, .int .i64 m, .int .i64 imm, .int .i64 kind] 23)).alloc (.cells #[.int .u32 3573759967, .bool false, .bool false, .bool false, .int .i64 0, .int .i64 0, .int .i64 0, .int .i64 0, .int .i64 0] 40)), x.at.cell? ⟨w.heap.size, 5, none⟩ = some (.int .i64 kind) := fun x => by rw [x.cell _ (by simp; omega)]; simp [World.cell?_alloc_new]
  have b0 : ∀ x : Wb ((w.alloc (.cells #[.int .i64 20, .int .i64 d, .int .i64 n, .int .i64 m, .int .i64 imm, .int .i64 kind] 23)).alloc (.cells #[.int .u32 3573759967, .bool false, .bool false, .bool false, .int .i64 0, .int .i64 0, .int .i64 0, .int .i64 0, .int .i64 0] 40)), x.at.cell? ⟨w.heap.size + 1, 0, none⟩ = some (.int .u32 3573759967) := fun x => by rw [x.cell _ (by simp)]; simp [World.cell?_alloc_new]
  have b1 : ∀ x : Wb ((w.alloc (.cells #[.int .i64 20, .int .i64 d, .int .i64 n, .int .i64 m, .int .i64 imm, .int .i64 kind] 23)).alloc (.cells #[.int .u32 3573759967, .bool false, .bool false, .bool false, .int .i64 0, .int .i64 0, .int .i64 0, .int .i64 0, .int .i64 0] 40)), x.at.cell? ⟨w.heap.size + 1, 1, none⟩ = some (.bool false) := fun x => by rw [x.cell _ (by simp)]; simp [World.cell?_alloc_new]
  have b2 : ∀ x : Wb ((w.alloc (.cells #[.int .i64 20, .int .i64 d, .int .i64 n, .int .i64 m, .int .i64 imm, .int .i64 kind] 23)).alloc (.cells #[.int .u32 3573759967, .bool false, .bool false, .bool false, .int .i64 0, .int .i64 0, .int .i64 0, .int .i64 0, .int .i64 0] 40)), x.at.cell? ⟨w.heap.size + 1, 2, none⟩ = some (.bool false) := fun x => by rw [x.cell _ (by simp)]; simp [World.cell?_alloc_new]
  have b3 : ∀ x : Wb ((w.alloc (.cells #[.int .i64 20, .int .i64 d, .int .i64 n, .int .i64 m, .int .i64 imm, .int .i64 kind] 23)).alloc (.cells #[.int .u32 3573759967, .bool false, .bool false, .bool false, .int .i64 0, .int .i64 0, .int .i64 0, .int .i64 0, .int .i64 0] 40)), x.at.cell? ⟨w.heap.size + 1, 3, none⟩ = some (.bool false) := fun x => by rw [x.cell _ (by simp)]; simp [World.cell?_alloc_new]
  have b4 : ∀ x : Wb ((w.alloc (.cells #[.int .i64 20, .int .i64 d, .int .i64 n, .int .i64 m, .int .i64 imm, .int .i64 kind] 23)).alloc (.cells #[.int .u32 3573759967, .bool false, .bool false, .bool false, .int .i64 0, .int .i64 0, .int .i64 0, .int .i64 0, .int .i64 0] 40)), x.at.cell? ⟨w.heap.size + 1, 4, none⟩ = some (.int .i64 0) := fun x => by rw [x.cell _ (by simp)]; simp [World.cell?_alloc_new]
  have b5 : ∀ x : Wb ((w.alloc (.cells #[.int .i64 20, .int .i64 d, .int .i64 n, .int .i64 m, .int .i64 imm, .int .i64 kind] 23)).alloc (.cells #[.int .u32 3573759967, .bool false, .bool false, .bool false, .int .i64 0, .int .i64 0, .int .i64 0, .int .i64 0, .int .i64 0] 40)), x.at.cell? ⟨w.heap.size + 1, 5, none⟩ = some (.int .i64 0) := fun x => by rw [x.cell _ (by simp)]; simp [World.cell?_alloc_new]
  have b6 : ∀ x : Wb ((w.alloc (.cells #[.int .i64 20, .int .i64 d, .int .i64 n, .int .i64 m, .int .i64 imm, .int .i64 kind] 23)).alloc (.cells #[.int .u32 3573759967, .bool false, .bool false, .bool false, .int .i64 0, .int .i64 0, .int .i64 0, .int .i64 0, .int .i64 0] 40)), x.at.cell? ⟨w.heap.size + 1, 6, none⟩ = some (.int .i64 0) := fun x => by rw [x.cell _ (by simp)]; simp [World.cell?_alloc_new]
  have b7 : ∀ x : Wb ((w.alloc (.cells #[.int .i64 20, .int .i64 d, .int .i64 n, .int .i64 m, .int .i64 imm, .int .i64 kind] 23)).alloc (.cells #[.int .u32 3573759967, .bool false, .bool false, .bool false, .int .i64 0, .int .i64 0, .int .i64 0, .int .i64 0, .int .i64 0] 40)), x.at.cell? ⟨w.heap.size + 1, 7, none⟩ = some (.int .i64 0) := fun x => by rw [x.cell _ (by simp)]; simp [World.cell?_alloc_new]
  have b8 : ∀ x : Wb ((w.alloc (.cells #[.int .i64 20, .int .i64 d, .int .i64 n, .int .i64 m, .int .i64 imm, .int .i64 kind] 23)).alloc (.cells #[.int .u32 3573759967, .bool false, .bool false, .bool false, .int .i64 0, .int .i64 0, .int .i64 0, .int .i64 0, .int .i64 0] 40)), x.at.cell? ⟨w.heap.size + 1, 8, none⟩ = some (.int .i64 0) := fun x => by rw [x.cell _ (by simp)]; simp [World.cell?_alloc_new]
  have KB := Lib.hid (fun (x : Wb ((w.alloc (.cells #[.int .i64 20, .int .i64 d, .int .i64 n, .int .i64 m, .int .i64 imm, .int .i64 kind] 23)).alloc (.cells #[.int .u32 3573759967, .bool false, .bool false, .bool false, .int .i64 0, .int .i64 0, .int .i64 0, .int .i64 0, .int .i64 0] 40))) => ((((Below.refl _ _).alloc (Nat.le_refl _) _).alloc (by simp) _).trans (x.bel.mono (by simp; omega)) : Below w.heap.size w x.at))
  clear hb0 hb1 hs
  cases r1 : GrI.regB false d with
  | false =>
    go_enter Tryd.func12, Tryd.ntmps12
    go_wp2_with (first | (go_at_call 22; refine (register_any _ _ _).mono ?_; rintro e w1 ⟨rfl, rfl⟩) | (go_at_call 23; refine (NM.out _ _ _ _ _ _ _ _).mono ?_; rintro e w1 ⟨rfl, d1⟩; obtain ⟨x1, rfl⟩ := Wb.start d1; clear d1) | (go_at_call 24; refine (kind_c _ _ _ _ _ _ _ _ _ _ _ _ _ _ _ _ (by decide) (by decide) (by decide)).mono ?_; rintro e w1 ⟨rfl, d1⟩; obtain ⟨x2, rfl⟩ := Wb.next d1; clear d1))
    go_ret
    exact ⟨ret_code (by rw [E.out]; simp [r1, GrI.code]), (((Below.refl _ _).alloc (Nat.le_refl _) _).alloc (by simp) _)⟩
  | true =>
    cases r2 : GrI.regB false n with
    | false =>
      go_enter Tryd.func12, Tryd.ntmps12
      go_wp2_with (first | (go_at_call 22; refine (register_any _ _ _).mono ?_; rintro e w1 ⟨rfl, rfl⟩) | (go_at_call 23; refine (NM.out _ _ _ _ _ _ _ _).mono ?_; rintro e w1 ⟨rfl, d1⟩; obtain ⟨x1, rfl⟩ := Wb.start d1; clear d1) | (go_at_call 24; refine (kind_c _ _ _ _ _ _ _ _ _ _ _ _ _ _ _ _ (by decide) (by decide) (by decide)).mono ?_; rintro e w1 ⟨rfl, d1⟩; obtain ⟨x2, rfl⟩ := Wb.next d1; clear d1))
      go_ret
      exact ⟨ret_code (by rw [E.out]; simp [r1, r2, GrI.code]), (((Below.refl _ _).alloc (Nat.le_refl _) _).alloc (by simp) _)⟩
    | true =>
      cases r3 : GrI.regB false m with
      | false =>
        go_enter Tryd.func12, Tryd.ntmps12
        go_wp2_with (first | (go_at_call 22; refine (register_any _ _ _).mono ?_; rintro e w1 ⟨rfl, rfl⟩) | (go_at_call 23; refine (NM.out _ _ _ _ _ _ _ _).mono ?_; rintro e w1 ⟨rfl, d1⟩; obtain ⟨x1, rfl⟩ := Wb.start d1; clear d1) | (go_at_call 24; refine (kind_c _ _ _ _ _ _ _ _ _ _ _ _ _ _ _ _ (by decide) (by decide) (by decide)).mono ?_; rintro e w1 ⟨rfl, d1⟩; obtain ⟨x2, rfl⟩ := Wb.next d1; clear d1))
        go_ret
        exact ⟨ret_code (by rw [E.out]; simp [r1, r2, r3, GrI.code]), (((Below.refl _ _).alloc (Nat.le_refl _) _).alloc (by simp) _)⟩
      | true =>
        cases r4 : GrI.numB 0 0 imm with
        | false =>
          go_enter Tryd.func12, Tryd.ntmps12
          go_wp2_with (first | (go_at_call 22; refine (register_any _ _ _).mono ?_; rintro e w1 ⟨rfl, rfl⟩) | (go_at_call 23; refine (NM.out _ _ _ _ _ _ _ _).mono ?_; rintro e w1 ⟨rfl, d1⟩; obtain ⟨x1, rfl⟩ := Wb.start d1; clear d1) | (go_at_call 24; refine (kind_c _ _ _ _ _ _ _ _ _ _ _ _ _ _ _ _ (by decide) (by decide) (by decide)).mono ?_; rintro e w1 ⟨rfl, d1⟩; obtain ⟨x2, rfl⟩ := Wb.next d1; clear d1))
          go_ret
          exact ⟨ret_code (by rw [E.out]; simp [r1, r2, r3, r4, GrI.code]), KB.out x1⟩
        | true =>
          cases r5 : GrI.kindB 20 d kind 0 with
          | false =>
            go_enter Tryd.func12, Tryd.ntmps12
            go_wp2_with (first | (go_at_call 22; refine (register_any _ _ _).mono ?_; rintro e w1 ⟨rfl, rfl⟩) | (go_at_call 23; refine (NM.out _ _ _ _ _ _ _ _).mono ?_; rintro e w1 ⟨rfl, d1⟩; obtain ⟨x1, rfl⟩ := Wb.start d1; clear d1) | (go_at_call 24; refine (kind_c _ _ _ _ _ _ _ _ _ _ _ _ _ _ _ _ (by decide) (by decide) (by decide)).mono ?_; rintro e w1 ⟨rfl, d1⟩; obtain ⟨x2, rfl⟩ := Wb.next d1; clear d1))
            go_ret
            exact ⟨ret_code (by rw [E.out]; simp [r1, r2, r3, r4, r5, GrI.code]), KB.out x2⟩
          | true =>
            go_enter Tryd.func12, Tryd.ntmps12
            go_wp2_with (first | (go_at_call 22; refine (register_any _ _ _).mono ?_; rintro e w1 ⟨rfl, rfl⟩) | (go_at_call 23; refine (NM.out _ _ _ _ _ _ _ _).mono ?_; rintro e w1 ⟨rfl, d1⟩; obtain ⟨x1, rfl⟩ := Wb.start d1; clear d1) | (go_at_call 24; refine (kind_c _ _ _ _ _ _ _ _ _ _ _ _ _ _ _ _ (by decide) (by decide) (by decide)).mono ?_; rintro e w1 ⟨rfl, d1⟩; obtain ⟨x2, rfl⟩ := Wb.next d1; clear d1))
            go_ret
            exact ⟨ret_code (by rw [E.out]; simp [r1, r2, r3, r4, r5, GrI.code]), KB.out x2⟩

theorem xright_eq_21 (d n m imm kind : Int) : decide (GrI.right ⟨21, d, n, m, imm, kind⟩) = (GrI.regB true d && (GrI.regB false n && (GrI.regB false m && (GrI.numB 0 0 imm && GrI.kindB 21 d kind 8)))) := by
  rw [Bool.eq_iff_iff]
  simp [GrI.right, GrI.parts, GrI.nums, GrI.regB, GrI.numB, GrI.kindB]
  try omega

set_option maxRecDepth 100000 in
set_option maxHeartbeats 6400000 in
theorem xright_21 (d n m imm kind : Int) (w : World) (hs : ShAt w) (hb0 : -9223372036854775808 ≤ imm) (hb1 : imm ≤ 9223372036854775807) :
    Calls Tryd.prog 12 #[.agg #[.int .i64 21, .int .i64 d, .int .i64 n, .int .i64 m, .int .i64 imm, .int .i64 kind]] w fun e w' => e = .returned (.int .i64 (GrI.code (decide (GrI.right ⟨21, d, n, m, imm, kind⟩)))) ∧ Below w.heap.size w w' := by
  have E := Lib.hid (xright_eq_21 d n m imm kind)
  have NM := Lib.hid (fun wd d n m a k ka w => number_0_0 wd d n m a k ka imm w hb0 hb1)
  have e0 : (w.alloc (.cells #[.int .i64 21, .int .i64 d, .int .i64 n, .int .i64 m, .int .i64 imm, .int .i64 kind] 23)).cell? ⟨0, 189, none⟩ = some (.int .u32 3574104832) := hs.alloc _ 189 (by decide)
  have e1 : (w.alloc (.cells #[.int .i64 21, .int .i64 d, .int .i64 n, .int .i64 m, .int .i64 imm, .int .i64 kind] 23)).cell? ⟨0, 190, none⟩ = some (.bool true) := hs.alloc _ 190 (by decide)
  have e2 : (w.alloc (.cells #[.int .i64 21, .int .i64 d, .int .i64 n, .int .i64 m, .int .i64 imm, .int .i64 kind] 23)).cell? ⟨0, 191, none⟩ = some (.bool false) := hs.alloc _ 191 (by decide)
  have e3 : (w.alloc (.cells #[.int .i64 21, .int .i64 d, .int .i64 n, .int .i64 m, .int .i64 imm, .int .i64 kind] 23)).cell? ⟨0, 192, none⟩ = some (.bool false) := hs.alloc _ 192 (by decide)
  have e4 : (w.alloc (.cells #[.int .i64 21, .int .i64 d, .int .i64 n, .int .i64 m, .int .i64 imm, .int .i64 kind] 23)).cell? ⟨0, 193, none⟩ = some (.int .i64 0) := hs.alloc _ 193 (by decide)
  have e5 : (w.alloc (.cells #[.int .i64 21, .int .i64 d, .int .i64 n, .int .i64 m, .int .i64 imm, .int .i64 kind] 23)).cell? ⟨0, 194, none⟩ = some (.int .i64 0) := hs.alloc _ 194 (by decide)
  have e6 : (w.alloc (.cells #[.int .i64 21, .int .i64 d, .int .i64 n, .int .i64 m, .int .i64 imm, .int .i64 kind] 23)).cell? ⟨0, 195, none⟩ = some (.int .i64 0) := hs.alloc _ 195 (by decide)
  have e7 : (w.alloc (.cells #[.int .i64 21, .int .i64 d, .int .i64 n, .int .i64 m, .int .i64 imm, .int .i64 kind] 23)).cell? ⟨0, 196, none⟩ = some (.int .i64 8) := hs.alloc _ 196 (by decide)
  have e8 : (w.alloc (.cells #[.int .i64 21, .int .i64 d, .int .i64 n, .int .i64 m, .int .i64 imm, .int .i64 kind] 23)).cell? ⟨0, 197, none⟩ = some (.int .i64 0) := hs.alloc _ 197 (by decide)
  have a0 : ∀ x : Wb ((w.alloc (.cells #[.int .i64 21, .int .i64 d, .int .i64 n, .int .i64 m, .int .i64 imm, .int .i64 kind] 23)).alloc (.cells #[.int .u32 3574104832, .bool true, .bool false, .bool false, .int .i64 0, .int .i64 0, .int .i64 0, .int .i64 8, .int .i64 0] 40)), x.at.cell? ⟨w.heap.size, 0, none⟩ = some (.int .i64 21) := fun x => by rw [x.cell _ (by simp; omega)]; simp [World.cell?_alloc_new]
  have a1 : ∀ x : Wb ((w.alloc (.cells #[.int .i64 21, .int .i64 d, .int .i64 n, .int .i64 m, .int .i64 imm, .int .i64 kind] 23)).alloc (.cells #[.int .u32 3574104832, .bool true, .bool false, .bool false, .int .i64 0, .int .i64 0, .int .i64 0, .int .i64 8, .int .i64 0] 40)), x.at.cell? ⟨w.heap.size, 1, none⟩ = some (.int .i64 d) := fun x => by rw [x.cell _ (by simp; omega)]; simp [World.cell?_alloc_new]
  have a2 : ∀ x : Wb ((w.alloc (.cells #[.int .i64 21, .int .i64 d, .int .i64 n, .int .i64 m, .int .i64 imm, .int .i64 kind] 23)).alloc (.cells #[.int .u32 3574104832, .bool true, .bool false, .bool false, .int .i64 0, .int .i64 0, .int .i64 0, .int .i64 8, .int .i64 0] 40)), x.at.cell? ⟨w.heap.size, 2, none⟩ = some (.int .i64 n) := fun x => by rw [x.cell _ (by simp; omega)]; simp [World.cell?_alloc_new]
  have a3 : ∀ x : Wb ((w.alloc (.cells #[.int .i64 21, .int .i64 d, .int .i64 n, .int .i64 m, .int .i64 imm, .int .i64 kind] 23)).alloc (.cells #[.int .u32 3574104832, .bool true, .bool false, .bool false, .int .i64 0, .int .i64 0, .int .i64 0, .int .i64 8, .int .i64 0] 40)), x.at.cell? ⟨w.heap.size, 3, none⟩ = some (.int .i64 m) := fun x => by rw [x.cell _ (by simp; omega)]; simp [World.cell?_alloc_new]
  have a4 : ∀ x : Wb ((w.alloc (.cells #[.int .i64 21, .int .i64 d, .int .i64 n, .int .i64 m, .int .i64 imm, .int .i64 kind] 23)).alloc (.cells #[.int .u32 3574104832, .bool true, .bool false, .bool false, .int .i64 0, .int .i64 0, .int .i64 0, .int .i64 8, .int .i64 0] 40)), x.at.cell? ⟨w.heap.size, 4, none⟩ = some (.int .i64 imm) := fun x => by rw [x.cell _ (by simp; omega)]; simp [World.cell?_alloc_new]
  have a5 : ∀ x : Wb ((w.alloc (.cells #[.int .i64 21, .int .i64 d, .int .i64 n, .int .i64 m, .int .i64 imm, .int .i64 kind] 23)).alloc (.cells #[.int .u32 3574104832, .bool true, .bool false, .bool false, .int .i64 0, .int .i64 0, .int .i64 0, .int .i64 8, .int .i64 0] 40)), x.at.cell? ⟨w.heap.size, 5, none⟩ = some (.int .i64 kind) := fun x => by rw [x.cell _ (by simp; omega)]; simp [World.cell?_alloc_new]
  have b0 : ∀ x : Wb ((w.alloc (.cells #[.int .i64 21, .int .i64 d, .int .i64 n, .int .i64 m, .int .i64 imm, .int .i64 kind] 23)).alloc (.cells #[.int .u32 3574104832, .bool true, .bool false, .bool false, .int .i64 0, .int .i64 0, .int .i64 0, .int .i64 8, .int .i64 0] 40)), x.at.cell? ⟨w.heap.size + 1, 0, none⟩ = some (.int .u32 3574104832) := fun x => by rw [x.cell _ (by simp)]; simp [World.cell?_alloc_new]
  have b1 : ∀ x : Wb ((w.alloc (.cells #[.int .i64 21, .int .i64 d, .int .i64 n, .int .i64 m, .int .i64 imm, .int .i64 kind] 23)).alloc (.cells #[.int .u32 3574104832, .bool true, .bool false, .bool false, .int .i64 0, .int .i64 0, .int .i64 0, .int .i64 8, .int .i64 0] 40)), x.at.cell? ⟨w.heap.size + 1, 1, none⟩ = some (.bool true) := fun x => by rw [x.cell _ (by simp)]; simp [World.cell?_alloc_new]
  have b2 : ∀ x : Wb ((w.alloc (.cells #[.int .i64 21, .int .i64 d, .int .i64 n, .int .i64 m, .int .i64 imm, .int .i64 kind] 23)).alloc (.cells #[.int .u32 3574104832, .bool true, .bool false, .bool false, .int .i64 0, .int .i64 0, .int .i64 0, .int .i64 8, .int .i64 0] 40)), x.at.cell? ⟨w.heap.size + 1, 2, none⟩ = some (.bool false) := fun x => by rw [x.cell _ (by simp)]; simp [World.cell?_alloc_new]
  have b3 : ∀ x : Wb ((w.alloc (.cells #[.int .i64 21, .int .i64 d, .int .i64 n, .int .i64 m, .int .i64 imm, .int .i64 kind] 23)).alloc (.cells #[.int .u32 3574104832, .bool true, .bool false, .bool false, .int .i64 0, .int .i64 0, .int .i64 0, .int .i64 8, .int .i64 0] 40)), x.at.cell? ⟨w.heap.size + 1, 3, none⟩ = some (.bool false) := fun x => by rw [x.cell _ (by simp)]; simp [World.cell?_alloc_new]
  have b4 : ∀ x : Wb ((w.alloc (.cells #[.int .i64 21, .int .i64 d, .int .i64 n, .int .i64 m, .int .i64 imm, .int .i64 kind] 23)).alloc (.cells #[.int .u32 3574104832, .bool true, .bool false, .bool false, .int .i64 0, .int .i64 0, .int .i64 0, .int .i64 8, .int .i64 0] 40)), x.at.cell? ⟨w.heap.size + 1, 4, none⟩ = some (.int .i64 0) := fun x => by rw [x.cell _ (by simp)]; simp [World.cell?_alloc_new]
  have b5 : ∀ x : Wb ((w.alloc (.cells #[.int .i64 21, .int .i64 d, .int .i64 n, .int .i64 m, .int .i64 imm, .int .i64 kind] 23)).alloc (.cells #[.int .u32 3574104832, .bool true, .bool false, .bool false, .int .i64 0, .int .i64 0, .int .i64 0, .int .i64 8, .int .i64 0] 40)), x.at.cell? ⟨w.heap.size + 1, 5, none⟩ = some (.int .i64 0) := fun x => by rw [x.cell _ (by simp)]; simp [World.cell?_alloc_new]
  have b6 : ∀ x : Wb ((w.alloc (.cells #[.int .i64 21, .int .i64 d, .int .i64 n, .int .i64 m, .int .i64 imm, .int .i64 kind] 23)).alloc (.cells #[.int .u32 3574104832, .bool true, .bool false, .bool false, .int .i64 0, .int .i64 0, .int .i64 0, .int .i64 8, .int .i64 0] 40)), x.at.cell? ⟨w.heap.size + 1, 6, none⟩ = some (.int .i64 0) := fun x => by rw [x.cell _ (by simp)]; simp [World.cell?_alloc_new]
  have b7 : ∀ x : Wb ((w.alloc (.cells #[.int .i64 21, .int .i64 d, .int .i64 n, .int .i64 m, .int .i64 imm, .int .i64 kind] 23)).alloc (.cells #[.int .u32 3574104832, .bool true, .bool false, .bool false, .int .i64 0, .int .i64 0, .int .i64 0, .int .i64 8, .int .i64 0] 40)), x.at.cell? ⟨w.heap.size + 1, 7, none⟩ = some (.int .i64 8) := fun x => by rw [x.cell _ (by simp)]; simp [World.cell?_alloc_new]
  have b8 : ∀ x : Wb ((w.alloc (.cells #[.int .i64 21, .int .i64 d, .int .i64 n, .int .i64 m, .int .i64 imm, .int .i64 kind] 23)).alloc (.cells #[.int .u32 3574104832, .bool true, .bool false, .bool false, .int .i64 0, .int .i64 0, .int .i64 0, .int .i64 8, .int .i64 0] 40)), x.at.cell? ⟨w.heap.size + 1, 8, none⟩ = some (.int .i64 0) := fun x => by rw [x.cell _ (by simp)]; simp [World.cell?_alloc_new]
  have KB := Lib.hid (fun (x : Wb ((w.alloc (.cells #[.int .i64 21, .int .i64 d, .int .i64 n, .int .i64 m, .int .i64 imm, .int .i64 kind] 23)).alloc (.cells #[.int .u32 3574104832, .bool true, .bool false, .bool false, .int .i64 0, .int .i64 0, .int .i64 0, .int .i64 8, .int .i64 0] 40))) => ((((Below.refl _ _).alloc (Nat.le_refl _) _).alloc (by simp) _).trans (x.bel.mono (by simp; omega)) : Below w.heap.size w x.at))
  clear hb0 hb1 hs
  cases r1 : GrI.regB true d with
  | false =>
    go_enter Tryd.func12, Tryd.ntmps12
    go_wp2_with (first | (go_at_call 22; refine (register_any _ _ _).mono ?_; rintro e w1 ⟨rfl, rfl⟩) | (go_at_call 23; refine (NM.out _ _ _ _ _ _ _ _).mono ?_; rintro e w1 ⟨rfl, d1⟩; obtain ⟨x1, rfl⟩ := Wb.start d1; clear d1) | (go_at_call 24; refine (kind_b _ _ _ _ _ _ _ _ _ _ _ _ _ _ _ _ rfl).mono ?_; rintro e w1 ⟨rfl, d1⟩; obtain ⟨x2, rfl⟩ := Wb.next d1; clear d1))
    go_ret
    exact ⟨ret_code (by rw [E.out]; simp [r1, GrI.code]), (((Below.refl _ _).alloc (Nat.le_refl _) _).alloc (by simp) _)⟩
  | true =>
    cases r2 : GrI.regB false n with
    | false =>
      go_enter Tryd.func12, Tryd.ntmps12
      go_wp2_with (first | (go_at_call 22; refine (register_any _ _ _).mono ?_; rintro e w1 ⟨rfl, rfl⟩) | (go_at_call 23; refine (NM.out _ _ _ _ _ _ _ _).mono ?_; rintro e w1 ⟨rfl, d1⟩; obtain ⟨x1, rfl⟩ := Wb.start d1; clear d1) | (go_at_call 24; refine (kind_b _ _ _ _ _ _ _ _ _ _ _ _ _ _ _ _ rfl).mono ?_; rintro e w1 ⟨rfl, d1⟩; obtain ⟨x2, rfl⟩ := Wb.next d1; clear d1))
      go_ret
      exact ⟨ret_code (by rw [E.out]; simp [r1, r2, GrI.code]), (((Below.refl _ _).alloc (Nat.le_refl _) _).alloc (by simp) _)⟩
    | true =>
      cases r3 : GrI.regB false m with
      | false =>
        go_enter Tryd.func12, Tryd.ntmps12
        go_wp2_with (first | (go_at_call 22; refine (register_any _ _ _).mono ?_; rintro e w1 ⟨rfl, rfl⟩) | (go_at_call 23; refine (NM.out _ _ _ _ _ _ _ _).mono ?_; rintro e w1 ⟨rfl, d1⟩; obtain ⟨x1, rfl⟩ := Wb.start d1; clear d1) | (go_at_call 24; refine (kind_b _ _ _ _ _ _ _ _ _ _ _ _ _ _ _ _ rfl).mono ?_; rintro e w1 ⟨rfl, d1⟩; obtain ⟨x2, rfl⟩ := Wb.next d1; clear d1))
        go_ret
        exact ⟨ret_code (by rw [E.out]; simp [r1, r2, r3, GrI.code]), (((Below.refl _ _).alloc (Nat.le_refl _) _).alloc (by simp) _)⟩
      | true =>
        cases r4 : GrI.numB 0 0 imm with
        | false =>
          go_enter Tryd.func12, Tryd.ntmps12
          go_wp2_with (first | (go_at_call 22; refine (register_any _ _ _).mono ?_; rintro e w1 ⟨rfl, rfl⟩) | (go_at_call 23; refine (NM.out _ _ _ _ _ _ _ _).mono ?_; rintro e w1 ⟨rfl, d1⟩; obtain ⟨x1, rfl⟩ := Wb.start d1; clear d1) | (go_at_call 24; refine (kind_b _ _ _ _ _ _ _ _ _ _ _ _ _ _ _ _ rfl).mono ?_; rintro e w1 ⟨rfl, d1⟩; obtain ⟨x2, rfl⟩ := Wb.next d1; clear d1))
          go_ret
          exact ⟨ret_code (by rw [E.out]; simp [r1, r2, r3, r4, GrI.code]), KB.out x1⟩
        | true =>
          cases r5 : GrI.kindB 21 d kind 8 with
          | false =>
            go_enter Tryd.func12, Tryd.ntmps12
            go_wp2_with (first | (go_at_call 22; refine (register_any _ _ _).mono ?_; rintro e w1 ⟨rfl, rfl⟩) | (go_at_call 23; refine (NM.out _ _ _ _ _ _ _ _).mono ?_; rintro e w1 ⟨rfl, d1⟩; obtain ⟨x1, rfl⟩ := Wb.start d1; clear d1) | (go_at_call 24; refine (kind_b _ _ _ _ _ _ _ _ _ _ _ _ _ _ _ _ rfl).mono ?_; rintro e w1 ⟨rfl, d1⟩; obtain ⟨x2, rfl⟩ := Wb.next d1; clear d1))
            go_ret
            exact ⟨ret_code (by rw [E.out]; simp [r1, r2, r3, r4, r5, GrI.code]), KB.out x2⟩
          | true =>
            go_enter Tryd.func12, Tryd.ntmps12
            go_wp2_with (first | (go_at_call 22; refine (register_any _ _ _).mono ?_; rintro e w1 ⟨rfl, rfl⟩) | (go_at_call 23; refine (NM.out _ _ _ _ _ _ _ _).mono ?_; rintro e w1 ⟨rfl, d1⟩; obtain ⟨x1, rfl⟩ := Wb.start d1; clear d1) | (go_at_call 24; refine (kind_b _ _ _ _ _ _ _ _ _ _ _ _ _ _ _ _ rfl).mono ?_; rintro e w1 ⟨rfl, d1⟩; obtain ⟨x2, rfl⟩ := Wb.next d1; clear d1))
            go_ret
            exact ⟨ret_code (by rw [E.out]; simp [r1, r2, r3, r4, r5, GrI.code]), KB.out x2⟩

theorem xright_eq_22 (d n m imm kind : Int) : decide (GrI.right ⟨22, d, n, m, imm, kind⟩) = (GrI.regB false d && (GrI.regB false n && (GrI.regB false m && (GrI.numB 0 0 imm && GrI.kindB 22 d kind 0)))) := by
  rw [Bool.eq_iff_iff]
  simp [GrI.right, GrI.parts, GrI.nums, GrI.regB, GrI.numB, GrI.kindB]
  try omega

set_option maxRecDepth 100000 in
set_option maxHeartbeats 6400000 in
theorem xright_22 (d n m imm kind : Int) (w : World) (hs : ShAt w) (hb0 : -9223372036854775808 ≤ imm) (hb1 : imm ≤ 9223372036854775807) :
    Calls Tryd.prog 12 #[.agg #[.int .i64 22, .int .i64 d, .int .i64 n, .int .i64 m, .int .i64 imm, .int .i64 kind]] w fun e w' => e = .returned (.int .i64 (GrI.code (decide (GrI.right ⟨22, d, n, m, imm, kind⟩)))) ∧ Below w.heap.size w w' := by
  have E := Lib.hid (xright_eq_22 d n m imm kind)
  have NM := Lib.hid (fun wd d n m a k ka w => number_0_0 wd d n m a k ka imm w hb0 hb1)
  have e0 : (w.alloc (.cells #[.int .i64 22, .int .i64 d, .int .i64 n, .int .i64 m, .int .i64 imm, .int .i64 kind] 23)).cell? ⟨0, 198, none⟩ = some (.int .u32 3600745440) := hs.alloc _ 198 (by decide)
  have e1 : (w.alloc (.cells #[.int .i64 22, .int .i64 d, .int .i64 n, .int .i64 m, .int .i64 imm, .int .i64 kind] 23)).cell? ⟨0, 199, none⟩ = some (.bool false) := hs.alloc _ 199 (by decide)
  have e2 : (w.alloc (.cells #[.int .i64 22, .int .i64 d, .int .i64 n, .int .i64 m, .int .i64 imm, .int .i64 kind] 23)).cell? ⟨0, 200, none⟩ = some (.bool false) := hs.alloc _ 200 (by decide)
  have e3 : (w.alloc (.cells #[.int .i64 22, .int .i64 d, .int .i64 n, .int .i64 m, .int .i64 imm, .int .i64 kind] 23)).cell? ⟨0, 201, none⟩ = some (.bool false) := hs.alloc _ 201 (by decide)
  have e4 : (w.alloc (.cells #[.int .i64 22, .int .i64 d, .int .i64 n, .int .i64 m, .int .i64 imm, .int .i64 kind] 23)).cell? ⟨0, 202, none⟩ = some (.int .i64 0) := hs.alloc _ 202 (by decide)
  have e5 : (w.alloc (.cells #[.int .i64 22, .int .i64 d, .int .i64 n, .int .i64 m, .int .i64 imm, .int .i64 kind] 23)).cell? ⟨0, 203, none⟩ = some (.int .i64 0) := hs.alloc _ 203 (by decide)
  have e6 : (w.alloc (.cells #[.int .i64 22, .int .i64 d, .int .i64 n, .int .i64 m, .int .i64 imm, .int .i64 kind] 23)).cell? ⟨0, 204, none⟩ = some (.int .i64 0) := hs.alloc _ 204 (by decide)
  have e7 : (w.alloc (.cells #[.int .i64 22, .int .i64 d, .int .i64 n, .int .i64 m, .int .i64 imm, .int .i64 kind] 23)).cell? ⟨0, 205, none⟩ = some (.int .i64 0) := hs.alloc _ 205 (by decide)
  have e8 : (w.alloc (.cells #[.int .i64 22, .int .i64 d, .int .i64 n, .int .i64 m, .int .i64 imm, .int .i64 kind] 23)).cell? ⟨0, 206, none⟩ = some (.int .i64 0) := hs.alloc _ 206 (by decide)
  have a0 : ∀ x : Wb ((w.alloc (.cells #[.int .i64 22, .int .i64 d, .int .i64 n, .int .i64 m, .int .i64 imm, .int .i64 kind] 23)).alloc (.cells #[.int .u32 3600745440, .bool false, .bool false, .bool false, .int .i64 0, .int .i64 0, .int .i64 0, .int .i64 0, .int .i64 0] 40)), x.at.cell? ⟨w.heap.size, 0, none⟩ = some (.int .i64 22) := fun x => by rw [x.cell _ (by simp; omega)]; simp [World.cell?_alloc_new]
  have a1 : ∀ x : Wb ((w.alloc (.cells #[.int .i64 22, .int .i64 d, .int .i64 n, .int .i64 m, .int .i64 imm, .int .i64 kind] 23)).alloc (.cells #[.int .u32 3600745440, .bool false, .bool false, .bool false, .int .i64 0, .int .i64 0, .int .i64 0, .int .i64 0, .int .i64 0] 40)), x.at.cell? ⟨w.heap.size, 1, none⟩ = some (.int .i64 d) := fun x => by rw [x.cell _ (by simp; omega)]; simp [World.cell?_alloc_new]
  have a2 : ∀ x : Wb ((w.alloc (.cells #[.int .i64 22, .int .i64 d, .int .i64 n, .int .i64 m, .int .i64 imm, .int .i64 kind] 23)).alloc (.cells #[.int .u32 3600745440, .bool false, .bool false, .bool false, .int .i64 0, .int .i64 0, .int .i64 0, .int .i64 0, .int .i64 0] 40)), x.at.cell? ⟨w.heap.size, 2, none⟩ = some (.int .i64 n) := fun x => by rw [x.cell _ (by simp; omega)]; simp [World.cell?_alloc_new]
  have a3 : ∀ x : Wb ((w.alloc (.cells #[.int .i64 22, .int .i64 d, .int .i64 n, .int .i64 m, .int .i64 imm, .int .i64 kind] 23)).alloc (.cells #[.int .u32 3600745440, .bool false, .bool false, .bool false, .int .i64 0, .int .i64 0, .int .i64 0, .int .i64 0, .int .i64 0] 40)), x.at.cell? ⟨w.heap.size, 3, none⟩ = some (.int .i64 m) := fun x => by rw [x.cell _ (by simp; omega)]; simp [World.cell?_alloc_new]
  have a4 : ∀ x : Wb ((w.alloc (.cells #[.int .i64 22, .int .i64 d, .int .i64 n, .int .i64 m, .int .i64 imm, .int .i64 kind] 23)).alloc (.cells #[.int .u32 3600745440, .bool false, .bool false, .bool false, .int .i64 0, .int .i64 0, .int .i64 0, .int .i64 0, .int .i64 0] 40)), x.at.cell? ⟨w.heap.size, 4, none⟩ = some (.int .i64 imm) := fun x => by rw [x.cell _ (by simp; omega)]; simp [World.cell?_alloc_new]
  have a5 : ∀ x : Wb ((w.alloc (.cells #[.int .i64 22, .int .i64 d, .int .i64 n, .int .i64 m, .int .i64 imm, .int .i64 kind] 23)).alloc (.cells #[.int .u32 3600745440, .bool false, .bool false, .bool false, .int .i64 0, .int .i64 0, .int .i64 0, .int .i64 0, .int .i64 0] 40)), x.at.cell? ⟨w.heap.size, 5, none⟩ = some (.int .i64 kind) := fun x => by rw [x.cell _ (by simp; omega)]; simp [World.cell?_alloc_new]
  have b0 : ∀ x : Wb ((w.alloc (.cells #[.int .i64 22, .int .i64 d, .int .i64 n, .int .i64 m, .int .i64 imm, .int .i64 kind] 23)).alloc (.cells #[.int .u32 3600745440, .bool false, .bool false, .bool false, .int .i64 0, .int .i64 0, .int .i64 0, .int .i64 0, .int .i64 0] 40)), x.at.cell? ⟨w.heap.size + 1, 0, none⟩ = some (.int .u32 3600745440) := fun x => by rw [x.cell _ (by simp)]; simp [World.cell?_alloc_new]
  have b1 : ∀ x : Wb ((w.alloc (.cells #[.int .i64 22, .int .i64 d, .int .i64 n, .int .i64 m, .int .i64 imm, .int .i64 kind] 23)).alloc (.cells #[.int .u32 3600745440, .bool false, .bool false, .bool false, .int .i64 0, .int .i64 0, .int .i64 0, .int .i64 0, .int .i64 0] 40)), x.at.cell? ⟨w.heap.size + 1, 1, none⟩ = some (.bool false) := fun x => by rw [x.cell _ (by simp)]; simp [World.cell?_alloc_new]
  have b2 : ∀ x : Wb ((w.alloc (.cells #[.int .i64 22, .int .i64 d, .int .i64 n, .int .i64 m, .int .i64 imm, .int .i64 kind] 23)).alloc (.cells #[.int .u32 3600745440, .bool false, .bool false, .bool false, .int .i64 0, .int .i64 0, .int .i64 0, .int .i64 0, .int .i64 0] 40)), x.at.cell? ⟨w.heap.size + 1, 2, none⟩ = some (.bool false) := fun x => by rw [x.cell _ (by simp)]; simp [World.cell?_alloc_new]
  have b3 : ∀ x : Wb ((w.alloc (.cells #[.int .i64 22, .int .i64 d, .int .i64 n, .int .i64 m, .int .i64 imm, .int .i64 kind] 23)).alloc (.cells #[.int .u32 3600745440, .bool false, .bool false, .bool false, .int .i64 0, .int .i64 0, .int .i64 0, .int .i64 0, .int .i64 0] 40)), x.at.cell? ⟨w.heap.size + 1, 3, none⟩ = some (.bool false) := fun x => by rw [x.cell _ (by simp)]; simp [World.cell?_alloc_new]
  have b4 : ∀ x : Wb ((w.alloc (.cells #[.int .i64 22, .int .i64 d, .int .i64 n, .int .i64 m, .int .i64 imm, .int .i64 kind] 23)).alloc (.cells #[.int .u32 3600745440, .bool false, .bool false, .bool false, .int .i64 0, .int .i64 0, .int .i64 0, .int .i64 0, .int .i64 0] 40)), x.at.cell? ⟨w.heap.size + 1, 4, none⟩ = some (.int .i64 0) := fun x => by rw [x.cell _ (by simp)]; simp [World.cell?_alloc_new]
  have b5 : ∀ x : Wb ((w.alloc (.cells #[.int .i64 22, .int .i64 d, .int .i64 n, .int .i64 m, .int .i64 imm, .int .i64 kind] 23)).alloc (.cells #[.int .u32 3600745440, .bool false, .bool false, .bool false, .int .i64 0, .int .i64 0, .int .i64 0, .int .i64 0, .int .i64 0] 40)), x.at.cell? ⟨w.heap.size + 1, 5, none⟩ = some (.int .i64 0) := fun x => by rw [x.cell _ (by simp)]; simp [World.cell?_alloc_new]
  have b6 : ∀ x : Wb ((w.alloc (.cells #[.int .i64 22, .int .i64 d, .int .i64 n, .int .i64 m, .int .i64 imm, .int .i64 kind] 23)).alloc (.cells #[.int .u32 3600745440, .bool false, .bool false, .bool false, .int .i64 0, .int .i64 0, .int .i64 0, .int .i64 0, .int .i64 0] 40)), x.at.cell? ⟨w.heap.size + 1, 6, none⟩ = some (.int .i64 0) := fun x => by rw [x.cell _ (by simp)]; simp [World.cell?_alloc_new]
  have b7 : ∀ x : Wb ((w.alloc (.cells #[.int .i64 22, .int .i64 d, .int .i64 n, .int .i64 m, .int .i64 imm, .int .i64 kind] 23)).alloc (.cells #[.int .u32 3600745440, .bool false, .bool false, .bool false, .int .i64 0, .int .i64 0, .int .i64 0, .int .i64 0, .int .i64 0] 40)), x.at.cell? ⟨w.heap.size + 1, 7, none⟩ = some (.int .i64 0) := fun x => by rw [x.cell _ (by simp)]; simp [World.cell?_alloc_new]
  have b8 : ∀ x : Wb ((w.alloc (.cells #[.int .i64 22, .int .i64 d, .int .i64 n, .int .i64 m, .int .i64 imm, .int .i64 kind] 23)).alloc (.cells #[.int .u32 3600745440, .bool false, .bool false, .bool false, .int .i64 0, .int .i64 0, .int .i64 0, .int .i64 0, .int .i64 0] 40)), x.at.cell? ⟨w.heap.size + 1, 8, none⟩ = some (.int .i64 0) := fun x => by rw [x.cell _ (by simp)]; simp [World.cell?_alloc_new]
  have KB := Lib.hid (fun (x : Wb ((w.alloc (.cells #[.int .i64 22, .int .i64 d, .int .i64 n, .int .i64 m, .int .i64 imm, .int .i64 kind] 23)).alloc (.cells #[.int .u32 3600745440, .bool false, .bool false, .bool false, .int .i64 0, .int .i64 0, .int .i64 0, .int .i64 0, .int .i64 0] 40))) => ((((Below.refl _ _).alloc (Nat.le_refl _) _).alloc (by simp) _).trans (x.bel.mono (by simp; omega)) : Below w.heap.size w x.at))
  clear hb0 hb1 hs
  cases r1 : GrI.regB false d with
  | false =>
    go_enter Tryd.func12, Tryd.ntmps12
    go_wp2_with (first | (go_at_call 22; refine (register_any _ _ _).mono ?_; rintro e w1 ⟨rfl, rfl⟩) | (go_at_call 23; refine (NM.out _ _ _ _ _ _ _ _).mono ?_; rintro e w1 ⟨rfl, d1⟩; obtain ⟨x1, rfl⟩ := Wb.start d1; clear d1) | (go_at_call 24; refine (kind_c _ _ _ _ _ _ _ _ _ _ _ _ _ _ _ _ (by decide) (by decide) (by decide)).mono ?_; rintro e w1 ⟨rfl, d1⟩; obtain ⟨x2, rfl⟩ := Wb.next d1; clear d1))
    go_ret
    exact ⟨ret_code (by rw [E.out]; simp [r1, GrI.code]), (((Below.refl _ _).alloc (Nat.le_refl _) _).alloc (by simp) _)⟩
  | true =>
    cases r2 : GrI.regB false n with
    | false =>
      go_enter Tryd.func12, Tryd.ntmps12
      go_wp2_with (first | (go_at_call 22; refine (register_any _ _ _).mono ?_; rintro e w1 ⟨rfl, rfl⟩) | (go_at_call 23; refine (NM.out _ _ _ _ _ _ _ _).mono ?_; rintro e w1 ⟨rfl, d1⟩; obtain ⟨x1, rfl⟩ := Wb.start d1; clear d1) | (go_at_call 24; refine (kind_c _ _ _ _ _ _ _ _ _ _ _ _ _ _ _ _ (by decide) (by decide) (by decide)).mono ?_; rintro e w1 ⟨rfl, d1⟩; obtain ⟨x2, rfl⟩ := Wb.next d1; clear d1))
      go_ret
      exact ⟨ret_code (by rw [E.out]; simp [r1, r2, GrI.code]), (((Below.refl _ _).alloc (Nat.le_refl _) _).alloc (by simp) _)⟩
    | true =>
      cases r3 : GrI.regB false m with
      | false =>
        go_enter Tryd.func12, Tryd.ntmps12
        go_wp2_with (first | (go_at_call 22; refine (register_any _ _ _).mono ?_; rintro e w1 ⟨rfl, rfl⟩) | (go_at_call 23; refine (NM.out _ _ _ _ _ _ _ _).mono ?_; rintro e w1 ⟨rfl, d1⟩; obtain ⟨x1, rfl⟩ := Wb.start d1; clear d1) | (go_at_call 24; refine (kind_c _ _ _ _ _ _ _ _ _ _ _ _ _ _ _ _ (by decide) (by decide) (by decide)).mono ?_; rintro e w1 ⟨rfl, d1⟩; obtain ⟨x2, rfl⟩ := Wb.next d1; clear d1))
        go_ret
        exact ⟨ret_code (by rw [E.out]; simp [r1, r2, r3, GrI.code]), (((Below.refl _ _).alloc (Nat.le_refl _) _).alloc (by simp) _)⟩
      | true =>
        cases r4 : GrI.numB 0 0 imm with
        | false =>
          go_enter Tryd.func12, Tryd.ntmps12
          go_wp2_with (first | (go_at_call 22; refine (register_any _ _ _).mono ?_; rintro e w1 ⟨rfl, rfl⟩) | (go_at_call 23; refine (NM.out _ _ _ _ _ _ _ _).mono ?_; rintro e w1 ⟨rfl, d1⟩; obtain ⟨x1, rfl⟩ := Wb.start d1; clear d1) | (go_at_call 24; refine (kind_c _ _ _ _ _ _ _ _ _ _ _ _ _ _ _ _ (by decide) (by decide) (by decide)).mono ?_; rintro e w1 ⟨rfl, d1⟩; obtain ⟨x2, rfl⟩ := Wb.next d1; clear d1))
          go_ret
          exact ⟨ret_code (by rw [E.out]; simp [r1, r2, r3, r4, GrI.code]), KB.out x1⟩
        | true =>
          cases r5 : GrI.kindB 22 d kind 0 with
          | false =>
            go_enter Tryd.func12, Tryd.ntmps12
            go_wp2_with (first | (go_at_call 22; refine (register_any _ _ _).mono ?_; rintro e w1 ⟨rfl, rfl⟩) | (go_at_call 23; refine (NM.out _ _ _ _ _ _ _ _).mono ?_; rintro e w1 ⟨rfl, d1⟩; obtain ⟨x1, rfl⟩ := Wb.start d1; clear d1) | (go_at_call 24; refine (kind_c _ _ _ _ _ _ _ _ _ _ _ _ _ _ _ _ (by decide) (by decide) (by decide)).mono ?_; rintro e w1 ⟨rfl, d1⟩; obtain ⟨x2, rfl⟩ := Wb.next d1; clear d1))
            go_ret
            exact ⟨ret_code (by rw [E.out]; simp [r1, r2, r3, r4, r5, GrI.code]), KB.out x2⟩
          | true =>
            go_enter Tryd.func12, Tryd.ntmps12
            go_wp2_with (first | (go_at_call 22; refine (register_any _ _ _).mono ?_; rintro e w1 ⟨rfl, rfl⟩) | (go_at_call 23; refine (NM.out _ _ _ _ _ _ _ _).mono ?_; rintro e w1 ⟨rfl, d1⟩; obtain ⟨x1, rfl⟩ := Wb.start d1; clear d1) | (go_at_call 24; refine (kind_c _ _ _ _ _ _ _ _ _ _ _ _ _ _ _ _ (by decide) (by decide) (by decide)).mono ?_; rintro e w1 ⟨rfl, d1⟩; obtain ⟨x2, rfl⟩ := Wb.next d1; clear d1))
            go_ret
            exact ⟨ret_code (by rw [E.out]; simp [r1, r2, r3, r4, r5, GrI.code]), KB.out x2⟩

theorem xright_eq_23 (d n m imm kind : Int) : decide (GrI.right ⟨23, d, n, m, imm, kind⟩) = (GrI.regB true d && (GrI.regB false n && (GrI.regB false m && (GrI.numB 0 0 imm && GrI.kindB 23 d kind 3)))) := by
  rw [Bool.eq_iff_iff]
  simp [GrI.right, GrI.parts, GrI.nums, GrI.regB, GrI.numB, GrI.kindB]
  try omega

set_option maxRecDepth 100000 in
set_option maxHeartbeats 6400000 in
theorem xright_23 (d n m imm kind : Int) (w : World) (hs : ShAt w) (hb0 : -9223372036854775808 ≤ imm) (hb1 : imm ≤ 9223372036854775807) :
    Calls Tryd.prog 12 #[.agg #[.int .i64 23, .int .i64 d, .int .i64 n, .int .i64 m, .int .i64 imm, .int .i64 kind]] w fun e w' => e = .returned (.int .i64 (GrI.code (decide (GrI.right ⟨23, d, n, m, imm, kind⟩)))) ∧ Below w.heap.size w w' := by
  have E := Lib.hid (xright_eq_23 d n m imm kind)
  have NM := Lib.hid (fun wd d n m a k ka w => number_0_0 wd d n m a k ka imm w hb0 hb1)
  have e0 : (w.alloc (.cells #[.int .i64 23, .int .i64 d, .int .i64 n, .int .i64 m, .int .i64 imm, .int .i64 kind] 23)).cell? ⟨0, 207, none⟩ = some (.int .u32 3577217024) := hs.alloc _ 207 (by decide)
  have e1 : (w.alloc (.cells #[.int .i64 23, .int .i64 d, .int .i64 n, .int .i64 m, .int .i64 imm, .int .i64 kind] 23)).cell? ⟨0, 208, none⟩ = some (.bool true) := hs.alloc _ 208 (by decide)
  have e2 : (w.alloc (.cells #[.int .i64 23, .int .i64 d, .int .i64 n, .int .i64 m, .int .i64 imm, .int .i64 kind] 23)).cell? ⟨0, 209, none⟩ = some (.bool false) := hs.alloc _ 209 (by decide)
  have e3 : (w.alloc (.cells #[.int .i64 23, .int .i64 d, .int .i64 n, .int .i64 m, .int .i64 imm, .int .i64 kind] 23)).cell? ⟨0, 210, none⟩ = some (.bool false) := hs.alloc _ 210 (by decide)
  have e4 : (w.alloc (.cells #[.int .i64 23, .int .i64 d, .int .i64 n, .int .i64 m, .int .i64 imm, .int .i64 kind] 23)).cell? ⟨0, 211, none⟩ = some (.int .i64 0) := hs.alloc _ 211 (by decide)
  have e5 : (w.alloc (.cells #[.int .i64 23, .int .i64 d, .int .i64 n, .int .i64 m, .int .i64 imm, .int .i64 kind] 23)).cell? ⟨0, 212, none⟩ = some (.int .i64 0) := hs.alloc _ 212 (by decide)
  have e6 : (w.alloc (.cells #[.int .i64 23, .int .i64 d, .int .i64 n, .int .i64 m, .int .i64 imm, .int .i64 kind] 23)).cell? ⟨0, 213, none⟩ = some (.int .i64 0) := hs.alloc _ 213 (by decide)
  have e7 : (w.alloc (.cells #[.int .i64 23, .int .i64 d, .int .i64 n, .int .i64 m, .int .i64 imm, .int .i64 kind] 23)).cell? ⟨0, 214, none⟩ = some (.int .i64 3) := hs.alloc _ 214 (by decide)
  have e8 : (w.alloc (.cells #[.int .i64 23, .int .i64 d, .int .i64 n, .int .i64 m, .int .i64 imm, .int .i64 kind] 23)).cell? ⟨0, 215, none⟩ = some (.int .i64 0) := hs.alloc _ 215 (by decide)
  have a0 : ∀ x : Wb ((w.alloc (.cells #[.int .i64 23, .int .i64 d, .int .i64 n, .int .i64 m, .int .i64 imm, .int .i64 kind] 23)).alloc (.cells #[.int .u32 3577217024, .bool true, .bool false, .bool false, .int .i64 0, .int .i64 0, .int .i64 0, .int .i64 3, .int .i64 0] 40)), x.at.cell? ⟨w.heap.size, 0, none⟩ = some (.int .i64 23) := fun x => by rw [x.cell _ (by simp; omega)]; simp [World.cell?_alloc_new]
  have a1 : ∀ x : Wb ((w.alloc (.cells #[.int .i64 23, .int .i64 d, .int .i64 n, .int .i64 m, .int .i64 imm, .int .i64 kind] 23)).alloc (.cells #[.int .u32 3577217024, .bool true, .bool false, .bool false, .int .i64 0, .int .i64 0, .int .i64 0, .int .i64 3, .int .i64 0] 40)), x.at.cell? ⟨w.heap.size, 1, none⟩ = some (.int .i64 d) := fun x => by rw [x.cell _ (by simp; omega)]; simp [World.cell?_alloc_new]
  have a2 : ∀ x : Wb ((w.alloc (.cells #[.int .i64 23, .int .i64 d, .int .i64 n, .int .i64 m, .int .i64 imm, .int .i64 kind] 23)).alloc (.cells #[.int .u32 3577217024, .bool true, .bool false, .bool false, .int .i64 0, .int .i64 0, .int .i64 0, .int .i64 3, .int .i64 0] 40)), x.at.cell? ⟨w.heap.size, 2, none⟩ = some (.int .i64 n) := fun x => by rw [x.cell _ (by simp; omega)]; simp [World.cell?_alloc_new]
  have a3 : ∀ x : Wb ((w.alloc (.cells #[.int .i64 23, .int .i64 d, .int .i64 n, .int .i64 m, .int .i64 imm, .int .i64 kind] 23)).alloc (.cells #[.int .u32 3577217024, .bool true, .bool false, .bool false, .int .i64 0, .int .i64 0, .int .i64 0, .int .i64 3, .int .i64 0] 40)), x.at.cell? ⟨w.heap.size, 3, none⟩ = some (.int .i64 m) := fun x => by rw [x.cell _ (by simp; omega)]; simp [World.cell?_alloc_new]
  have a4 : ∀ x : Wb ((w.alloc (.cells #[.int .i64 23, .int .i64 d, .int .i64 n, .int .i64 m, .int .i64 imm, .int .i64 kind] 23)).alloc (.cells #[.int .u32 3577217024, .bool true, .bool false, .bool false, .int .i64 0, .int .i64 0, .int .i64 0, .int .i64 3, .int .i64 0] 40)), x.at.cell? ⟨w.heap.size, 4, none⟩ = some (.int .i64 imm) := fun x => by rw [x.cell _ (by simp; omega)]; simp [World.cell?_alloc_new]
  have a5 : ∀ x : Wb ((w.alloc (.cells #[.int .i64 23, .int .i64 d, .int .i64 n, .int .i64 m, .int .i64 imm, .int .i64 kind] 23)).alloc (.cells #[.int .u32 3577217024, .bool true, .bool false, .bool false, .int .i64 0, .int .i64 0, .int .i64 0, .int .i64 3, .int .i64 0] 40)), x.at.cell? ⟨w.heap.size, 5, none⟩ = some (.int .i64 kind) := fun x => by rw [x.cell _ (by simp; omega)]; simp [World.cell?_alloc_new]
  have b0 : ∀ x : Wb ((w.alloc (.cells #[.int .i64 23, .int .i64 d, .int .i64 n, .int .i64 m, .int .i64 imm, .int .i64 kind] 23)).alloc (.cells #[.int .u32 3577217024, .bool true, .bool false, .bool false, .int .i64 0, .int .i64 0, .int .i64 0, .int .i64 3, .int .i64 0] 40)), x.at.cell? ⟨w.heap.size + 1, 0, none⟩ = some (.int .u32 3577217024) := fun x => by rw [x.cell _ (by simp)]; simp [World.cell?_alloc_new]
  have b1 : ∀ x : Wb ((w.alloc (.cells #[.int .i64 23, .int .i64 d, .int .i64 n, .int .i64 m, .int .i64 imm, .int .i64 kind] 23)).alloc (.cells #[.int .u32 3577217024, .bool true, .bool false, .bool false, .int .i64 0, .int .i64 0, .int .i64 0, .int .i64 3, .int .i64 0] 40)), x.at.cell? ⟨w.heap.size + 1, 1, none⟩ = some (.bool true) := fun x => by rw [x.cell _ (by simp)]; simp [World.cell?_alloc_new]
  have b2 : ∀ x : Wb ((w.alloc (.cells #[.int .i64 23, .int .i64 d, .int .i64 n, .int .i64 m, .int .i64 imm, .int .i64 kind] 23)).alloc (.cells #[.int .u32 3577217024, .bool true, .bool false, .bool false, .int .i64 0, .int .i64 0, .int .i64 0, .int .i64 3, .int .i64 0] 40)), x.at.cell? ⟨w.heap.size + 1, 2, none⟩ = some (.bool false) := fun x => by rw [x.cell _ (by simp)]; simp [World.cell?_alloc_new]
  have b3 : ∀ x : Wb ((w.alloc (.cells #[.int .i64 23, .int .i64 d, .int .i64 n, .int .i64 m, .int .i64 imm, .int .i64 kind] 23)).alloc (.cells #[.int .u32 3577217024, .bool true, .bool false, .bool false, .int .i64 0, .int .i64 0, .int .i64 0, .int .i64 3, .int .i64 0] 40)), x.at.cell? ⟨w.heap.size + 1, 3, none⟩ = some (.bool false) := fun x => by rw [x.cell _ (by simp)]; simp [World.cell?_alloc_new]
  have b4 : ∀ x : Wb ((w.alloc (.cells #[.int .i64 23, .int .i64 d, .int .i64 n, .int .i64 m, .int .i64 imm, .int .i64 kind] 23)).alloc (.cells #[.int .u32 3577217024, .bool true, .bool false, .bool false, .int .i64 0, .int .i64 0, .int .i64 0, .int .i64 3, .int .i64 0] 40)), x.at.cell? ⟨w.heap.size + 1, 4, none⟩ = some (.int .i64 0) := fun x => by rw [x.cell _ (by simp)]; simp [World.cell?_alloc_new]
  have b5 : ∀ x : Wb ((w.alloc (.cells #[.int .i64 23, .int .i64 d, .int .i64 n, .int .i64 m, .int .i64 imm, .int .i64 kind] 23)).alloc (.cells #[.int .u32 3577217024, .bool true, .bool false, .bool false, .int .i64 0, .int .i64 0, .int .i64 0, .int .i64 3, .int .i64 0] 40)), x.at.cell? ⟨w.heap.size + 1, 5, none⟩ = some (.int .i64 0) := fun x => by rw [x.cell _ (by simp)]; simp [World.cell?_alloc_new]
  have b6 : ∀ x : Wb ((w.alloc (.cells #[.int .i64 23, .int .i64 d, .int .i64 n, .int .i64 m, .int .i64 imm, .int .i64 kind] 23)).alloc (.cells #[.int .u32 3577217024, .bool true, .bool false, .bool false, .int .i64 0, .int .i64 0, .int .i64 0, .int .i64 3, .int .i64 0] 40)), x.at.cell? ⟨w.heap.size + 1, 6, none⟩ = some (.int .i64 0) := fun x => by rw [x.cell _ (by simp)]; simp [World.cell?_alloc_new]
  have b7 : ∀ x : Wb ((w.alloc (.cells #[.int .i64 23, .int .i64 d, .int .i64 n, .int .i64 m, .int .i64 imm, .int .i64 kind] 23)).alloc (.cells #[.int .u32 3577217024, .bool true, .bool false, .bool false, .int .i64 0, .int .i64 0, .int .i64 0, .int .i64 3, .int .i64 0] 40)), x.at.cell? ⟨w.heap.size + 1, 7, none⟩ = some (.int .i64 3) := fun x => by rw [x.cell _ (by simp)]; simp [World.cell?_alloc_new]
  have b8 : ∀ x : Wb ((w.alloc (.cells #[.int .i64 23, .int .i64 d, .int .i64 n, .int .i64 m, .int .i64 imm, .int .i64 kind] 23)).alloc (.cells #[.int .u32 3577217024, .bool true, .bool false, .bool false, .int .i64 0, .int .i64 0, .int .i64 0, .int .i64 3, .int .i64 0] 40)), x.at.cell? ⟨w.heap.size + 1, 8, none⟩ = some (.int .i64 0) := fun x => by rw [x.cell _ (by simp)]; simp [World.cell?_alloc_new]
  have KB := Lib.hid (fun (x : Wb ((w.alloc (.cells #[.int .i64 23, .int .i64 d, .int .i64 n, .int .i64 m, .int .i64 imm, .int .i64 kind] 23)).alloc (.cells #[.int .u32 3577217024, .bool true, .bool false, .bool false, .int .i64 0, .int .i64 0, .int .i64 0, .int .i64 3, .int .i64 0] 40))) => ((((Below.refl _ _).alloc (Nat.le_refl _) _).alloc (by simp) _).trans (x.bel.mono (by simp; omega)) : Below w.heap.size w x.at))
  clear hb0 hb1 hs
  cases r1 : GrI.regB true d with
  | false =>
    go_enter Tryd.func12, Tryd.ntmps12
    go_wp2_with (first | (go_at_call 22; refine (register_any _ _ _).mono ?_; rintro e w1 ⟨rfl, rfl⟩) | (go_at_call 23; refine (NM.out _ _ _ _ _ _ _ _).mono ?_; rintro e w1 ⟨rfl, d1⟩; obtain ⟨x1, rfl⟩ := Wb.start d1; clear d1) | (go_at_call 24; refine (kind_c _ _ _ _ _ _ _ _ _ _ _ _ _ _ _ _ (by decide) (by decide) (by decide)).mono ?_; rintro e w1 ⟨rfl, d1⟩; obtain ⟨x2, rfl⟩ := Wb.next d1; clear d1))
    go_ret
    exact ⟨ret_code (by rw [E.out]; simp [r1, GrI.code]), (((Below.refl _ _).alloc (Nat.le_refl _) _).alloc (by simp) _)⟩
  | true =>
    cases r2 : GrI.regB false n with
    | false =>
      go_enter Tryd.func12, Tryd.ntmps12
      go_wp2_with (first | (go_at_call 22; refine (register_any _ _ _).mono ?_; rintro e w1 ⟨rfl, rfl⟩) | (go_at_call 23; refine (NM.out _ _ _ _ _ _ _ _).mono ?_; rintro e w1 ⟨rfl, d1⟩; obtain ⟨x1, rfl⟩ := Wb.start d1; clear d1) | (go_at_call 24; refine (kind_c _ _ _ _ _ _ _ _ _ _ _ _ _ _ _ _ (by decide) (by decide) (by decide)).mono ?_; rintro e w1 ⟨rfl, d1⟩; obtain ⟨x2, rfl⟩ := Wb.next d1; clear d1))
      go_ret
      exact ⟨ret_code (by rw [E.out]; simp [r1, r2, GrI.code]), (((Below.refl _ _).alloc (Nat.le_refl _) _).alloc (by simp) _)⟩
    | true =>
      cases r3 : GrI.regB false m with
      | false =>
        go_enter Tryd.func12, Tryd.ntmps12
        go_wp2_with (first | (go_at_call 22; refine (register_any _ _ _).mono ?_; rintro e w1 ⟨rfl, rfl⟩) | (go_at_call 23; refine (NM.out _ _ _ _ _ _ _ _).mono ?_; rintro e w1 ⟨rfl, d1⟩; obtain ⟨x1, rfl⟩ := Wb.start d1; clear d1) | (go_at_call 24; refine (kind_c _ _ _ _ _ _ _ _ _ _ _ _ _ _ _ _ (by decide) (by decide) (by decide)).mono ?_; rintro e w1 ⟨rfl, d1⟩; obtain ⟨x2, rfl⟩ := Wb.next d1; clear d1))
        go_ret
        exact ⟨ret_code (by rw [E.out]; simp [r1, r2, r3, GrI.code]), (((Below.refl _ _).alloc (Nat.le_refl _) _).alloc (by simp) _)⟩
      | true =>
        cases r4 : GrI.numB 0 0 imm with
        | false =>
          go_enter Tryd.func12, Tryd.ntmps12
          go_wp2_with (first | (go_at_call 22; refine (register_any _ _ _).mono ?_; rintro e w1 ⟨rfl, rfl⟩) | (go_at_call 23; refine (NM.out _ _ _ _ _ _ _ _).mono ?_; rintro e w1 ⟨rfl, d1⟩; obtain ⟨x1, rfl⟩ := Wb.start d1; clear d1) | (go_at_call 24; refine (kind_c _ _ _ _ _ _ _ _ _ _ _ _ _ _ _ _ (by decide) (by decide) (by decide)).mono ?_; rintro e w1 ⟨rfl, d1⟩; obtain ⟨x2, rfl⟩ := Wb.next d1; clear d1))
          go_ret
          exact ⟨ret_code (by rw [E.out]; simp [r1, r2, r3, r4, GrI.code]), KB.out x1⟩
        | true =>
          cases r5 : GrI.kindB 23 d kind 3 with
          | false =>
            go_enter Tryd.func12, Tryd.ntmps12
            go_wp2_with (first | (go_at_call 22; refine (register_any _ _ _).mono ?_; rintro e w1 ⟨rfl, rfl⟩) | (go_at_call 23; refine (NM.out _ _ _ _ _ _ _ _).mono ?_; rintro e w1 ⟨rfl, d1⟩; obtain ⟨x1, rfl⟩ := Wb.start d1; clear d1) | (go_at_call 24; refine (kind_c _ _ _ _ _ _ _ _ _ _ _ _ _ _ _ _ (by decide) (by decide) (by decide)).mono ?_; rintro e w1 ⟨rfl, d1⟩; obtain ⟨x2, rfl⟩ := Wb.next d1; clear d1))
            go_ret
            exact ⟨ret_code (by rw [E.out]; simp [r1, r2, r3, r4, r5, GrI.code]), KB.out x2⟩
          | true =>
            go_enter Tryd.func12, Tryd.ntmps12
            go_wp2_with (first | (go_at_call 22; refine (register_any _ _ _).mono ?_; rintro e w1 ⟨rfl, rfl⟩) | (go_at_call 23; refine (NM.out _ _ _ _ _ _ _ _).mono ?_; rintro e w1 ⟨rfl, d1⟩; obtain ⟨x1, rfl⟩ := Wb.start d1; clear d1) | (go_at_call 24; refine (kind_c _ _ _ _ _ _ _ _ _ _ _ _ _ _ _ _ (by decide) (by decide) (by decide)).mono ?_; rintro e w1 ⟨rfl, d1⟩; obtain ⟨x2, rfl⟩ := Wb.next d1; clear d1))
            go_ret
            exact ⟨ret_code (by rw [E.out]; simp [r1, r2, r3, r4, r5, GrI.code]), KB.out x2⟩

end Go.Proofs.YtnehdgapcgbdeaaDoor
