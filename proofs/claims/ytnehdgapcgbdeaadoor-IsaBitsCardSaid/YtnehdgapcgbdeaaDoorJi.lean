/-
  Layer 3, the code's walks: Encode, operations 1 to 6.
-/
import Derived.Test.YtnehdgapcgbdeaaDoorJh
import Derived.Test.YtnehdgapcgbdeaaDoorJd
import Derived.Test.YtnehdgapcgbdeaaDoorBr
import Derived.Test.YtnehdgapcgbdeaaDoorIr
set_option linter.unusedSimpArgs false
set_option linter.unusedVariables false
namespace Go.Proofs.YtnehdgapcgbdeaaDoor
open Go.RowKit

theorem enc_bd_1 (hr : GrI.right ⟨1, 0, 0, 0, 0, 0⟩) : True := by
  simp [GrI.right, GrI.parts, GrI.nums] at hr
  first | trivial | omega

set_option maxRecDepth 100000 in
set_option maxHeartbeats 6400000 in
theorem xenc_1 (w : World) (hs : ShAt w) (hr : GrI.right ⟨1, 0, 0, 0, 0, 0⟩) :
    Calls Tryd.prog 10 #[.agg #[.int .i64 1, .int .i64 0, .int .i64 0, .int .i64 0, .int .i64 0, .int .i64 0]] w fun e w' => e = .returned (.tuple #[.int .u32 (GrI.word ⟨1, 0, 0, 0, 0, 0⟩), .int .i64 0]) ∧ Below w.heap.size w w' := by
  have hb := enc_bd_1 hr
  have HBD := Lib.hid hb
  have RI := Lib.hid (fun w hs => xright_1 0 0 0 0 0 w hs (by omega) (by omega))
  rw [show GrI.code (decide (GrI.right ⟨1, 0, 0, 0, 0, 0⟩)) = 0 by simp [GrI.code, hr]] at RI
  clear hr
  have HS := Lib.hid hs
  clear hs
  obtain ⟨WW, hWW⟩ : ∃ WW, WW = GrI.word ⟨1, 0, 0, 0, 0, 0⟩ := ⟨_, rfl⟩
  rw [← hWW]
  have HW := Lib.hid hWW
  clear hWW
  go_enter Tryd.func10, Tryd.ntmps10
  go_wp2_with fail
  refine (RI.out _ (HS.out.alloc _)).mono ?_
  rintro e w1 ⟨rfl, b1⟩
  have HS1 := Lib.hid ((HS.out.alloc _).below b1)
  obtain ⟨x1, rfl⟩ := Wb.start b1
  clear b1
  have e0 : x1.at.cell? ⟨0, 9, none⟩ = some (.int .u32 3573751839) := HS1.out 9 (by decide)
  have e1 : x1.at.cell? ⟨0, 10, none⟩ = some (.bool false) := HS1.out 10 (by decide)
  have e2 : x1.at.cell? ⟨0, 11, none⟩ = some (.bool false) := HS1.out 11 (by decide)
  have e3 : x1.at.cell? ⟨0, 12, none⟩ = some (.bool false) := HS1.out 12 (by decide)
  have e4 : x1.at.cell? ⟨0, 13, none⟩ = some (.int .i64 0) := HS1.out 13 (by decide)
  have e5 : x1.at.cell? ⟨0, 14, none⟩ = some (.int .i64 0) := HS1.out 14 (by decide)
  have e6 : x1.at.cell? ⟨0, 15, none⟩ = some (.int .i64 0) := HS1.out 15 (by decide)
  have e7 : x1.at.cell? ⟨0, 16, none⟩ = some (.int .i64 0) := HS1.out 16 (by decide)
  have e8 : x1.at.cell? ⟨0, 17, none⟩ = some (.int .i64 0) := HS1.out 17 (by decide)
  have k0 : x1.at.cell? ⟨w.heap.size, 0, none⟩ = some (.int .i64 1) := by rw [x1.cell _ (by simp)]; simp [World.cell?_alloc_new]
  have lt1 : w.heap.size < x1.at.heap.size := by have := x1.size; simp at this; omega
  have a0 : ∀ z : Wb (x1.at.alloc (.cells #[.int .u32 3573751839, .bool false, .bool false, .bool false, .int .i64 0, .int .i64 0, .int .i64 0, .int .i64 0, .int .i64 0] 40)), z.at.cell? ⟨w.heap.size, 0, none⟩ = some (.int .i64 1) := fun z => (z.prev _ lt1).trans (by rw [x1.cell _ (by simp)]; simp [World.cell?_alloc_new])
  have a1 : ∀ z : Wb (x1.at.alloc (.cells #[.int .u32 3573751839, .bool false, .bool false, .bool false, .int .i64 0, .int .i64 0, .int .i64 0, .int .i64 0, .int .i64 0] 40)), z.at.cell? ⟨w.heap.size, 1, none⟩ = some (.int .i64 0) := fun z => (z.prev _ lt1).trans (by rw [x1.cell _ (by simp)]; simp [World.cell?_alloc_new])
  have a2 : ∀ z : Wb (x1.at.alloc (.cells #[.int .u32 3573751839, .bool false, .bool false, .bool false, .int .i64 0, .int .i64 0, .int .i64 0, .int .i64 0, .int .i64 0] 40)), z.at.cell? ⟨w.heap.size, 2, none⟩ = some (.int .i64 0) := fun z => (z.prev _ lt1).trans (by rw [x1.cell _ (by simp)]; simp [World.cell?_alloc_new])
  have a3 : ∀ z : Wb (x1.at.alloc (.cells #[.int .u32 3573751839, .bool false, .bool false, .bool false, .int .i64 0, .int .i64 0, .int .i64 0, .int .i64 0, .int .i64 0] 40)), z.at.cell? ⟨w.heap.size, 3, none⟩ = some (.int .i64 0) := fun z => (z.prev _ lt1).trans (by rw [x1.cell _ (by simp)]; simp [World.cell?_alloc_new])
  have a4 : ∀ z : Wb (x1.at.alloc (.cells #[.int .u32 3573751839, .bool false, .bool false, .bool false, .int .i64 0, .int .i64 0, .int .i64 0, .int .i64 0, .int .i64 0] 40)), z.at.cell? ⟨w.heap.size, 4, none⟩ = some (.int .i64 0) := fun z => (z.prev _ lt1).trans (by rw [x1.cell _ (by simp)]; simp [World.cell?_alloc_new])
  have a5 : ∀ z : Wb (x1.at.alloc (.cells #[.int .u32 3573751839, .bool false, .bool false, .bool false, .int .i64 0, .int .i64 0, .int .i64 0, .int .i64 0, .int .i64 0] 40)), z.at.cell? ⟨w.heap.size, 5, none⟩ = some (.int .i64 0) := fun z => (z.prev _ lt1).trans (by rw [x1.cell _ (by simp)]; simp [World.cell?_alloc_new])
  have b0 : ∀ z : Wb (x1.at.alloc (.cells #[.int .u32 3573751839, .bool false, .bool false, .bool false, .int .i64 0, .int .i64 0, .int .i64 0, .int .i64 0, .int .i64 0] 40)), z.at.cell? ⟨x1.at.heap.size, 0, none⟩ = some (.int .u32 3573751839) := fun z => by rw [z.cell _ (by simp)]; simp [World.cell?_alloc_new]
  have b1 : ∀ z : Wb (x1.at.alloc (.cells #[.int .u32 3573751839, .bool false, .bool false, .bool false, .int .i64 0, .int .i64 0, .int .i64 0, .int .i64 0, .int .i64 0] 40)), z.at.cell? ⟨x1.at.heap.size, 1, none⟩ = some (.bool false) := fun z => by rw [z.cell _ (by simp)]; simp [World.cell?_alloc_new]
  have b2 : ∀ z : Wb (x1.at.alloc (.cells #[.int .u32 3573751839, .bool false, .bool false, .bool false, .int .i64 0, .int .i64 0, .int .i64 0, .int .i64 0, .int .i64 0] 40)), z.at.cell? ⟨x1.at.heap.size, 2, none⟩ = some (.bool false) := fun z => by rw [z.cell _ (by simp)]; simp [World.cell?_alloc_new]
  have b3 : ∀ z : Wb (x1.at.alloc (.cells #[.int .u32 3573751839, .bool false, .bool false, .bool false, .int .i64 0, .int .i64 0, .int .i64 0, .int .i64 0, .int .i64 0] 40)), z.at.cell? ⟨x1.at.heap.size, 3, none⟩ = some (.bool false) := fun z => by rw [z.cell _ (by simp)]; simp [World.cell?_alloc_new]
  have b4 : ∀ z : Wb (x1.at.alloc (.cells #[.int .u32 3573751839, .bool false, .bool false, .bool false, .int .i64 0, .int .i64 0, .int .i64 0, .int .i64 0, .int .i64 0] 40)), z.at.cell? ⟨x1.at.heap.size, 4, none⟩ = some (.int .i64 0) := fun z => by rw [z.cell _ (by simp)]; simp [World.cell?_alloc_new]
  have b5 : ∀ z : Wb (x1.at.alloc (.cells #[.int .u32 3573751839, .bool false, .bool false, .bool false, .int .i64 0, .int .i64 0, .int .i64 0, .int .i64 0, .int .i64 0] 40)), z.at.cell? ⟨x1.at.heap.size, 5, none⟩ = some (.int .i64 0) := fun z => by rw [z.cell _ (by simp)]; simp [World.cell?_alloc_new]
  have b6 : ∀ z : Wb (x1.at.alloc (.cells #[.int .u32 3573751839, .bool false, .bool false, .bool false, .int .i64 0, .int .i64 0, .int .i64 0, .int .i64 0, .int .i64 0] 40)), z.at.cell? ⟨x1.at.heap.size, 6, none⟩ = some (.int .i64 0) := fun z => by rw [z.cell _ (by simp)]; simp [World.cell?_alloc_new]
  have b7 : ∀ z : Wb (x1.at.alloc (.cells #[.int .u32 3573751839, .bool false, .bool false, .bool false, .int .i64 0, .int .i64 0, .int .i64 0, .int .i64 0, .int .i64 0] 40)), z.at.cell? ⟨x1.at.heap.size, 7, none⟩ = some (.int .i64 0) := fun z => by rw [z.cell _ (by simp)]; simp [World.cell?_alloc_new]
  have b8 : ∀ z : Wb (x1.at.alloc (.cells #[.int .u32 3573751839, .bool false, .bool false, .bool false, .int .i64 0, .int .i64 0, .int .i64 0, .int .i64 0, .int .i64 0] 40)), z.at.cell? ⟨x1.at.heap.size, 8, none⟩ = some (.int .i64 0) := fun z => by rw [z.cell _ (by simp)]; simp [World.cell?_alloc_new]
  have KB := Lib.hid (fun (z : Wb (x1.at.alloc (.cells #[.int .u32 3573751839, .bool false, .bool false, .bool false, .int .i64 0, .int .i64 0, .int .i64 0, .int .i64 0, .int .i64 0] 40))) => (((((Below.refl _ _).alloc (Nat.le_refl _) _).trans (x1.bel.mono (by simp))).alloc (by omega) _).trans (z.bel.mono (by simp; omega)) : Below w.heap.size w z.at))
  go_upto_region 5 with fail
  obtain ⟨y0, hy⟩ : ∃ y : Wb (x1.at.alloc (.cells #[.int .u32 3573751839, .bool false, .bool false, .bool false, .int .i64 0, .int .i64 0, .int .i64 0, .int .i64 0, .int .i64 0] 40)), (x1.at.alloc (.cells #[.int .u32 3573751839, .bool false, .bool false, .bool false, .int .i64 0, .int .i64 0, .int .i64 0, .int .i64 0, .int .i64 0] 40)) = y.at := ⟨⟨_, Below.refl _ _⟩, rfl⟩
  rw [hy]
  clear hy
  go_wp2_with fail
  refine (named_no 1 _ _ _ _ _ _ rfl rfl).mono ?_
  rintro e w1 ⟨rfl, q1⟩
  obtain ⟨y3, rfl⟩ := Wb.next q1
  clear q1
  go_wp2
  go_ret2
  refine ⟨ret_t ?_, KB.out y3⟩
  rw [HW.out]
  go_light
  clear KB RI HS HS1 HW a0 a1 a2 a3 a4 a5 b0 b1 b2 b3 b4 b5 b6 b7 b8 e0 e1 e2 e3 e4 e5 e6 e7 e8 k0
  exact encw_1 HBD.out

theorem enc_bd_2 (d n imm : Int) (hr : GrI.right ⟨2, d, n, 0, imm, 0⟩) : 0 ≤ d ∧ d ≤ 31 ∧ 0 ≤ n ∧ n ≤ 31 ∧ 0 ≤ imm ∧ imm ≤ 32760 ∧ imm % 8 = 0 := by
  simp [GrI.right, GrI.parts, GrI.nums] at hr
  first | trivial | omega

set_option maxRecDepth 100000 in
set_option maxHeartbeats 6400000 in
theorem xenc_2 (d n imm : Int) (w : World) (hs : ShAt w) (hr : GrI.right ⟨2, d, n, 0, imm, 0⟩) :
    Calls Tryd.prog 10 #[.agg #[.int .i64 2, .int .i64 d, .int .i64 n, .int .i64 0, .int .i64 imm, .int .i64 0]] w fun e w' => e = .returned (.tuple #[.int .u32 (GrI.word ⟨2, d, n, 0, imm, 0⟩), .int .i64 0]) ∧ Below w.heap.size w w' := by
  have hb := enc_bd_2 d n imm hr
  have HBD := Lib.hid hb
  have RI := Lib.hid (fun w hs => xright_2 d n 0 imm 0 w hs (by omega) (by omega))
  rw [show GrI.code (decide (GrI.right ⟨2, d, n, 0, imm, 0⟩)) = 0 by simp [GrI.code, hr]] at RI
  clear hr
  have HS := Lib.hid hs
  clear hs
  obtain ⟨WW, hWW⟩ : ∃ WW, WW = GrI.word ⟨2, d, n, 0, imm, 0⟩ := ⟨_, rfl⟩
  rw [← hWW]
  have HW := Lib.hid hWW
  clear hWW
  go_enter Tryd.func10, Tryd.ntmps10
  go_wp2_with fail
  refine (RI.out _ (HS.out.alloc _)).mono ?_
  rintro e w1 ⟨rfl, b1⟩
  have HS1 := Lib.hid ((HS.out.alloc _).below b1)
  obtain ⟨x1, rfl⟩ := Wb.start b1
  clear b1
  have e0 : x1.at.cell? ⟨0, 18, none⟩ = some (.int .u32 4181721088) := HS1.out 18 (by decide)
  have e1 : x1.at.cell? ⟨0, 19, none⟩ = some (.bool true) := HS1.out 19 (by decide)
  have e2 : x1.at.cell? ⟨0, 20, none⟩ = some (.bool true) := HS1.out 20 (by decide)
  have e3 : x1.at.cell? ⟨0, 21, none⟩ = some (.bool false) := HS1.out 21 (by decide)
  have e4 : x1.at.cell? ⟨0, 22, none⟩ = some (.int .i64 12) := HS1.out 22 (by decide)
  have e5 : x1.at.cell? ⟨0, 23, none⟩ = some (.int .i64 10) := HS1.out 23 (by decide)
  have e6 : x1.at.cell? ⟨0, 24, none⟩ = some (.int .i64 8) := HS1.out 24 (by decide)
  have e7 : x1.at.cell? ⟨0, 25, none⟩ = some (.int .i64 0) := HS1.out 25 (by decide)
  have e8 : x1.at.cell? ⟨0, 26, none⟩ = some (.int .i64 0) := HS1.out 26 (by decide)
  have k0 : x1.at.cell? ⟨w.heap.size, 0, none⟩ = some (.int .i64 2) := by rw [x1.cell _ (by simp)]; simp [World.cell?_alloc_new]
  have lt1 : w.heap.size < x1.at.heap.size := by have := x1.size; simp at this; omega
  have a0 : ∀ z : Wb (x1.at.alloc (.cells #[.int .u32 4181721088, .bool true, .bool true, .bool false, .int .i64 12, .int .i64 10, .int .i64 8, .int .i64 0, .int .i64 0] 40)), z.at.cell? ⟨w.heap.size, 0, none⟩ = some (.int .i64 2) := fun z => (z.prev _ lt1).trans (by rw [x1.cell _ (by simp)]; simp [World.cell?_alloc_new])
  have a1 : ∀ z : Wb (x1.at.alloc (.cells #[.int .u32 4181721088, .bool true, .bool true, .bool false, .int .i64 12, .int .i64 10, .int .i64 8, .int .i64 0, .int .i64 0] 40)), z.at.cell? ⟨w.heap.size, 1, none⟩ = some (.int .i64 d) := fun z => (z.prev _ lt1).trans (by rw [x1.cell _ (by simp)]; simp [World.cell?_alloc_new])
  have a2 : ∀ z : Wb (x1.at.alloc (.cells #[.int .u32 4181721088, .bool true, .bool true, .bool false, .int .i64 12, .int .i64 10, .int .i64 8, .int .i64 0, .int .i64 0] 40)), z.at.cell? ⟨w.heap.size, 2, none⟩ = some (.int .i64 n) := fun z => (z.prev _ lt1).trans (by rw [x1.cell _ (by simp)]; simp [World.cell?_alloc_new])
  have a3 : ∀ z : Wb (x1.at.alloc (.cells #[.int .u32 4181721088, .bool true, .bool true, .bool false, .int .i64 12, .int .i64 10, .int .i64 8, .int .i64 0, .int .i64 0] 40)), z.at.cell? ⟨w.heap.size, 3, none⟩ = some (.int .i64 0) := fun z => (z.prev _ lt1).trans (by rw [x1.cell _ (by simp)]; simp [World.cell?_alloc_new])
  have a4 : ∀ z : Wb (x1.at.alloc (.cells #[.int .u32 4181721088, .bool true, .bool true, .bool false, .int .i64 12, .int .i64 10, .int .i64 8, .int .i64 0, .int .i64 0] 40)), z.at.cell? ⟨w.heap.size, 4, none⟩ = some (.int .i64 imm) := fun z => (z.prev _ lt1).trans (by rw [x1.cell _ (by simp)]; simp [World.cell?_alloc_new])
  have a5 : ∀ z : Wb (x1.at.alloc (.cells #[.int .u32 4181721088, .bool true, .bool true, .bool false, .int .i64 12, .int .i64 10, .int .i64 8, .int .i64 0, .int .i64 0] 40)), z.at.cell? ⟨w.heap.size, 5, none⟩ = some (.int .i64 0) := fun z => (z.prev _ lt1).trans (by rw [x1.cell _ (by simp)]; simp [World.cell?_alloc_new])
  have b0 : ∀ z : Wb (x1.at.alloc (.cells #[.int .u32 4181721088, .bool true, .bool true, .bool false, .int .i64 12, .int .i64 10, .int .i64 8, .int .i64 0, .int .i64 0] 40)), z.at.cell? ⟨x1.at.heap.size, 0, none⟩ = some (.int .u32 4181721088) := fun z => by rw [z.cell _ (by simp)]; simp [World.cell?_alloc_new]
  have b1 : ∀ z : Wb (x1.at.alloc (.cells #[.int .u32 4181721088, .bool true, .bool true, .bool false, .int .i64 12, .int .i64 10, .int .i64 8, .int .i64 0, .int .i64 0] 40)), z.at.cell? ⟨x1.at.heap.size, 1, none⟩ = some (.bool true) := fun z => by rw [z.cell _ (by simp)]; simp [World.cell?_alloc_new]
  have b2 : ∀ z : Wb (x1.at.alloc (.cells #[.int .u32 4181721088, .bool true, .bool true, .bool false, .int .i64 12, .int .i64 10, .int .i64 8, .int .i64 0, .int .i64 0] 40)), z.at.cell? ⟨x1.at.heap.size, 2, none⟩ = some (.bool true) := fun z => by rw [z.cell _ (by simp)]; simp [World.cell?_alloc_new]
  have b3 : ∀ z : Wb (x1.at.alloc (.cells #[.int .u32 4181721088, .bool true, .bool true, .bool false, .int .i64 12, .int .i64 10, .int .i64 8, .int .i64 0, .int .i64 0] 40)), z.at.cell? ⟨x1.at.heap.size, 3, none⟩ = some (.bool false) := fun z => by rw [z.cell _ (by simp)]; simp [World.cell?_alloc_new]
  have b4 : ∀ z : Wb (x1.at.alloc (.cells #[.int .u32 4181721088, .bool true, .bool true, .bool false, .int .i64 12, .int .i64 10, .int .i64 8, .int .i64 0, .int .i64 0] 40)), z.at.cell? ⟨x1.at.heap.size, 4, none⟩ = some (.int .i64 12) := fun z => by rw [z.cell _ (by simp)]; simp [World.cell?_alloc_new]
  have b5 : ∀ z : Wb (x1.at.alloc (.cells #[.int .u32 4181721088, .bool true, .bool true, .bool false, .int .i64 12, .int .i64 10, .int .i64 8, .int .i64 0, .int .i64 0] 40)), z.at.cell? ⟨x1.at.heap.size, 5, none⟩ = some (.int .i64 10) := fun z => by rw [z.cell _ (by simp)]; simp [World.cell?_alloc_new]
  have b6 : ∀ z : Wb (x1.at.alloc (.cells #[.int .u32 4181721088, .bool true, .bool true, .bool false, .int .i64 12, .int .i64 10, .int .i64 8, .int .i64 0, .int .i64 0] 40)), z.at.cell? ⟨x1.at.heap.size, 6, none⟩ = some (.int .i64 8) := fun z => by rw [z.cell _ (by simp)]; simp [World.cell?_alloc_new]
  have b7 : ∀ z : Wb (x1.at.alloc (.cells #[.int .u32 4181721088, .bool true, .bool true, .bool false, .int .i64 12, .int .i64 10, .int .i64 8, .int .i64 0, .int .i64 0] 40)), z.at.cell? ⟨x1.at.heap.size, 7, none⟩ = some (.int .i64 0) := fun z => by rw [z.cell _ (by simp)]; simp [World.cell?_alloc_new]
  have b8 : ∀ z : Wb (x1.at.alloc (.cells #[.int .u32 4181721088, .bool true, .bool true, .bool false, .int .i64 12, .int .i64 10, .int .i64 8, .int .i64 0, .int .i64 0] 40)), z.at.cell? ⟨x1.at.heap.size, 8, none⟩ = some (.int .i64 0) := fun z => by rw [z.cell _ (by simp)]; simp [World.cell?_alloc_new]
  have KB := Lib.hid (fun (z : Wb (x1.at.alloc (.cells #[.int .u32 4181721088, .bool true, .bool true, .bool false, .int .i64 12, .int .i64 10, .int .i64 8, .int .i64 0, .int .i64 0] 40))) => (((((Below.refl _ _).alloc (Nat.le_refl _) _).trans (x1.bel.mono (by simp))).alloc (by omega) _).trans (z.bel.mono (by simp; omega)) : Below w.heap.size w z.at))
  go_upto_region 5 with fail
  obtain ⟨y0, hy⟩ : ∃ y : Wb (x1.at.alloc (.cells #[.int .u32 4181721088, .bool true, .bool true, .bool false, .int .i64 12, .int .i64 10, .int .i64 8, .int .i64 0, .int .i64 0] 40)), (x1.at.alloc (.cells #[.int .u32 4181721088, .bool true, .bool true, .bool false, .int .i64 12, .int .i64 10, .int .i64 8, .int .i64 0, .int .i64 0] 40)) = y.at := ⟨⟨_, Below.refl _ _⟩, rfl⟩
  rw [hy]
  clear hy
  go_wp2_with fail
  have j4 : ∀ z : Wb y0.at, z.at.cell? ⟨w.heap.size, 4, none⟩ = some (.int .i64 imm) := y0.lift a4
  have f0 : ∀ z : Wb y0.at, z.at.cell? ⟨x1.at.heap.size, 0, none⟩ = some (.int .u32 4181721088) := y0.lift b0
  have f1 : ∀ z : Wb y0.at, z.at.cell? ⟨x1.at.heap.size, 1, none⟩ = some (.bool true) := y0.lift b1
  have f2 : ∀ z : Wb y0.at, z.at.cell? ⟨x1.at.heap.size, 2, none⟩ = some (.bool true) := y0.lift b2
  have f3 : ∀ z : Wb y0.at, z.at.cell? ⟨x1.at.heap.size, 3, none⟩ = some (.bool false) := y0.lift b3
  have f4 : ∀ z : Wb y0.at, z.at.cell? ⟨x1.at.heap.size, 4, none⟩ = some (.int .i64 12) := y0.lift b4
  have f5 : ∀ z : Wb y0.at, z.at.cell? ⟨x1.at.heap.size, 5, none⟩ = some (.int .i64 10) := y0.lift b5
  have f6 : ∀ z : Wb y0.at, z.at.cell? ⟨x1.at.heap.size, 6, none⟩ = some (.int .i64 8) := y0.lift b6
  have f7 : ∀ z : Wb y0.at, z.at.cell? ⟨x1.at.heap.size, 7, none⟩ = some (.int .i64 0) := y0.lift b7
  have f8 : ∀ z : Wb y0.at, z.at.cell? ⟨x1.at.heap.size, 8, none⟩ = some (.int .i64 0) := y0.lift b8
  refine wp_region_wb (by kernel_rfl) (by kernel_rfl) ?_
  repeat (go_big_quiet_step (first | (go_at_call 17; exact Calls.wb (width_any _ _ _ _ _ _ _ _ _ 12 _ (by decide))) | (go_at_call 16; exact Calls.wb ((get_any _ _ _ _ (by first | omega | exact uw_lo _) (by first | omega | exact uw_hi _)).mono fun e w' h => ⟨h.1, h.2.below _⟩))))
  refine wpQuiet_nil ?_
  rintro _ ⟨y1, rfl⟩
  obtain ⟨y2, hy2⟩ := Wb.next (x := y0) y1.bel
  rw [hy2]
  go_wp2_with fail
  refine (named_no 2 _ _ _ _ _ _ rfl rfl).mono ?_
  rintro e w1 ⟨rfl, q1⟩
  obtain ⟨y3, rfl⟩ := Wb.next q1
  clear q1
  go_wp2
  go_ret2
  refine ⟨ret_t ?_, KB.out y3⟩
  rw [HW.out]
  go_light
  clear KB RI HS HS1 HW a0 a1 a2 a3 a4 a5 b0 b1 b2 b3 b4 b5 b6 b7 b8 e0 e1 e2 e3 e4 e5 e6 e7 e8 k0
  exact encw_2 d n imm HBD.out

theorem enc_bd_3 (d n imm : Int) (hr : GrI.right ⟨3, d, n, 0, imm, 0⟩) : 0 ≤ d ∧ d ≤ 31 ∧ 0 ≤ n ∧ n ≤ 31 ∧ 0 ≤ imm ∧ imm ≤ 32760 ∧ imm % 8 = 0 := by
  simp [GrI.right, GrI.parts, GrI.nums] at hr
  first | trivial | omega

set_option maxRecDepth 100000 in
set_option maxHeartbeats 6400000 in
theorem xenc_3 (d n imm : Int) (w : World) (hs : ShAt w) (hr : GrI.right ⟨3, d, n, 0, imm, 0⟩) :
    Calls Tryd.prog 10 #[.agg #[.int .i64 3, .int .i64 d, .int .i64 n, .int .i64 0, .int .i64 imm, .int .i64 0]] w fun e w' => e = .returned (.tuple #[.int .u32 (GrI.word ⟨3, d, n, 0, imm, 0⟩), .int .i64 0]) ∧ Below w.heap.size w w' := by
  have hb := enc_bd_3 d n imm hr
  have HBD := Lib.hid hb
  have RI := Lib.hid (fun w hs => xright_3 d n 0 imm 0 w hs (by omega) (by omega))
  rw [show GrI.code (decide (GrI.right ⟨3, d, n, 0, imm, 0⟩)) = 0 by simp [GrI.code, hr]] at RI
  clear hr
  have HS := Lib.hid hs
  clear hs
  obtain ⟨WW, hWW⟩ : ∃ WW, WW = GrI.word ⟨3, d, n, 0, imm, 0⟩ := ⟨_, rfl⟩
  rw [← hWW]
  have HW := Lib.hid hWW
  clear hWW
  go_enter Tryd.func10, Tryd.ntmps10
  go_wp2_with fail
  refine (RI.out _ (HS.out.alloc _)).mono ?_
  rintro e w1 ⟨rfl, b1⟩
  have HS1 := Lib.hid ((HS.out.alloc _).below b1)
  obtain ⟨x1, rfl⟩ := Wb.start b1
  clear b1
  have e0 : x1.at.cell? ⟨0, 27, none⟩ = some (.int .u32 4177526784) := HS1.out 27 (by decide)
  have e1 : x1.at.cell? ⟨0, 28, none⟩ = some (.bool true) := HS1.out 28 (by decide)
  have e2 : x1.at.cell? ⟨0, 29, none⟩ = some (.bool true) := HS1.out 29 (by decide)
  have e3 : x1.at.cell? ⟨0, 30, none⟩ = some (.bool false) := HS1.out 30 (by decide)
  have e4 : x1.at.cell? ⟨0, 31, none⟩ = some (.int .i64 12) := HS1.out 31 (by decide)
  have e5 : x1.at.cell? ⟨0, 32, none⟩ = some (.int .i64 10) := HS1.out 32 (by decide)
  have e6 : x1.at.cell? ⟨0, 33, none⟩ = some (.int .i64 8) := HS1.out 33 (by decide)
  have e7 : x1.at.cell? ⟨0, 34, none⟩ = some (.int .i64 0) := HS1.out 34 (by decide)
  have e8 : x1.at.cell? ⟨0, 35, none⟩ = some (.int .i64 0) := HS1.out 35 (by decide)
  have k0 : x1.at.cell? ⟨w.heap.size, 0, none⟩ = some (.int .i64 3) := by rw [x1.cell _ (by simp)]; simp [World.cell?_alloc_new]
  have lt1 : w.heap.size < x1.at.heap.size := by have := x1.size; simp at this; omega
  have a0 : ∀ z : Wb (x1.at.alloc (.cells #[.int .u32 4177526784, .bool true, .bool true, .bool false, .int .i64 12, .int .i64 10, .int .i64 8, .int .i64 0, .int .i64 0] 40)), z.at.cell? ⟨w.heap.size, 0, none⟩ = some (.int .i64 3) := fun z => (z.prev _ lt1).trans (by rw [x1.cell _ (by simp)]; simp [World.cell?_alloc_new])
  have a1 : ∀ z : Wb (x1.at.alloc (.cells #[.int .u32 4177526784, .bool true, .bool true, .bool false, .int .i64 12, .int .i64 10, .int .i64 8, .int .i64 0, .int .i64 0] 40)), z.at.cell? ⟨w.heap.size, 1, none⟩ = some (.int .i64 d) := fun z => (z.prev _ lt1).trans (by rw [x1.cell _ (by simp)]; simp [World.cell?_alloc_new])
  have a2 : ∀ z : Wb (x1.at.alloc (.cells #[.int .u32 4177526784, .bool true, .bool true, .bool false, .int .i64 12, .int .i64 10, .int .i64 8, .int .i64 0, .int .i64 0] 40)), z.at.cell? ⟨w.heap.size, 2, none⟩ = some (.int .i64 n) := fun z => (z.prev _ lt1).trans (by rw [x1.cell _ (by simp)]; simp [World.cell?_alloc_new])
  have a3 : ∀ z : Wb (x1.at.alloc (.cells #[.int .u32 4177526784, .bool true, .bool true, .bool false, .int .i64 12, .int .i64 10, .int .i64 8, .int .i64 0, .int .i64 0] 40)), z.at.cell? ⟨w.heap.size, 3, none⟩ = some (.int .i64 0) := fun z => (z.prev _ lt1).trans (by rw [x1.cell _ (by simp)]; simp [World.cell?_alloc_new])
  have a4 : ∀ z : Wb (x1.at.alloc (.cells #[.int .u32 4177526784, .bool true, .bool true, .bool false, .int .i64 12, .int .i64 10, .int .i64 8, .int .i64 0, .int .i64 0] 40)), z.at.cell? ⟨w.heap.size, 4, none⟩ = some (.int .i64 imm) := fun z => (z.prev _ lt1).trans (by rw [x1.cell _ (by simp)]; simp [World.cell?_alloc_new])
  have a5 : ∀ z : Wb (x1.at.alloc (.cells #[.int .u32 4177526784, .bool true, .bool true, .bool false, .int .i64 12, .int .i64 10, .int .i64 8, .int .i64 0, .int .i64 0] 40)), z.at.cell? ⟨w.heap.size, 5, none⟩ = some (.int .i64 0) := fun z => (z.prev _ lt1).trans (by rw [x1.cell _ (by simp)]; simp [World.cell?_alloc_new])
  have b0 : ∀ z : Wb (x1.at.alloc (.cells #[.int .u32 4177526784, .bool true, .bool true, .bool false, .int .i64 12, .int .i64 10, .int .i64 8, .int .i64 0, .int .i64 0] 40)), z.at.cell? ⟨x1.at.heap.size, 0, none⟩ = some (.int .u32 4177526784) := fun z => by rw [z.cell _ (by simp)]; simp [World.cell?_alloc_new]
  have b1 : ∀ z : Wb (x1.at.alloc (.cells #[.int .u32 4177526784, .bool true, .bool true, .bool false, .int .i64 12, .int .i64 10, .int .i64 8, .int .i64 0, .int .i64 0] 40)), z.at.cell? ⟨x1.at.heap.size, 1, none⟩ = some (.bool true) := fun z => by rw [z.cell _ (by simp)]; simp [World.cell?_alloc_new]
  have b2 : ∀ z : Wb (x1.at.alloc (.cells #[.int .u32 4177526784, .bool true, .bool true, .bool false, .int .i64 12, .int .i64 10, .int .i64 8, .int .i64 0, .int .i64 0] 40)), z.at.cell? ⟨x1.at.heap.size, 2, none⟩ = some (.bool true) := fun z => by rw [z.cell _ (by simp)]; simp [World.cell?_alloc_new]
  have b3 : ∀ z : Wb (x1.at.alloc (.cells #[.int .u32 4177526784, .bool true, .bool true, .bool false, .int .i64 12, .int .i64 10, .int .i64 8, .int .i64 0, .int .i64 0] 40)), z.at.cell? ⟨x1.at.heap.size, 3, none⟩ = some (.bool false) := fun z => by rw [z.cell _ (by simp)]; simp [World.cell?_alloc_new]
  have b4 : ∀ z : Wb (x1.at.alloc (.cells #[.int .u32 4177526784, .bool true, .bool true, .bool false, .int .i64 12, .int .i64 10, .int .i64 8, .int .i64 0, .int .i64 0] 40)), z.at.cell? ⟨x1.at.heap.size, 4, none⟩ = some (.int .i64 12) := fun z => by rw [z.cell _ (by simp)]; simp [World.cell?_alloc_new]
  have b5 : ∀ z : Wb (x1.at.alloc (.cells #[.int .u32 4177526784, .bool true, .bool true, .bool false, .int .i64 12, .int .i64 10, .int .i64 8, .int .i64 0, .int .i64 0] 40)), z.at.cell? ⟨x1.at.heap.size, 5, none⟩ = some (.int .i64 10) := fun z => by rw [z.cell _ (by simp)]; simp [World.cell?_alloc_new]
  have b6 : ∀ z : Wb (x1.at.alloc (.cells #[.int .u32 4177526784, .bool true, .bool true, .bool false, .int .i64 12, .int .i64 10, .int .i64 8, .int .i64 0, .int .i64 0] 40)), z.at.cell? ⟨x1.at.heap.size, 6, none⟩ = some (.int .i64 8) := fun z => by rw [z.cell _ (by simp)]; simp [World.cell?_alloc_new]
  have b7 : ∀ z : Wb (x1.at.alloc (.cells #[.int .u32 4177526784, .bool true, .bool true, .bool false, .int .i64 12, .int .i64 10, .int .i64 8, .int .i64 0, .int .i64 0] 40)), z.at.cell? ⟨x1.at.heap.size, 7, none⟩ = some (.int .i64 0) := fun z => by rw [z.cell _ (by simp)]; simp [World.cell?_alloc_new]
  have b8 : ∀ z : Wb (x1.at.alloc (.cells #[.int .u32 4177526784, .bool true, .bool true, .bool false, .int .i64 12, .int .i64 10, .int .i64 8, .int .i64 0, .int .i64 0] 40)), z.at.cell? ⟨x1.at.heap.size, 8, none⟩ = some (.int .i64 0) := fun z => by rw [z.cell _ (by simp)]; simp [World.cell?_alloc_new]
  have KB := Lib.hid (fun (z : Wb (x1.at.alloc (.cells #[.int .u32 4177526784, .bool true, .bool true, .bool false, .int .i64 12, .int .i64 10, .int .i64 8, .int .i64 0, .int .i64 0] 40))) => (((((Below.refl _ _).alloc (Nat.le_refl _) _).trans (x1.bel.mono (by simp))).alloc (by omega) _).trans (z.bel.mono (by simp; omega)) : Below w.heap.size w z.at))
  go_upto_region 5 with fail
  obtain ⟨y0, hy⟩ : ∃ y : Wb (x1.at.alloc (.cells #[.int .u32 4177526784, .bool true, .bool true, .bool false, .int .i64 12, .int .i64 10, .int .i64 8, .int .i64 0, .int .i64 0] 40)), (x1.at.alloc (.cells #[.int .u32 4177526784, .bool true, .bool true, .bool false, .int .i64 12, .int .i64 10, .int .i64 8, .int .i64 0, .int .i64 0] 40)) = y.at := ⟨⟨_, Below.refl _ _⟩, rfl⟩
  rw [hy]
  clear hy
  go_wp2_with fail
  have j4 : ∀ z : Wb y0.at, z.at.cell? ⟨w.heap.size, 4, none⟩ = some (.int .i64 imm) := y0.lift a4
  have f0 : ∀ z : Wb y0.at, z.at.cell? ⟨x1.at.heap.size, 0, none⟩ = some (.int .u32 4177526784) := y0.lift b0
  have f1 : ∀ z : Wb y0.at, z.at.cell? ⟨x1.at.heap.size, 1, none⟩ = some (.bool true) := y0.lift b1
  have f2 : ∀ z : Wb y0.at, z.at.cell? ⟨x1.at.heap.size, 2, none⟩ = some (.bool true) := y0.lift b2
  have f3 : ∀ z : Wb y0.at, z.at.cell? ⟨x1.at.heap.size, 3, none⟩ = some (.bool false) := y0.lift b3
  have f4 : ∀ z : Wb y0.at, z.at.cell? ⟨x1.at.heap.size, 4, none⟩ = some (.int .i64 12) := y0.lift b4
  have f5 : ∀ z : Wb y0.at, z.at.cell? ⟨x1.at.heap.size, 5, none⟩ = some (.int .i64 10) := y0.lift b5
  have f6 : ∀ z : Wb y0.at, z.at.cell? ⟨x1.at.heap.size, 6, none⟩ = some (.int .i64 8) := y0.lift b6
  have f7 : ∀ z : Wb y0.at, z.at.cell? ⟨x1.at.heap.size, 7, none⟩ = some (.int .i64 0) := y0.lift b7
  have f8 : ∀ z : Wb y0.at, z.at.cell? ⟨x1.at.heap.size, 8, none⟩ = some (.int .i64 0) := y0.lift b8
  refine wp_region_wb (by kernel_rfl) (by kernel_rfl) ?_
  repeat (go_big_quiet_step (first | (go_at_call 17; exact Calls.wb (width_any _ _ _ _ _ _ _ _ _ 12 _ (by decide))) | (go_at_call 16; exact Calls.wb ((get_any _ _ _ _ (by first | omega | exact uw_lo _) (by first | omega | exact uw_hi _)).mono fun e w' h => ⟨h.1, h.2.below _⟩))))
  refine wpQuiet_nil ?_
  rintro _ ⟨y1, rfl⟩
  obtain ⟨y2, hy2⟩ := Wb.next (x := y0) y1.bel
  rw [hy2]
  go_wp2_with fail
  refine (named_no 3 _ _ _ _ _ _ rfl rfl).mono ?_
  rintro e w1 ⟨rfl, q1⟩
  obtain ⟨y3, rfl⟩ := Wb.next q1
  clear q1
  go_wp2
  go_ret2
  refine ⟨ret_t ?_, KB.out y3⟩
  rw [HW.out]
  go_light
  clear KB RI HS HS1 HW a0 a1 a2 a3 a4 a5 b0 b1 b2 b3 b4 b5 b6 b7 b8 e0 e1 e2 e3 e4 e5 e6 e7 e8 k0
  exact encw_3 d n imm HBD.out

theorem enc_bd_4 (d n : Int) (hr : GrI.right ⟨4, d, n, 0, 0, 0⟩) : 0 ≤ d ∧ d ≤ 31 ∧ 0 ≤ n ∧ n ≤ 31 := by
  simp [GrI.right, GrI.parts, GrI.nums] at hr
  first | trivial | omega

set_option maxRecDepth 100000 in
set_option maxHeartbeats 6400000 in
theorem xenc_4 (d n : Int) (w : World) (hs : ShAt w) (hr : GrI.right ⟨4, d, n, 0, 0, 0⟩) :
    Calls Tryd.prog 10 #[.agg #[.int .i64 4, .int .i64 d, .int .i64 n, .int .i64 0, .int .i64 0, .int .i64 0]] w fun e w' => e = .returned (.tuple #[.int .u32 (GrI.word ⟨4, d, n, 0, 0, 0⟩), .int .i64 0]) ∧ Below w.heap.size w w' := by
  have hb := enc_bd_4 d n hr
  have HBD := Lib.hid hb
  have RI := Lib.hid (fun w hs => xright_4 d n 0 0 0 w hs (by omega) (by omega))
  rw [show GrI.code (decide (GrI.right ⟨4, d, n, 0, 0, 0⟩)) = 0 by simp [GrI.code, hr]] at RI
  clear hr
  have HS := Lib.hid hs
  clear hs
  obtain ⟨WW, hWW⟩ : ∃ WW, WW = GrI.word ⟨4, d, n, 0, 0, 0⟩ := ⟨_, rfl⟩
  rw [← hWW]
  have HW := Lib.hid hWW
  clear hWW
  go_enter Tryd.func10, Tryd.ntmps10
  go_wp2_with fail
  refine (RI.out _ (HS.out.alloc _)).mono ?_
  rintro e w1 ⟨rfl, b1⟩
  have HS1 := Lib.hid ((HS.out.alloc _).below b1)
  obtain ⟨x1, rfl⟩ := Wb.start b1
  clear b1
  have e0 : x1.at.cell? ⟨0, 36, none⟩ = some (.int .u32 3370122240) := HS1.out 36 (by decide)
  have e1 : x1.at.cell? ⟨0, 37, none⟩ = some (.bool true) := HS1.out 37 (by decide)
  have e2 : x1.at.cell? ⟨0, 38, none⟩ = some (.bool true) := HS1.out 38 (by decide)
  have e3 : x1.at.cell? ⟨0, 39, none⟩ = some (.bool false) := HS1.out 39 (by decide)
  have e4 : x1.at.cell? ⟨0, 40, none⟩ = some (.int .i64 0) := HS1.out 40 (by decide)
  have e5 : x1.at.cell? ⟨0, 41, none⟩ = some (.int .i64 0) := HS1.out 41 (by decide)
  have e6 : x1.at.cell? ⟨0, 42, none⟩ = some (.int .i64 0) := HS1.out 42 (by decide)
  have e7 : x1.at.cell? ⟨0, 43, none⟩ = some (.int .i64 0) := HS1.out 43 (by decide)
  have e8 : x1.at.cell? ⟨0, 44, none⟩ = some (.int .i64 0) := HS1.out 44 (by decide)
  have k0 : x1.at.cell? ⟨w.heap.size, 0, none⟩ = some (.int .i64 4) := by rw [x1.cell _ (by simp)]; simp [World.cell?_alloc_new]
  have lt1 : w.heap.size < x1.at.heap.size := by have := x1.size; simp at this; omega
  have a0 : ∀ z : Wb (x1.at.alloc (.cells #[.int .u32 3370122240, .bool true, .bool true, .bool false, .int .i64 0, .int .i64 0, .int .i64 0, .int .i64 0, .int .i64 0] 40)), z.at.cell? ⟨w.heap.size, 0, none⟩ = some (.int .i64 4) := fun z => (z.prev _ lt1).trans (by rw [x1.cell _ (by simp)]; simp [World.cell?_alloc_new])
  have a1 : ∀ z : Wb (x1.at.alloc (.cells #[.int .u32 3370122240, .bool true, .bool true, .bool false, .int .i64 0, .int .i64 0, .int .i64 0, .int .i64 0, .int .i64 0] 40)), z.at.cell? ⟨w.heap.size, 1, none⟩ = some (.int .i64 d) := fun z => (z.prev _ lt1).trans (by rw [x1.cell _ (by simp)]; simp [World.cell?_alloc_new])
  have a2 : ∀ z : Wb (x1.at.alloc (.cells #[.int .u32 3370122240, .bool true, .bool true, .bool false, .int .i64 0, .int .i64 0, .int .i64 0, .int .i64 0, .int .i64 0] 40)), z.at.cell? ⟨w.heap.size, 2, none⟩ = some (.int .i64 n) := fun z => (z.prev _ lt1).trans (by rw [x1.cell _ (by simp)]; simp [World.cell?_alloc_new])
  have a3 : ∀ z : Wb (x1.at.alloc (.cells #[.int .u32 3370122240, .bool true, .bool true, .bool false, .int .i64 0, .int .i64 0, .int .i64 0, .int .i64 0, .int .i64 0] 40)), z.at.cell? ⟨w.heap.size, 3, none⟩ = some (.int .i64 0) := fun z => (z.prev _ lt1).trans (by rw [x1.cell _ (by simp)]; simp [World.cell?_alloc_new])
  have a4 : ∀ z : Wb (x1.at.alloc (.cells #[.int .u32 3370122240, .bool true, .bool true, .bool false, .int .i64 0, .int .i64 0, .int .i64 0, .int .i64 0, .int .i64 0] 40)), z.at.cell? ⟨w.heap.size, 4, none⟩ = some (.int .i64 0) := fun z => (z.prev _ lt1).trans (by rw [x1.cell _ (by simp)]; simp [World.cell?_alloc_new])
  have a5 : ∀ z : Wb (x1.at.alloc (.cells #[.int .u32 3370122240, .bool true, .bool true, .bool false, .int .i64 0, .int .i64 0, .int .i64 0, .int .i64 0, .int .i64 0] 40)), z.at.cell? ⟨w.heap.size, 5, none⟩ = some (.int .i64 0) := fun z => (z.prev _ lt1).trans (by rw [x1.cell _ (by simp)]; simp [World.cell?_alloc_new])
  have b0 : ∀ z : Wb (x1.at.alloc (.cells #[.int .u32 3370122240, .bool true, .bool true, .bool false, .int .i64 0, .int .i64 0, .int .i64 0, .int .i64 0, .int .i64 0] 40)), z.at.cell? ⟨x1.at.heap.size, 0, none⟩ = some (.int .u32 3370122240) := fun z => by rw [z.cell _ (by simp)]; simp [World.cell?_alloc_new]
  have b1 : ∀ z : Wb (x1.at.alloc (.cells #[.int .u32 3370122240, .bool true, .bool true, .bool false, .int .i64 0, .int .i64 0, .int .i64 0, .int .i64 0, .int .i64 0] 40)), z.at.cell? ⟨x1.at.heap.size, 1, none⟩ = some (.bool true) := fun z => by rw [z.cell _ (by simp)]; simp [World.cell?_alloc_new]
  have b2 : ∀ z : Wb (x1.at.alloc (.cells #[.int .u32 3370122240, .bool true, .bool true, .bool false, .int .i64 0, .int .i64 0, .int .i64 0, .int .i64 0, .int .i64 0] 40)), z.at.cell? ⟨x1.at.heap.size, 2, none⟩ = some (.bool true) := fun z => by rw [z.cell _ (by simp)]; simp [World.cell?_alloc_new]
  have b3 : ∀ z : Wb (x1.at.alloc (.cells #[.int .u32 3370122240, .bool true, .bool true, .bool false, .int .i64 0, .int .i64 0, .int .i64 0, .int .i64 0, .int .i64 0] 40)), z.at.cell? ⟨x1.at.heap.size, 3, none⟩ = some (.bool false) := fun z => by rw [z.cell _ (by simp)]; simp [World.cell?_alloc_new]
  have b4 : ∀ z : Wb (x1.at.alloc (.cells #[.int .u32 3370122240, .bool true, .bool true, .bool false, .int .i64 0, .int .i64 0, .int .i64 0, .int .i64 0, .int .i64 0] 40)), z.at.cell? ⟨x1.at.heap.size, 4, none⟩ = some (.int .i64 0) := fun z => by rw [z.cell _ (by simp)]; simp [World.cell?_alloc_new]
  have b5 : ∀ z : Wb (x1.at.alloc (.cells #[.int .u32 3370122240, .bool true, .bool true, .bool false, .int .i64 0, .int .i64 0, .int .i64 0, .int .i64 0, .int .i64 0] 40)), z.at.cell? ⟨x1.at.heap.size, 5, none⟩ = some (.int .i64 0) := fun z => by rw [z.cell _ (by simp)]; simp [World.cell?_alloc_new]
  have b6 : ∀ z : Wb (x1.at.alloc (.cells #[.int .u32 3370122240, .bool true, .bool true, .bool false, .int .i64 0, .int .i64 0, .int .i64 0, .int .i64 0, .int .i64 0] 40)), z.at.cell? ⟨x1.at.heap.size, 6, none⟩ = some (.int .i64 0) := fun z => by rw [z.cell _ (by simp)]; simp [World.cell?_alloc_new]
  have b7 : ∀ z : Wb (x1.at.alloc (.cells #[.int .u32 3370122240, .bool true, .bool true, .bool false, .int .i64 0, .int .i64 0, .int .i64 0, .int .i64 0, .int .i64 0] 40)), z.at.cell? ⟨x1.at.heap.size, 7, none⟩ = some (.int .i64 0) := fun z => by rw [z.cell _ (by simp)]; simp [World.cell?_alloc_new]
  have b8 : ∀ z : Wb (x1.at.alloc (.cells #[.int .u32 3370122240, .bool true, .bool true, .bool false, .int .i64 0, .int .i64 0, .int .i64 0, .int .i64 0, .int .i64 0] 40)), z.at.cell? ⟨x1.at.heap.size, 8, none⟩ = some (.int .i64 0) := fun z => by rw [z.cell _ (by simp)]; simp [World.cell?_alloc_new]
  have KB := Lib.hid (fun (z : Wb (x1.at.alloc (.cells #[.int .u32 3370122240, .bool true, .bool true, .bool false, .int .i64 0, .int .i64 0, .int .i64 0, .int .i64 0, .int .i64 0] 40))) => (((((Below.refl _ _).alloc (Nat.le_refl _) _).trans (x1.bel.mono (by simp))).alloc (by omega) _).trans (z.bel.mono (by simp; omega)) : Below w.heap.size w z.at))
  go_upto_region 5 with fail
  obtain ⟨y0, hy⟩ : ∃ y : Wb (x1.at.alloc (.cells #[.int .u32 3370122240, .bool true, .bool true, .bool false, .int .i64 0, .int .i64 0, .int .i64 0, .int .i64 0, .int .i64 0] 40)), (x1.at.alloc (.cells #[.int .u32 3370122240, .bool true, .bool true, .bool false, .int .i64 0, .int .i64 0, .int .i64 0, .int .i64 0, .int .i64 0] 40)) = y.at := ⟨⟨_, Below.refl _ _⟩, rfl⟩
  rw [hy]
  clear hy
  go_wp2_with fail
  refine (named_no 4 _ _ _ _ _ _ rfl rfl).mono ?_
  rintro e w1 ⟨rfl, q1⟩
  obtain ⟨y3, rfl⟩ := Wb.next q1
  clear q1
  go_wp2
  go_ret2
  refine ⟨ret_t ?_, KB.out y3⟩
  rw [HW.out]
  go_light
  clear KB RI HS HS1 HW a0 a1 a2 a3 a4 a5 b0 b1 b2 b3 b4 b5 b6 b7 b8 e0 e1 e2 e3 e4 e5 e6 e7 e8 k0
  exact encw_4 d n HBD.out

theorem enc_bd_5 (d n : Int) (hr : GrI.right ⟨5, d, n, 0, 0, 0⟩) : 0 ≤ d ∧ d ≤ 31 ∧ 0 ≤ n ∧ n ≤ 31 := by
  simp [GrI.right, GrI.parts, GrI.nums] at hr
  first | trivial | omega

set_option maxRecDepth 100000 in
set_option maxHeartbeats 6400000 in
theorem xenc_5 (d n : Int) (w : World) (hs : ShAt w) (hr : GrI.right ⟨5, d, n, 0, 0, 0⟩) :
    Calls Tryd.prog 10 #[.agg #[.int .i64 5, .int .i64 d, .int .i64 n, .int .i64 0, .int .i64 0, .int .i64 0]] w fun e w' => e = .returned (.tuple #[.int .u32 (GrI.word ⟨5, d, n, 0, 0, 0⟩), .int .i64 0]) ∧ Below w.heap.size w w' := by
  have hb := enc_bd_5 d n hr
  have HBD := Lib.hid hb
  have RI := Lib.hid (fun w hs => xright_5 d n 0 0 0 w hs (by omega) (by omega))
  rw [show GrI.code (decide (GrI.right ⟨5, d, n, 0, 0, 0⟩)) = 0 by simp [GrI.code, hr]] at RI
  clear hr
  have HS := Lib.hid hs
  clear hs
  obtain ⟨WW, hWW⟩ : ∃ WW, WW = GrI.word ⟨5, d, n, 0, 0, 0⟩ := ⟨_, rfl⟩
  rw [← hWW]
  have HW := Lib.hid hWW
  clear hWW
  go_enter Tryd.func10, Tryd.ntmps10
  go_wp2_with fail
  refine (RI.out _ (HS.out.alloc _)).mono ?_
  rintro e w1 ⟨rfl, b1⟩
  have HS1 := Lib.hid ((HS.out.alloc _).below b1)
  obtain ⟨x1, rfl⟩ := Wb.start b1
  clear b1
  have e0 : x1.at.cell? ⟨0, 45, none⟩ = some (.int .u32 3365927936) := HS1.out 45 (by decide)
  have e1 : x1.at.cell? ⟨0, 46, none⟩ = some (.bool true) := HS1.out 46 (by decide)
  have e2 : x1.at.cell? ⟨0, 47, none⟩ = some (.bool true) := HS1.out 47 (by decide)
  have e3 : x1.at.cell? ⟨0, 48, none⟩ = some (.bool false) := HS1.out 48 (by decide)
  have e4 : x1.at.cell? ⟨0, 49, none⟩ = some (.int .i64 0) := HS1.out 49 (by decide)
  have e5 : x1.at.cell? ⟨0, 50, none⟩ = some (.int .i64 0) := HS1.out 50 (by decide)
  have e6 : x1.at.cell? ⟨0, 51, none⟩ = some (.int .i64 0) := HS1.out 51 (by decide)
  have e7 : x1.at.cell? ⟨0, 52, none⟩ = some (.int .i64 0) := HS1.out 52 (by decide)
  have e8 : x1.at.cell? ⟨0, 53, none⟩ = some (.int .i64 0) := HS1.out 53 (by decide)
  have k0 : x1.at.cell? ⟨w.heap.size, 0, none⟩ = some (.int .i64 5) := by rw [x1.cell _ (by simp)]; simp [World.cell?_alloc_new]
  have lt1 : w.heap.size < x1.at.heap.size := by have := x1.size; simp at this; omega
  have a0 : ∀ z : Wb (x1.at.alloc (.cells #[.int .u32 3365927936, .bool true, .bool true, .bool false, .int .i64 0, .int .i64 0, .int .i64 0, .int .i64 0, .int .i64 0] 40)), z.at.cell? ⟨w.heap.size, 0, none⟩ = some (.int .i64 5) := fun z => (z.prev _ lt1).trans (by rw [x1.cell _ (by simp)]; simp [World.cell?_alloc_new])
  have a1 : ∀ z : Wb (x1.at.alloc (.cells #[.int .u32 3365927936, .bool true, .bool true, .bool false, .int .i64 0, .int .i64 0, .int .i64 0, .int .i64 0, .int .i64 0] 40)), z.at.cell? ⟨w.heap.size, 1, none⟩ = some (.int .i64 d) := fun z => (z.prev _ lt1).trans (by rw [x1.cell _ (by simp)]; simp [World.cell?_alloc_new])
  have a2 : ∀ z : Wb (x1.at.alloc (.cells #[.int .u32 3365927936, .bool true, .bool true, .bool false, .int .i64 0, .int .i64 0, .int .i64 0, .int .i64 0, .int .i64 0] 40)), z.at.cell? ⟨w.heap.size, 2, none⟩ = some (.int .i64 n) := fun z => (z.prev _ lt1).trans (by rw [x1.cell _ (by simp)]; simp [World.cell?_alloc_new])
  have a3 : ∀ z : Wb (x1.at.alloc (.cells #[.int .u32 3365927936, .bool true, .bool true, .bool false, .int .i64 0, .int .i64 0, .int .i64 0, .int .i64 0, .int .i64 0] 40)), z.at.cell? ⟨w.heap.size, 3, none⟩ = some (.int .i64 0) := fun z => (z.prev _ lt1).trans (by rw [x1.cell _ (by simp)]; simp [World.cell?_alloc_new])
  have a4 : ∀ z : Wb (x1.at.alloc (.cells #[.int .u32 3365927936, .bool true, .bool true, .bool false, .int .i64 0, .int .i64 0, .int .i64 0, .int .i64 0, .int .i64 0] 40)), z.at.cell? ⟨w.heap.size, 4, none⟩ = some (.int .i64 0) := fun z => (z.prev _ lt1).trans (by rw [x1.cell _ (by simp)]; simp [World.cell?_alloc_new])
  have a5 : ∀ z : Wb (x1.at.alloc (.cells #[.int .u32 3365927936, .bool true, .bool true, .bool false, .int .i64 0, .int .i64 0, .int .i64 0, .int .i64 0, .int .i64 0] 40)), z.at.cell? ⟨w.heap.size, 5, none⟩ = some (.int .i64 0) := fun z => (z.prev _ lt1).trans (by rw [x1.cell _ (by simp)]; simp [World.cell?_alloc_new])
  have b0 : ∀ z : Wb (x1.at.alloc (.cells #[.int .u32 3365927936, .bool true, .bool true, .bool false, .int .i64 0, .int .i64 0, .int .i64 0, .int .i64 0, .int .i64 0] 40)), z.at.cell? ⟨x1.at.heap.size, 0, none⟩ = some (.int .u32 3365927936) := fun z => by rw [z.cell _ (by simp)]; simp [World.cell?_alloc_new]
  have b1 : ∀ z : Wb (x1.at.alloc (.cells #[.int .u32 3365927936, .bool true, .bool true, .bool false, .int .i64 0, .int .i64 0, .int .i64 0, .int .i64 0, .int .i64 0] 40)), z.at.cell? ⟨x1.at.heap.size, 1, none⟩ = some (.bool true) := fun z => by rw [z.cell _ (by simp)]; simp [World.cell?_alloc_new]
  have b2 : ∀ z : Wb (x1.at.alloc (.cells #[.int .u32 3365927936, .bool true, .bool true, .bool false, .int .i64 0, .int .i64 0, .int .i64 0, .int .i64 0, .int .i64 0] 40)), z.at.cell? ⟨x1.at.heap.size, 2, none⟩ = some (.bool true) := fun z => by rw [z.cell _ (by simp)]; simp [World.cell?_alloc_new]
  have b3 : ∀ z : Wb (x1.at.alloc (.cells #[.int .u32 3365927936, .bool true, .bool true, .bool false, .int .i64 0, .int .i64 0, .int .i64 0, .int .i64 0, .int .i64 0] 40)), z.at.cell? ⟨x1.at.heap.size, 3, none⟩ = some (.bool false) := fun z => by rw [z.cell _ (by simp)]; simp [World.cell?_alloc_new]
  have b4 : ∀ z : Wb (x1.at.alloc (.cells #[.int .u32 3365927936, .bool true, .bool true, .bool false, .int .i64 0, .int .i64 0, .int .i64 0, .int .i64 0, .int .i64 0] 40)), z.at.cell? ⟨x1.at.heap.size, 4, none⟩ = some (.int .i64 0) := fun z => by rw [z.cell _ (by simp)]; simp [World.cell?_alloc_new]
  have b5 : ∀ z : Wb (x1.at.alloc (.cells #[.int .u32 3365927936, .bool true, .bool true, .bool false, .int .i64 0, .int .i64 0, .int .i64 0, .int .i64 0, .int .i64 0] 40)), z.at.cell? ⟨x1.at.heap.size, 5, none⟩ = some (.int .i64 0) := fun z => by rw [z.cell _ (by simp)]; simp [World.cell?_alloc_new]
  have b6 : ∀ z : Wb (x1.at.alloc (.cells #[.int .u32 3365927936, .bool true, .bool true, .bool false, .int .i64 0, .int .i64 0, .int .i64 0, .int .i64 0, .int .i64 0] 40)), z.at.cell? ⟨x1.at.heap.size, 6, none⟩ = some (.int .i64 0) := fun z => by rw [z.cell _ (by simp)]; simp [World.cell?_alloc_new]
  have b7 : ∀ z : Wb (x1.at.alloc (.cells #[.int .u32 3365927936, .bool true, .bool true, .bool false, .int .i64 0, .int .i64 0, .int .i64 0, .int .i64 0, .int .i64 0] 40)), z.at.cell? ⟨x1.at.heap.size, 7, none⟩ = some (.int .i64 0) := fun z => by rw [z.cell _ (by simp)]; simp [World.cell?_alloc_new]
  have b8 : ∀ z : Wb (x1.at.alloc (.cells #[.int .u32 3365927936, .bool true, .bool true, .bool false, .int .i64 0, .int .i64 0, .int .i64 0, .int .i64 0, .int .i64 0] 40)), z.at.cell? ⟨x1.at.heap.size, 8, none⟩ = some (.int .i64 0) := fun z => by rw [z.cell _ (by simp)]; simp [World.cell?_alloc_new]
  have KB := Lib.hid (fun (z : Wb (x1.at.alloc (.cells #[.int .u32 3365927936, .bool true, .bool true, .bool false, .int .i64 0, .int .i64 0, .int .i64 0, .int .i64 0, .int .i64 0] 40))) => (((((Below.refl _ _).alloc (Nat.le_refl _) _).trans (x1.bel.mono (by simp))).alloc (by omega) _).trans (z.bel.mono (by simp; omega)) : Below w.heap.size w z.at))
  go_upto_region 5 with fail
  obtain ⟨y0, hy⟩ : ∃ y : Wb (x1.at.alloc (.cells #[.int .u32 3365927936, .bool true, .bool true, .bool false, .int .i64 0, .int .i64 0, .int .i64 0, .int .i64 0, .int .i64 0] 40)), (x1.at.alloc (.cells #[.int .u32 3365927936, .bool true, .bool true, .bool false, .int .i64 0, .int .i64 0, .int .i64 0, .int .i64 0, .int .i64 0] 40)) = y.at := ⟨⟨_, Below.refl _ _⟩, rfl⟩
  rw [hy]
  clear hy
  go_wp2_with fail
  refine (named_no 5 _ _ _ _ _ _ rfl rfl).mono ?_
  rintro e w1 ⟨rfl, q1⟩
  obtain ⟨y3, rfl⟩ := Wb.next q1
  clear q1
  go_wp2
  go_ret2
  refine ⟨ret_t ?_, KB.out y3⟩
  rw [HW.out]
  go_light
  clear KB RI HS HS1 HW a0 a1 a2 a3 a4 a5 b0 b1 b2 b3 b4 b5 b6 b7 b8 e0 e1 e2 e3 e4 e5 e6 e7 e8 k0
  exact encw_5 d n HBD.out

theorem enc_bd_6 (d imm kind : Int) (hr : GrI.right ⟨6, d, 0, 0, imm, kind⟩) : 0 ≤ d ∧ d ≤ 31 ∧ 0 ≤ imm ∧ imm ≤ 65535 ∧ 0 ≤ kind ∧ kind ≤ 3 := by
  simp [GrI.right, GrI.parts, GrI.nums] at hr
  first | trivial | omega

set_option maxRecDepth 100000 in
set_option maxHeartbeats 6400000 in
theorem xenc_6 (d imm kind : Int) (w : World) (hs : ShAt w) (hr : GrI.right ⟨6, d, 0, 0, imm, kind⟩) :
    Calls Tryd.prog 10 #[.agg #[.int .i64 6, .int .i64 d, .int .i64 0, .int .i64 0, .int .i64 imm, .int .i64 kind]] w fun e w' => e = .returned (.tuple #[.int .u32 (GrI.word ⟨6, d, 0, 0, imm, kind⟩), .int .i64 0]) ∧ Below w.heap.size w w' := by
  have hb := enc_bd_6 d imm kind hr
  have HBD := Lib.hid hb
  have RI := Lib.hid (fun w hs => xright_6 d 0 0 imm kind w hs (by omega) (by omega))
  rw [show GrI.code (decide (GrI.right ⟨6, d, 0, 0, imm, kind⟩)) = 0 by simp [GrI.code, hr]] at RI
  clear hr
  have HS := Lib.hid hs
  clear hs
  obtain ⟨WW, hWW⟩ : ∃ WW, WW = GrI.word ⟨6, d, 0, 0, imm, kind⟩ := ⟨_, rfl⟩
  rw [← hWW]
  have HW := Lib.hid hWW
  clear hWW
  go_enter Tryd.func10, Tryd.ntmps10
  go_wp2_with fail
  refine (RI.out _ (HS.out.alloc _)).mono ?_
  rintro e w1 ⟨rfl, b1⟩
  have HS1 := Lib.hid ((HS.out.alloc _).below b1)
  obtain ⟨x1, rfl⟩ := Wb.start b1
  clear b1
  have e0 : x1.at.cell? ⟨0, 54, none⟩ = some (.int .u32 3531603968) := HS1.out 54 (by decide)
  have e1 : x1.at.cell? ⟨0, 55, none⟩ = some (.bool true) := HS1.out 55 (by decide)
  have e2 : x1.at.cell? ⟨0, 56, none⟩ = some (.bool false) := HS1.out 56 (by decide)
  have e3 : x1.at.cell? ⟨0, 57, none⟩ = some (.bool false) := HS1.out 57 (by decide)
  have e4 : x1.at.cell? ⟨0, 58, none⟩ = some (.int .i64 16) := HS1.out 58 (by decide)
  have e5 : x1.at.cell? ⟨0, 59, none⟩ = some (.int .i64 5) := HS1.out 59 (by decide)
  have e6 : x1.at.cell? ⟨0, 60, none⟩ = some (.int .i64 1) := HS1.out 60 (by decide)
  have e7 : x1.at.cell? ⟨0, 61, none⟩ = some (.int .i64 4) := HS1.out 61 (by decide)
  have e8 : x1.at.cell? ⟨0, 62, none⟩ = some (.int .i64 21) := HS1.out 62 (by decide)
  have k0 : x1.at.cell? ⟨w.heap.size, 0, none⟩ = some (.int .i64 6) := by rw [x1.cell _ (by simp)]; simp [World.cell?_alloc_new]
  have lt1 : w.heap.size < x1.at.heap.size := by have := x1.size; simp at this; omega
  have a0 : ∀ z : Wb (x1.at.alloc (.cells #[.int .u32 3531603968, .bool true, .bool false, .bool false, .int .i64 16, .int .i64 5, .int .i64 1, .int .i64 4, .int .i64 21] 40)), z.at.cell? ⟨w.heap.size, 0, none⟩ = some (.int .i64 6) := fun z => (z.prev _ lt1).trans (by rw [x1.cell _ (by simp)]; simp [World.cell?_alloc_new])
  have a1 : ∀ z : Wb (x1.at.alloc (.cells #[.int .u32 3531603968, .bool true, .bool false, .bool false, .int .i64 16, .int .i64 5, .int .i64 1, .int .i64 4, .int .i64 21] 40)), z.at.cell? ⟨w.heap.size, 1, none⟩ = some (.int .i64 d) := fun z => (z.prev _ lt1).trans (by rw [x1.cell _ (by simp)]; simp [World.cell?_alloc_new])
  have a2 : ∀ z : Wb (x1.at.alloc (.cells #[.int .u32 3531603968, .bool true, .bool false, .bool false, .int .i64 16, .int .i64 5, .int .i64 1, .int .i64 4, .int .i64 21] 40)), z.at.cell? ⟨w.heap.size, 2, none⟩ = some (.int .i64 0) := fun z => (z.prev _ lt1).trans (by rw [x1.cell _ (by simp)]; simp [World.cell?_alloc_new])
  have a3 : ∀ z : Wb (x1.at.alloc (.cells #[.int .u32 3531603968, .bool true, .bool false, .bool false, .int .i64 16, .int .i64 5, .int .i64 1, .int .i64 4, .int .i64 21] 40)), z.at.cell? ⟨w.heap.size, 3, none⟩ = some (.int .i64 0) := fun z => (z.prev _ lt1).trans (by rw [x1.cell _ (by simp)]; simp [World.cell?_alloc_new])
  have a4 : ∀ z : Wb (x1.at.alloc (.cells #[.int .u32 3531603968, .bool true, .bool false, .bool false, .int .i64 16, .int .i64 5, .int .i64 1, .int .i64 4, .int .i64 21] 40)), z.at.cell? ⟨w.heap.size, 4, none⟩ = some (.int .i64 imm) := fun z => (z.prev _ lt1).trans (by rw [x1.cell _ (by simp)]; simp [World.cell?_alloc_new])
  have a5 : ∀ z : Wb (x1.at.alloc (.cells #[.int .u32 3531603968, .bool true, .bool false, .bool false, .int .i64 16, .int .i64 5, .int .i64 1, .int .i64 4, .int .i64 21] 40)), z.at.cell? ⟨w.heap.size, 5, none⟩ = some (.int .i64 kind) := fun z => (z.prev _ lt1).trans (by rw [x1.cell _ (by simp)]; simp [World.cell?_alloc_new])
  have b0 : ∀ z : Wb (x1.at.alloc (.cells #[.int .u32 3531603968, .bool true, .bool false, .bool false, .int .i64 16, .int .i64 5, .int .i64 1, .int .i64 4, .int .i64 21] 40)), z.at.cell? ⟨x1.at.heap.size, 0, none⟩ = some (.int .u32 3531603968) := fun z => by rw [z.cell _ (by simp)]; simp [World.cell?_alloc_new]
  have b1 : ∀ z : Wb (x1.at.alloc (.cells #[.int .u32 3531603968, .bool true, .bool false, .bool false, .int .i64 16, .int .i64 5, .int .i64 1, .int .i64 4, .int .i64 21] 40)), z.at.cell? ⟨x1.at.heap.size, 1, none⟩ = some (.bool true) := fun z => by rw [z.cell _ (by simp)]; simp [World.cell?_alloc_new]
  have b2 : ∀ z : Wb (x1.at.alloc (.cells #[.int .u32 3531603968, .bool true, .bool false, .bool false, .int .i64 16, .int .i64 5, .int .i64 1, .int .i64 4, .int .i64 21] 40)), z.at.cell? ⟨x1.at.heap.size, 2, none⟩ = some (.bool false) := fun z => by rw [z.cell _ (by simp)]; simp [World.cell?_alloc_new]
  have b3 : ∀ z : Wb (x1.at.alloc (.cells #[.int .u32 3531603968, .bool true, .bool false, .bool false, .int .i64 16, .int .i64 5, .int .i64 1, .int .i64 4, .int .i64 21] 40)), z.at.cell? ⟨x1.at.heap.size, 3, none⟩ = some (.bool false) := fun z => by rw [z.cell _ (by simp)]; simp [World.cell?_alloc_new]
  have b4 : ∀ z : Wb (x1.at.alloc (.cells #[.int .u32 3531603968, .bool true, .bool false, .bool false, .int .i64 16, .int .i64 5, .int .i64 1, .int .i64 4, .int .i64 21] 40)), z.at.cell? ⟨x1.at.heap.size, 4, none⟩ = some (.int .i64 16) := fun z => by rw [z.cell _ (by simp)]; simp [World.cell?_alloc_new]
  have b5 : ∀ z : Wb (x1.at.alloc (.cells #[.int .u32 3531603968, .bool true, .bool false, .bool false, .int .i64 16, .int .i64 5, .int .i64 1, .int .i64 4, .int .i64 21] 40)), z.at.cell? ⟨x1.at.heap.size, 5, none⟩ = some (.int .i64 5) := fun z => by rw [z.cell _ (by simp)]; simp [World.cell?_alloc_new]
  have b6 : ∀ z : Wb (x1.at.alloc (.cells #[.int .u32 3531603968, .bool true, .bool false, .bool false, .int .i64 16, .int .i64 5, .int .i64 1, .int .i64 4, .int .i64 21] 40)), z.at.cell? ⟨x1.at.heap.size, 6, none⟩ = some (.int .i64 1) := fun z => by rw [z.cell _ (by simp)]; simp [World.cell?_alloc_new]
  have b7 : ∀ z : Wb (x1.at.alloc (.cells #[.int .u32 3531603968, .bool true, .bool false, .bool false, .int .i64 16, .int .i64 5, .int .i64 1, .int .i64 4, .int .i64 21] 40)), z.at.cell? ⟨x1.at.heap.size, 7, none⟩ = some (.int .i64 4) := fun z => by rw [z.cell _ (by simp)]; simp [World.cell?_alloc_new]
  have b8 : ∀ z : Wb (x1.at.alloc (.cells #[.int .u32 3531603968, .bool true, .bool false, .bool false, .int .i64 16, .int .i64 5, .int .i64 1, .int .i64 4, .int .i64 21] 40)), z.at.cell? ⟨x1.at.heap.size, 8, none⟩ = some (.int .i64 21) := fun z => by rw [z.cell _ (by simp)]; simp [World.cell?_alloc_new]
  have KB := Lib.hid (fun (z : Wb (x1.at.alloc (.cells #[.int .u32 3531603968, .bool true, .bool false, .bool false, .int .i64 16, .int .i64 5, .int .i64 1, .int .i64 4, .int .i64 21] 40))) => (((((Below.refl _ _).alloc (Nat.le_refl _) _).trans (x1.bel.mono (by simp))).alloc (by omega) _).trans (z.bel.mono (by simp; omega)) : Below w.heap.size w z.at))
  go_upto_region 5 with fail
  obtain ⟨y0, hy⟩ : ∃ y : Wb (x1.at.alloc (.cells #[.int .u32 3531603968, .bool true, .bool false, .bool false, .int .i64 16, .int .i64 5, .int .i64 1, .int .i64 4, .int .i64 21] 40)), (x1.at.alloc (.cells #[.int .u32 3531603968, .bool true, .bool false, .bool false, .int .i64 16, .int .i64 5, .int .i64 1, .int .i64 4, .int .i64 21] 40)) = y.at := ⟨⟨_, Below.refl _ _⟩, rfl⟩
  rw [hy]
  clear hy
  go_wp2_with fail
  have j4 : ∀ z : Wb y0.at, z.at.cell? ⟨w.heap.size, 4, none⟩ = some (.int .i64 imm) := y0.lift a4
  have f0 : ∀ z : Wb y0.at, z.at.cell? ⟨x1.at.heap.size, 0, none⟩ = some (.int .u32 3531603968) := y0.lift b0
  have f1 : ∀ z : Wb y0.at, z.at.cell? ⟨x1.at.heap.size, 1, none⟩ = some (.bool true) := y0.lift b1
  have f2 : ∀ z : Wb y0.at, z.at.cell? ⟨x1.at.heap.size, 2, none⟩ = some (.bool false) := y0.lift b2
  have f3 : ∀ z : Wb y0.at, z.at.cell? ⟨x1.at.heap.size, 3, none⟩ = some (.bool false) := y0.lift b3
  have f4 : ∀ z : Wb y0.at, z.at.cell? ⟨x1.at.heap.size, 4, none⟩ = some (.int .i64 16) := y0.lift b4
  have f5 : ∀ z : Wb y0.at, z.at.cell? ⟨x1.at.heap.size, 5, none⟩ = some (.int .i64 5) := y0.lift b5
  have f6 : ∀ z : Wb y0.at, z.at.cell? ⟨x1.at.heap.size, 6, none⟩ = some (.int .i64 1) := y0.lift b6
  have f7 : ∀ z : Wb y0.at, z.at.cell? ⟨x1.at.heap.size, 7, none⟩ = some (.int .i64 4) := y0.lift b7
  have f8 : ∀ z : Wb y0.at, z.at.cell? ⟨x1.at.heap.size, 8, none⟩ = some (.int .i64 21) := y0.lift b8
  refine wp_region_wb (by kernel_rfl) (by kernel_rfl) ?_
  repeat (go_big_quiet_step (first | (go_at_call 17; exact Calls.wb (width_any _ _ _ _ _ _ _ _ _ 16 _ (by decide))) | (go_at_call 16; exact Calls.wb ((get_any _ _ _ _ (by first | omega | exact uw_lo _) (by first | omega | exact uw_hi _)).mono fun e w' h => ⟨h.1, h.2.below _⟩))))
  refine wpQuiet_nil ?_
  rintro _ ⟨y1, rfl⟩
  obtain ⟨y2, hy2⟩ := Wb.next (x := y0) y1.bel
  rw [hy2]
  go_wp2_with fail
  refine (named_no 6 _ _ _ _ _ _ rfl rfl).mono ?_
  rintro e w1 ⟨rfl, q1⟩
  obtain ⟨y3, rfl⟩ := Wb.next q1
  clear q1
  go_wp2
  go_ret2
  refine ⟨ret_t ?_, KB.out y3⟩
  rw [HW.out]
  go_light
  clear KB RI HS HS1 HW a0 a1 a2 a3 a4 a5 b0 b1 b2 b3 b4 b5 b6 b7 b8 e0 e1 e2 e3 e4 e5 e6 e7 e8 k0
  exact encw_6 d imm kind HBD.out

end Go.Proofs.YtnehdgapcgbdeaaDoor
