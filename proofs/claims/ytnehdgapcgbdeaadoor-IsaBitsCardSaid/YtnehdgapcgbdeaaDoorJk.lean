/-
  Layer 3, the code's walks: Encode, operations 13 to 18.
-/
import Derived.Test.YtnehdgapcgbdeaaDoorJh
import Derived.Test.YtnehdgapcgbdeaaDoorJf
import Derived.Test.YtnehdgapcgbdeaaDoorBr
import Derived.Test.YtnehdgapcgbdeaaDoorIr
set_option linter.unusedSimpArgs false
set_option linter.unusedVariables false
namespace Go.Proofs.YtnehdgapcgbdeaaDoor
open Go.RowKit

theorem enc_bd_13 (d n m : Int) (hr : GrI.right ⟨13, d, n, m, 0, 0⟩) : 0 ≤ d ∧ d ≤ 31 ∧ 0 ≤ n ∧ n ≤ 31 ∧ 0 ≤ m ∧ m ≤ 31 := by
  simp [GrI.right, GrI.parts, GrI.nums] at hr
  first | trivial | omega

set_option maxRecDepth 100000 in
set_option maxHeartbeats 6400000 in
theorem xenc_13 (d n m : Int) (w : World) (hs : ShAt w) (hr : GrI.right ⟨13, d, n, m, 0, 0⟩) :
    Calls Tryd.prog 10 #[.agg #[.int .i64 13, .int .i64 d, .int .i64 n, .int .i64 m, .int .i64 0, .int .i64 0]] w fun e w' => e = .returned (.tuple #[.int .u32 (GrI.word ⟨13, d, n, m, 0, 0⟩), .int .i64 0]) ∧ Below w.heap.size w w' := by
  have hb := enc_bd_13 d n m hr
  have HBD := Lib.hid hb
  have RI := Lib.hid (fun w hs => xright_13 d n m 0 0 w hs (by omega) (by omega))
  rw [show GrI.code (decide (GrI.right ⟨13, d, n, m, 0, 0⟩)) = 0 by simp [GrI.code, hr]] at RI
  clear hr
  have HS := Lib.hid hs
  clear hs
  obtain ⟨WW, hWW⟩ : ∃ WW, WW = GrI.word ⟨13, d, n, m, 0, 0⟩ := ⟨_, rfl⟩
  rw [← hWW]
  have HW := Lib.hid hWW
  clear hWW
  go_enter Tryd.func10, Tryd.ntmps10
  go_wp2_with fail
  refine (RI.out _ (HS.out.alloc _)).mono ?_
  rintro e w1 ⟨rfl, b1⟩
  have HS1 := Lib.hid ((HS.out.alloc _).below b1)
  obtain ⟨x1, rfl⟩ := Wb.start b1
  clear b1
  have e0 : x1.at.cell? ⟨0, 117, none⟩ = some (.int .u32 3942645760) := HS1.out 117 (by decide)
  have e1 : x1.at.cell? ⟨0, 118, none⟩ = some (.bool true) := HS1.out 118 (by decide)
  have e2 : x1.at.cell? ⟨0, 119, none⟩ = some (.bool true) := HS1.out 119 (by decide)
  have e3 : x1.at.cell? ⟨0, 120, none⟩ = some (.bool true) := HS1.out 120 (by decide)
  have e4 : x1.at.cell? ⟨0, 121, none⟩ = some (.int .i64 0) := HS1.out 121 (by decide)
  have e5 : x1.at.cell? ⟨0, 122, none⟩ = some (.int .i64 0) := HS1.out 122 (by decide)
  have e6 : x1.at.cell? ⟨0, 123, none⟩ = some (.int .i64 0) := HS1.out 123 (by decide)
  have e7 : x1.at.cell? ⟨0, 124, none⟩ = some (.int .i64 0) := HS1.out 124 (by decide)
  have e8 : x1.at.cell? ⟨0, 125, none⟩ = some (.int .i64 0) := HS1.out 125 (by decide)
  have k0 : x1.at.cell? ⟨w.heap.size, 0, none⟩ = some (.int .i64 13) := by rw [x1.cell _ (by simp)]; simp [World.cell?_alloc_new]
  have lt1 : w.heap.size < x1.at.heap.size := by have := x1.size; simp at this; omega
  have a0 : ∀ z : Wb (x1.at.alloc (.cells #[.int .u32 3942645760, .bool true, .bool true, .bool true, .int .i64 0, .int .i64 0, .int .i64 0, .int .i64 0, .int .i64 0] 40)), z.at.cell? ⟨w.heap.size, 0, none⟩ = some (.int .i64 13) := fun z => (z.prev _ lt1).trans (by rw [x1.cell _ (by simp)]; simp [World.cell?_alloc_new])
  have a1 : ∀ z : Wb (x1.at.alloc (.cells #[.int .u32 3942645760, .bool true, .bool true, .bool true, .int .i64 0, .int .i64 0, .int .i64 0, .int .i64 0, .int .i64 0] 40)), z.at.cell? ⟨w.heap.size, 1, none⟩ = some (.int .i64 d) := fun z => (z.prev _ lt1).trans (by rw [x1.cell _ (by simp)]; simp [World.cell?_alloc_new])
  have a2 : ∀ z : Wb (x1.at.alloc (.cells #[.int .u32 3942645760, .bool true, .bool true, .bool true, .int .i64 0, .int .i64 0, .int .i64 0, .int .i64 0, .int .i64 0] 40)), z.at.cell? ⟨w.heap.size, 2, none⟩ = some (.int .i64 n) := fun z => (z.prev _ lt1).trans (by rw [x1.cell _ (by simp)]; simp [World.cell?_alloc_new])
  have a3 : ∀ z : Wb (x1.at.alloc (.cells #[.int .u32 3942645760, .bool true, .bool true, .bool true, .int .i64 0, .int .i64 0, .int .i64 0, .int .i64 0, .int .i64 0] 40)), z.at.cell? ⟨w.heap.size, 3, none⟩ = some (.int .i64 m) := fun z => (z.prev _ lt1).trans (by rw [x1.cell _ (by simp)]; simp [World.cell?_alloc_new])
  have a4 : ∀ z : Wb (x1.at.alloc (.cells #[.int .u32 3942645760, .bool true, .bool true, .bool true, .int .i64 0, .int .i64 0, .int .i64 0, .int .i64 0, .int .i64 0] 40)), z.at.cell? ⟨w.heap.size, 4, none⟩ = some (.int .i64 0) := fun z => (z.prev _ lt1).trans (by rw [x1.cell _ (by simp)]; simp [World.cell?_alloc_new])
  have a5 : ∀ z : Wb (x1.at.alloc (.cells #[.int .u32 3942645760, .bool true, .bool true, .bool true, .int .i64 0, .int .i64 0, .int .i64 0, .int .i64 0, .int .i64 0] 40)), z.at.cell? ⟨w.heap.size, 5, none⟩ = some (.int .i64 0) := fun z => (z.prev _ lt1).trans (by rw [x1.cell _ (by simp)]; simp [World.cell?_alloc_new])
  have b0 : ∀ z : Wb (x1.at.alloc (.cells #[.int .u32 3942645760, .bool true, .bool true, .bool true, .int .i64 0, .int .i64 0, .int .i64 0, .int .i64 0, .int .i64 0] 40)), z.at.cell? ⟨x1.at.heap.size, 0, none⟩ = some (.int .u32 3942645760) := fun z => by rw [z.cell _ (by simp)]; simp [World.cell?_alloc_new]
  have b1 : ∀ z : Wb (x1.at.alloc (.cells #[.int .u32 3942645760, .bool true, .bool true, .bool true, .int .i64 0, .int .i64 0, .int .i64 0, .int .i64 0, .int .i64 0] 40)), z.at.cell? ⟨x1.at.heap.size, 1, none⟩ = some (.bool true) := fun z => by rw [z.cell _ (by simp)]; simp [World.cell?_alloc_new]
  have b2 : ∀ z : Wb (x1.at.alloc (.cells #[.int .u32 3942645760, .bool true, .bool true, .bool true, .int .i64 0, .int .i64 0, .int .i64 0, .int .i64 0, .int .i64 0] 40)), z.at.cell? ⟨x1.at.heap.size, 2, none⟩ = some (.bool true) := fun z => by rw [z.cell _ (by simp)]; simp [World.cell?_alloc_new]
  have b3 : ∀ z : Wb (x1.at.alloc (.cells #[.int .u32 3942645760, .bool true, .bool true, .bool true, .int .i64 0, .int .i64 0, .int .i64 0, .int .i64 0, .int .i64 0] 40)), z.at.cell? ⟨x1.at.heap.size, 3, none⟩ = some (.bool true) := fun z => by rw [z.cell _ (by simp)]; simp [World.cell?_alloc_new]
  have b4 : ∀ z : Wb (x1.at.alloc (.cells #[.int .u32 3942645760, .bool true, .bool true, .bool true, .int .i64 0, .int .i64 0, .int .i64 0, .int .i64 0, .int .i64 0] 40)), z.at.cell? ⟨x1.at.heap.size, 4, none⟩ = some (.int .i64 0) := fun z => by rw [z.cell _ (by simp)]; simp [World.cell?_alloc_new]
  have b5 : ∀ z : Wb (x1.at.alloc (.cells #[.int .u32 3942645760, .bool true, .bool true, .bool true, .int .i64 0, .int .i64 0, .int .i64 0, .int .i64 0, .int .i64 0] 40)), z.at.cell? ⟨x1.at.heap.size, 5, none⟩ = some (.int .i64 0) := fun z => by rw [z.cell _ (by simp)]; simp [World.cell?_alloc_new]
  have b6 : ∀ z : Wb (x1.at.alloc (.cells #[.int .u32 3942645760, .bool true, .bool true, .bool true, .int .i64 0, .int .i64 0, .int .i64 0, .int .i64 0, .int .i64 0] 40)), z.at.cell? ⟨x1.at.heap.size, 6, none⟩ = some (.int .i64 0) := fun z => by rw [z.cell _ (by simp)]; simp [World.cell?_alloc_new]
  have b7 : ∀ z : Wb (x1.at.alloc (.cells #[.int .u32 3942645760, .bool true, .bool true, .bool true, .int .i64 0, .int .i64 0, .int .i64 0, .int .i64 0, .int .i64 0] 40)), z.at.cell? ⟨x1.at.heap.size, 7, none⟩ = some (.int .i64 0) := fun z => by rw [z.cell _ (by simp)]; simp [World.cell?_alloc_new]
  have b8 : ∀ z : Wb (x1.at.alloc (.cells #[.int .u32 3942645760, .bool true, .bool true, .bool true, .int .i64 0, .int .i64 0, .int .i64 0, .int .i64 0, .int .i64 0] 40)), z.at.cell? ⟨x1.at.heap.size, 8, none⟩ = some (.int .i64 0) := fun z => by rw [z.cell _ (by simp)]; simp [World.cell?_alloc_new]
  have KB := Lib.hid (fun (z : Wb (x1.at.alloc (.cells #[.int .u32 3942645760, .bool true, .bool true, .bool true, .int .i64 0, .int .i64 0, .int .i64 0, .int .i64 0, .int .i64 0] 40))) => (((((Below.refl _ _).alloc (Nat.le_refl _) _).trans (x1.bel.mono (by simp))).alloc (by omega) _).trans (z.bel.mono (by simp; omega)) : Below w.heap.size w z.at))
  go_upto_region 5 with fail
  obtain ⟨y0, hy⟩ : ∃ y : Wb (x1.at.alloc (.cells #[.int .u32 3942645760, .bool true, .bool true, .bool true, .int .i64 0, .int .i64 0, .int .i64 0, .int .i64 0, .int .i64 0] 40)), (x1.at.alloc (.cells #[.int .u32 3942645760, .bool true, .bool true, .bool true, .int .i64 0, .int .i64 0, .int .i64 0, .int .i64 0, .int .i64 0] 40)) = y.at := ⟨⟨_, Below.refl _ _⟩, rfl⟩
  rw [hy]
  clear hy
  go_wp2_with fail
  refine (named_no 13 _ _ _ _ _ _ rfl rfl).mono ?_
  rintro e w1 ⟨rfl, q1⟩
  obtain ⟨y3, rfl⟩ := Wb.next q1
  clear q1
  go_wp2
  go_ret2
  refine ⟨ret_t ?_, KB.out y3⟩
  rw [HW.out]
  go_light
  clear KB RI HS HS1 HW a0 a1 a2 a3 a4 a5 b0 b1 b2 b3 b4 b5 b6 b7 b8 e0 e1 e2 e3 e4 e5 e6 e7 e8 k0
  exact encw_13 d n m HBD.out

theorem enc_bd_14 (imm : Int) (hr : GrI.right ⟨14, 0, 0, 0, imm, 0⟩) : -33554432 ≤ imm ∧ imm ≤ 33554431 := by
  simp [GrI.right, GrI.parts, GrI.nums] at hr
  first | trivial | omega

set_option maxRecDepth 100000 in
set_option maxHeartbeats 6400000 in
theorem xenc_14 (imm : Int) (w : World) (hs : ShAt w) (hr : GrI.right ⟨14, 0, 0, 0, imm, 0⟩) :
    Calls Tryd.prog 10 #[.agg #[.int .i64 14, .int .i64 0, .int .i64 0, .int .i64 0, .int .i64 imm, .int .i64 0]] w fun e w' => e = .returned (.tuple #[.int .u32 (GrI.word ⟨14, 0, 0, 0, imm, 0⟩), .int .i64 0]) ∧ Below w.heap.size w w' := by
  have hb := enc_bd_14 imm hr
  have HBD := Lib.hid hb
  have RI := Lib.hid (fun w hs => xright_14 0 0 0 imm 0 w hs (by omega) (by omega))
  rw [show GrI.code (decide (GrI.right ⟨14, 0, 0, 0, imm, 0⟩)) = 0 by simp [GrI.code, hr]] at RI
  clear hr
  have HS := Lib.hid hs
  clear hs
  obtain ⟨WW, hWW⟩ : ∃ WW, WW = GrI.word ⟨14, 0, 0, 0, imm, 0⟩ := ⟨_, rfl⟩
  rw [← hWW]
  have HW := Lib.hid hWW
  clear hWW
  go_enter Tryd.func10, Tryd.ntmps10
  go_wp2_with fail
  refine (RI.out _ (HS.out.alloc _)).mono ?_
  rintro e w1 ⟨rfl, b1⟩
  have HS1 := Lib.hid ((HS.out.alloc _).below b1)
  obtain ⟨x1, rfl⟩ := Wb.start b1
  clear b1
  have e0 : x1.at.cell? ⟨0, 126, none⟩ = some (.int .u32 335544320) := HS1.out 126 (by decide)
  have e1 : x1.at.cell? ⟨0, 127, none⟩ = some (.bool false) := HS1.out 127 (by decide)
  have e2 : x1.at.cell? ⟨0, 128, none⟩ = some (.bool false) := HS1.out 128 (by decide)
  have e3 : x1.at.cell? ⟨0, 129, none⟩ = some (.bool false) := HS1.out 129 (by decide)
  have e4 : x1.at.cell? ⟨0, 130, none⟩ = some (.int .i64 (-26)) := HS1.out 130 (by decide)
  have e5 : x1.at.cell? ⟨0, 131, none⟩ = some (.int .i64 0) := HS1.out 131 (by decide)
  have e6 : x1.at.cell? ⟨0, 132, none⟩ = some (.int .i64 1) := HS1.out 132 (by decide)
  have e7 : x1.at.cell? ⟨0, 133, none⟩ = some (.int .i64 0) := HS1.out 133 (by decide)
  have e8 : x1.at.cell? ⟨0, 134, none⟩ = some (.int .i64 0) := HS1.out 134 (by decide)
  have k0 : x1.at.cell? ⟨w.heap.size, 0, none⟩ = some (.int .i64 14) := by rw [x1.cell _ (by simp)]; simp [World.cell?_alloc_new]
  have lt1 : w.heap.size < x1.at.heap.size := by have := x1.size; simp at this; omega
  have a0 : ∀ z : Wb (x1.at.alloc (.cells #[.int .u32 335544320, .bool false, .bool false, .bool false, .int .i64 (-26), .int .i64 0, .int .i64 1, .int .i64 0, .int .i64 0] 40)), z.at.cell? ⟨w.heap.size, 0, none⟩ = some (.int .i64 14) := fun z => (z.prev _ lt1).trans (by rw [x1.cell _ (by simp)]; simp [World.cell?_alloc_new])
  have a1 : ∀ z : Wb (x1.at.alloc (.cells #[.int .u32 335544320, .bool false, .bool false, .bool false, .int .i64 (-26), .int .i64 0, .int .i64 1, .int .i64 0, .int .i64 0] 40)), z.at.cell? ⟨w.heap.size, 1, none⟩ = some (.int .i64 0) := fun z => (z.prev _ lt1).trans (by rw [x1.cell _ (by simp)]; simp [World.cell?_alloc_new])
  have a2 : ∀ z : Wb (x1.at.alloc (.cells #[.int .u32 335544320, .bool false, .bool false, .bool false, .int .i64 (-26), .int .i64 0, .int .i64 1, .int .i64 0, .int .i64 0] 40)), z.at.cell? ⟨w.heap.size, 2, none⟩ = some (.int .i64 0) := fun z => (z.prev _ lt1).trans (by rw [x1.cell _ (by simp)]; simp [World.cell?_alloc_new])
  have a3 : ∀ z : Wb (x1.at.alloc (.cells #[.int .u32 335544320, .bool false, .bool false, .bool false, .int .i64 (-26), .int .i64 0, .int .i64 1, .int .i64 0, .int .i64 0] 40)), z.at.cell? ⟨w.heap.size, 3, none⟩ = some (.int .i64 0) := fun z => (z.prev _ lt1).trans (by rw [x1.cell _ (by simp)]; simp [World.cell?_alloc_new])
  have a4 : ∀ z : Wb (x1.at.alloc (.cells #[.int .u32 335544320, .bool false, .bool false, .bool false, .int .i64 (-26), .int .i64 0, .int .i64 1, .int .i64 0, .int .i64 0] 40)), z.at.cell? ⟨w.heap.size, 4, none⟩ = some (.int .i64 imm) := fun z => (z.prev _ lt1).trans (by rw [x1.cell _ (by simp)]; simp [World.cell?_alloc_new])
  have a5 : ∀ z : Wb (x1.at.alloc (.cells #[.int .u32 335544320, .bool false, .bool false, .bool false, .int .i64 (-26), .int .i64 0, .int .i64 1, .int .i64 0, .int .i64 0] 40)), z.at.cell? ⟨w.heap.size, 5, none⟩ = some (.int .i64 0) := fun z => (z.prev _ lt1).trans (by rw [x1.cell _ (by simp)]; simp [World.cell?_alloc_new])
  have b0 : ∀ z : Wb (x1.at.alloc (.cells #[.int .u32 335544320, .bool false, .bool false, .bool false, .int .i64 (-26), .int .i64 0, .int .i64 1, .int .i64 0, .int .i64 0] 40)), z.at.cell? ⟨x1.at.heap.size, 0, none⟩ = some (.int .u32 335544320) := fun z => by rw [z.cell _ (by simp)]; simp [World.cell?_alloc_new]
  have b1 : ∀ z : Wb (x1.at.alloc (.cells #[.int .u32 335544320, .bool false, .bool false, .bool false, .int .i64 (-26), .int .i64 0, .int .i64 1, .int .i64 0, .int .i64 0] 40)), z.at.cell? ⟨x1.at.heap.size, 1, none⟩ = some (.bool false) := fun z => by rw [z.cell _ (by simp)]; simp [World.cell?_alloc_new]
  have b2 : ∀ z : Wb (x1.at.alloc (.cells #[.int .u32 335544320, .bool false, .bool false, .bool false, .int .i64 (-26), .int .i64 0, .int .i64 1, .int .i64 0, .int .i64 0] 40)), z.at.cell? ⟨x1.at.heap.size, 2, none⟩ = some (.bool false) := fun z => by rw [z.cell _ (by simp)]; simp [World.cell?_alloc_new]
  have b3 : ∀ z : Wb (x1.at.alloc (.cells #[.int .u32 335544320, .bool false, .bool false, .bool false, .int .i64 (-26), .int .i64 0, .int .i64 1, .int .i64 0, .int .i64 0] 40)), z.at.cell? ⟨x1.at.heap.size, 3, none⟩ = some (.bool false) := fun z => by rw [z.cell _ (by simp)]; simp [World.cell?_alloc_new]
  have b4 : ∀ z : Wb (x1.at.alloc (.cells #[.int .u32 335544320, .bool false, .bool false, .bool false, .int .i64 (-26), .int .i64 0, .int .i64 1, .int .i64 0, .int .i64 0] 40)), z.at.cell? ⟨x1.at.heap.size, 4, none⟩ = some (.int .i64 (-26)) := fun z => by rw [z.cell _ (by simp)]; simp [World.cell?_alloc_new]
  have b5 : ∀ z : Wb (x1.at.alloc (.cells #[.int .u32 335544320, .bool false, .bool false, .bool false, .int .i64 (-26), .int .i64 0, .int .i64 1, .int .i64 0, .int .i64 0] 40)), z.at.cell? ⟨x1.at.heap.size, 5, none⟩ = some (.int .i64 0) := fun z => by rw [z.cell _ (by simp)]; simp [World.cell?_alloc_new]
  have b6 : ∀ z : Wb (x1.at.alloc (.cells #[.int .u32 335544320, .bool false, .bool false, .bool false, .int .i64 (-26), .int .i64 0, .int .i64 1, .int .i64 0, .int .i64 0] 40)), z.at.cell? ⟨x1.at.heap.size, 6, none⟩ = some (.int .i64 1) := fun z => by rw [z.cell _ (by simp)]; simp [World.cell?_alloc_new]
  have b7 : ∀ z : Wb (x1.at.alloc (.cells #[.int .u32 335544320, .bool false, .bool false, .bool false, .int .i64 (-26), .int .i64 0, .int .i64 1, .int .i64 0, .int .i64 0] 40)), z.at.cell? ⟨x1.at.heap.size, 7, none⟩ = some (.int .i64 0) := fun z => by rw [z.cell _ (by simp)]; simp [World.cell?_alloc_new]
  have b8 : ∀ z : Wb (x1.at.alloc (.cells #[.int .u32 335544320, .bool false, .bool false, .bool false, .int .i64 (-26), .int .i64 0, .int .i64 1, .int .i64 0, .int .i64 0] 40)), z.at.cell? ⟨x1.at.heap.size, 8, none⟩ = some (.int .i64 0) := fun z => by rw [z.cell _ (by simp)]; simp [World.cell?_alloc_new]
  have KB := Lib.hid (fun (z : Wb (x1.at.alloc (.cells #[.int .u32 335544320, .bool false, .bool false, .bool false, .int .i64 (-26), .int .i64 0, .int .i64 1, .int .i64 0, .int .i64 0] 40))) => (((((Below.refl _ _).alloc (Nat.le_refl _) _).trans (x1.bel.mono (by simp))).alloc (by omega) _).trans (z.bel.mono (by simp; omega)) : Below w.heap.size w z.at))
  go_upto_region 5 with fail
  obtain ⟨y0, hy⟩ : ∃ y : Wb (x1.at.alloc (.cells #[.int .u32 335544320, .bool false, .bool false, .bool false, .int .i64 (-26), .int .i64 0, .int .i64 1, .int .i64 0, .int .i64 0] 40)), (x1.at.alloc (.cells #[.int .u32 335544320, .bool false, .bool false, .bool false, .int .i64 (-26), .int .i64 0, .int .i64 1, .int .i64 0, .int .i64 0] 40)) = y.at := ⟨⟨_, Below.refl _ _⟩, rfl⟩
  rw [hy]
  clear hy
  go_wp2_with fail
  have j4 : ∀ z : Wb y0.at, z.at.cell? ⟨w.heap.size, 4, none⟩ = some (.int .i64 imm) := y0.lift a4
  have f0 : ∀ z : Wb y0.at, z.at.cell? ⟨x1.at.heap.size, 0, none⟩ = some (.int .u32 335544320) := y0.lift b0
  have f1 : ∀ z : Wb y0.at, z.at.cell? ⟨x1.at.heap.size, 1, none⟩ = some (.bool false) := y0.lift b1
  have f2 : ∀ z : Wb y0.at, z.at.cell? ⟨x1.at.heap.size, 2, none⟩ = some (.bool false) := y0.lift b2
  have f3 : ∀ z : Wb y0.at, z.at.cell? ⟨x1.at.heap.size, 3, none⟩ = some (.bool false) := y0.lift b3
  have f4 : ∀ z : Wb y0.at, z.at.cell? ⟨x1.at.heap.size, 4, none⟩ = some (.int .i64 (-26)) := y0.lift b4
  have f5 : ∀ z : Wb y0.at, z.at.cell? ⟨x1.at.heap.size, 5, none⟩ = some (.int .i64 0) := y0.lift b5
  have f6 : ∀ z : Wb y0.at, z.at.cell? ⟨x1.at.heap.size, 6, none⟩ = some (.int .i64 1) := y0.lift b6
  have f7 : ∀ z : Wb y0.at, z.at.cell? ⟨x1.at.heap.size, 7, none⟩ = some (.int .i64 0) := y0.lift b7
  have f8 : ∀ z : Wb y0.at, z.at.cell? ⟨x1.at.heap.size, 8, none⟩ = some (.int .i64 0) := y0.lift b8
  refine wp_region_wb (by kernel_rfl) (by kernel_rfl) ?_
  repeat (go_big_quiet_step (first | (go_at_call 17; exact Calls.wb (width_any _ _ _ _ _ _ _ _ _ 26 _ (by decide))) | (go_at_call 16; exact Calls.wb ((get_any _ _ _ _ (by first | omega | exact uw_lo _) (by first | omega | exact uw_hi _)).mono fun e w' h => ⟨h.1, h.2.below _⟩))))
  refine wpQuiet_nil ?_
  rintro _ ⟨y1, rfl⟩
  obtain ⟨y2, hy2⟩ := Wb.next (x := y0) y1.bel
  rw [hy2]
  go_wp2_with fail
  refine (named_no 14 _ _ _ _ _ _ rfl rfl).mono ?_
  rintro e w1 ⟨rfl, q1⟩
  obtain ⟨y3, rfl⟩ := Wb.next q1
  clear q1
  go_wp2
  go_ret2
  refine ⟨ret_t ?_, KB.out y3⟩
  rw [HW.out]
  go_light
  clear KB RI HS HS1 HW a0 a1 a2 a3 a4 a5 b0 b1 b2 b3 b4 b5 b6 b7 b8 e0 e1 e2 e3 e4 e5 e6 e7 e8 k0
  exact encw_14 imm HBD.out

theorem enc_bd_15 (d imm : Int) (hr : GrI.right ⟨15, d, 0, 0, imm, 0⟩) : 0 ≤ d ∧ d ≤ 31 ∧ -262144 ≤ imm ∧ imm ≤ 262143 := by
  simp [GrI.right, GrI.parts, GrI.nums] at hr
  first | trivial | omega

set_option maxRecDepth 100000 in
set_option maxHeartbeats 6400000 in
theorem xenc_15 (d imm : Int) (w : World) (hs : ShAt w) (hr : GrI.right ⟨15, d, 0, 0, imm, 0⟩) :
    Calls Tryd.prog 10 #[.agg #[.int .i64 15, .int .i64 d, .int .i64 0, .int .i64 0, .int .i64 imm, .int .i64 0]] w fun e w' => e = .returned (.tuple #[.int .u32 (GrI.word ⟨15, d, 0, 0, imm, 0⟩), .int .i64 0]) ∧ Below w.heap.size w w' := by
  have hb := enc_bd_15 d imm hr
  have HBD := Lib.hid hb
  have RI := Lib.hid (fun w hs => xright_15 d 0 0 imm 0 w hs (by omega) (by omega))
  rw [show GrI.code (decide (GrI.right ⟨15, d, 0, 0, imm, 0⟩)) = 0 by simp [GrI.code, hr]] at RI
  clear hr
  have HS := Lib.hid hs
  clear hs
  obtain ⟨WW, hWW⟩ : ∃ WW, WW = GrI.word ⟨15, d, 0, 0, imm, 0⟩ := ⟨_, rfl⟩
  rw [← hWW]
  have HW := Lib.hid hWW
  clear hWW
  go_enter Tryd.func10, Tryd.ntmps10
  go_wp2_with fail
  refine (RI.out _ (HS.out.alloc _)).mono ?_
  rintro e w1 ⟨rfl, b1⟩
  have HS1 := Lib.hid ((HS.out.alloc _).below b1)
  obtain ⟨x1, rfl⟩ := Wb.start b1
  clear b1
  have e0 : x1.at.cell? ⟨0, 135, none⟩ = some (.int .u32 3019898880) := HS1.out 135 (by decide)
  have e1 : x1.at.cell? ⟨0, 136, none⟩ = some (.bool true) := HS1.out 136 (by decide)
  have e2 : x1.at.cell? ⟨0, 137, none⟩ = some (.bool false) := HS1.out 137 (by decide)
  have e3 : x1.at.cell? ⟨0, 138, none⟩ = some (.bool false) := HS1.out 138 (by decide)
  have e4 : x1.at.cell? ⟨0, 139, none⟩ = some (.int .i64 (-19)) := HS1.out 139 (by decide)
  have e5 : x1.at.cell? ⟨0, 140, none⟩ = some (.int .i64 5) := HS1.out 140 (by decide)
  have e6 : x1.at.cell? ⟨0, 141, none⟩ = some (.int .i64 1) := HS1.out 141 (by decide)
  have e7 : x1.at.cell? ⟨0, 142, none⟩ = some (.int .i64 0) := HS1.out 142 (by decide)
  have e8 : x1.at.cell? ⟨0, 143, none⟩ = some (.int .i64 0) := HS1.out 143 (by decide)
  have k0 : x1.at.cell? ⟨w.heap.size, 0, none⟩ = some (.int .i64 15) := by rw [x1.cell _ (by simp)]; simp [World.cell?_alloc_new]
  have lt1 : w.heap.size < x1.at.heap.size := by have := x1.size; simp at this; omega
  have a0 : ∀ z : Wb (x1.at.alloc (.cells #[.int .u32 3019898880, .bool true, .bool false, .bool false, .int .i64 (-19), .int .i64 5, .int .i64 1, .int .i64 0, .int .i64 0] 40)), z.at.cell? ⟨w.heap.size, 0, none⟩ = some (.int .i64 15) := fun z => (z.prev _ lt1).trans (by rw [x1.cell _ (by simp)]; simp [World.cell?_alloc_new])
  have a1 : ∀ z : Wb (x1.at.alloc (.cells #[.int .u32 3019898880, .bool true, .bool false, .bool false, .int .i64 (-19), .int .i64 5, .int .i64 1, .int .i64 0, .int .i64 0] 40)), z.at.cell? ⟨w.heap.size, 1, none⟩ = some (.int .i64 d) := fun z => (z.prev _ lt1).trans (by rw [x1.cell _ (by simp)]; simp [World.cell?_alloc_new])
  have a2 : ∀ z : Wb (x1.at.alloc (.cells #[.int .u32 3019898880, .bool true, .bool false, .bool false, .int .i64 (-19), .int .i64 5, .int .i64 1, .int .i64 0, .int .i64 0] 40)), z.at.cell? ⟨w.heap.size, 2, none⟩ = some (.int .i64 0) := fun z => (z.prev _ lt1).trans (by rw [x1.cell _ (by simp)]; simp [World.cell?_alloc_new])
  have a3 : ∀ z : Wb (x1.at.alloc (.cells #[.int .u32 3019898880, .bool true, .bool false, .bool false, .int .i64 (-19), .int .i64 5, .int .i64 1, .int .i64 0, .int .i64 0] 40)), z.at.cell? ⟨w.heap.size, 3, none⟩ = some (.int .i64 0) := fun z => (z.prev _ lt1).trans (by rw [x1.cell _ (by simp)]; simp [World.cell?_alloc_new])
  have a4 : ∀ z : Wb (x1.at.alloc (.cells #[.int .u32 3019898880, .bool true, .bool false, .bool false, .int .i64 (-19), .int .i64 5, .int .i64 1, .int .i64 0, .int .i64 0] 40)), z.at.cell? ⟨w.heap.size, 4, none⟩ = some (.int .i64 imm) := fun z => (z.prev _ lt1).trans (by rw [x1.cell _ (by simp)]; simp [World.cell?_alloc_new])
  have a5 : ∀ z : Wb (x1.at.alloc (.cells #[.int .u32 3019898880, .bool true, .bool false, .bool false, .int .i64 (-19), .int .i64 5, .int .i64 1, .int .i64 0, .int .i64 0] 40)), z.at.cell? ⟨w.heap.size, 5, none⟩ = some (.int .i64 0) := fun z => (z.prev _ lt1).trans (by rw [x1.cell _ (by simp)]; simp [World.cell?_alloc_new])
  have b0 : ∀ z : Wb (x1.at.alloc (.cells #[.int .u32 3019898880, .bool true, .bool false, .bool false, .int .i64 (-19), .int .i64 5, .int .i64 1, .int .i64 0, .int .i64 0] 40)), z.at.cell? ⟨x1.at.heap.size, 0, none⟩ = some (.int .u32 3019898880) := fun z => by rw [z.cell _ (by simp)]; simp [World.cell?_alloc_new]
  have b1 : ∀ z : Wb (x1.at.alloc (.cells #[.int .u32 3019898880, .bool true, .bool false, .bool false, .int .i64 (-19), .int .i64 5, .int .i64 1, .int .i64 0, .int .i64 0] 40)), z.at.cell? ⟨x1.at.heap.size, 1, none⟩ = some (.bool true) := fun z => by rw [z.cell _ (by simp)]; simp [World.cell?_alloc_new]
  have b2 : ∀ z : Wb (x1.at.alloc (.cells #[.int .u32 3019898880, .bool true, .bool false, .bool false, .int .i64 (-19), .int .i64 5, .int .i64 1, .int .i64 0, .int .i64 0] 40)), z.at.cell? ⟨x1.at.heap.size, 2, none⟩ = some (.bool false) := fun z => by rw [z.cell _ (by simp)]; simp [World.cell?_alloc_new]
  have b3 : ∀ z : Wb (x1.at.alloc (.cells #[.int .u32 3019898880, .bool true, .bool false, .bool false, .int .i64 (-19), .int .i64 5, .int .i64 1, .int .i64 0, .int .i64 0] 40)), z.at.cell? ⟨x1.at.heap.size, 3, none⟩ = some (.bool false) := fun z => by rw [z.cell _ (by simp)]; simp [World.cell?_alloc_new]
  have b4 : ∀ z : Wb (x1.at.alloc (.cells #[.int .u32 3019898880, .bool true, .bool false, .bool false, .int .i64 (-19), .int .i64 5, .int .i64 1, .int .i64 0, .int .i64 0] 40)), z.at.cell? ⟨x1.at.heap.size, 4, none⟩ = some (.int .i64 (-19)) := fun z => by rw [z.cell _ (by simp)]; simp [World.cell?_alloc_new]
  have b5 : ∀ z : Wb (x1.at.alloc (.cells #[.int .u32 3019898880, .bool true, .bool false, .bool false, .int .i64 (-19), .int .i64 5, .int .i64 1, .int .i64 0, .int .i64 0] 40)), z.at.cell? ⟨x1.at.heap.size, 5, none⟩ = some (.int .i64 5) := fun z => by rw [z.cell _ (by simp)]; simp [World.cell?_alloc_new]
  have b6 : ∀ z : Wb (x1.at.alloc (.cells #[.int .u32 3019898880, .bool true, .bool false, .bool false, .int .i64 (-19), .int .i64 5, .int .i64 1, .int .i64 0, .int .i64 0] 40)), z.at.cell? ⟨x1.at.heap.size, 6, none⟩ = some (.int .i64 1) := fun z => by rw [z.cell _ (by simp)]; simp [World.cell?_alloc_new]
  have b7 : ∀ z : Wb (x1.at.alloc (.cells #[.int .u32 3019898880, .bool true, .bool false, .bool false, .int .i64 (-19), .int .i64 5, .int .i64 1, .int .i64 0, .int .i64 0] 40)), z.at.cell? ⟨x1.at.heap.size, 7, none⟩ = some (.int .i64 0) := fun z => by rw [z.cell _ (by simp)]; simp [World.cell?_alloc_new]
  have b8 : ∀ z : Wb (x1.at.alloc (.cells #[.int .u32 3019898880, .bool true, .bool false, .bool false, .int .i64 (-19), .int .i64 5, .int .i64 1, .int .i64 0, .int .i64 0] 40)), z.at.cell? ⟨x1.at.heap.size, 8, none⟩ = some (.int .i64 0) := fun z => by rw [z.cell _ (by simp)]; simp [World.cell?_alloc_new]
  have KB := Lib.hid (fun (z : Wb (x1.at.alloc (.cells #[.int .u32 3019898880, .bool true, .bool false, .bool false, .int .i64 (-19), .int .i64 5, .int .i64 1, .int .i64 0, .int .i64 0] 40))) => (((((Below.refl _ _).alloc (Nat.le_refl _) _).trans (x1.bel.mono (by simp))).alloc (by omega) _).trans (z.bel.mono (by simp; omega)) : Below w.heap.size w z.at))
  go_upto_region 5 with fail
  obtain ⟨y0, hy⟩ : ∃ y : Wb (x1.at.alloc (.cells #[.int .u32 3019898880, .bool true, .bool false, .bool false, .int .i64 (-19), .int .i64 5, .int .i64 1, .int .i64 0, .int .i64 0] 40)), (x1.at.alloc (.cells #[.int .u32 3019898880, .bool true, .bool false, .bool false, .int .i64 (-19), .int .i64 5, .int .i64 1, .int .i64 0, .int .i64 0] 40)) = y.at := ⟨⟨_, Below.refl _ _⟩, rfl⟩
  rw [hy]
  clear hy
  go_wp2_with fail
  have j4 : ∀ z : Wb y0.at, z.at.cell? ⟨w.heap.size, 4, none⟩ = some (.int .i64 imm) := y0.lift a4
  have f0 : ∀ z : Wb y0.at, z.at.cell? ⟨x1.at.heap.size, 0, none⟩ = some (.int .u32 3019898880) := y0.lift b0
  have f1 : ∀ z : Wb y0.at, z.at.cell? ⟨x1.at.heap.size, 1, none⟩ = some (.bool true) := y0.lift b1
  have f2 : ∀ z : Wb y0.at, z.at.cell? ⟨x1.at.heap.size, 2, none⟩ = some (.bool false) := y0.lift b2
  have f3 : ∀ z : Wb y0.at, z.at.cell? ⟨x1.at.heap.size, 3, none⟩ = some (.bool false) := y0.lift b3
  have f4 : ∀ z : Wb y0.at, z.at.cell? ⟨x1.at.heap.size, 4, none⟩ = some (.int .i64 (-19)) := y0.lift b4
  have f5 : ∀ z : Wb y0.at, z.at.cell? ⟨x1.at.heap.size, 5, none⟩ = some (.int .i64 5) := y0.lift b5
  have f6 : ∀ z : Wb y0.at, z.at.cell? ⟨x1.at.heap.size, 6, none⟩ = some (.int .i64 1) := y0.lift b6
  have f7 : ∀ z : Wb y0.at, z.at.cell? ⟨x1.at.heap.size, 7, none⟩ = some (.int .i64 0) := y0.lift b7
  have f8 : ∀ z : Wb y0.at, z.at.cell? ⟨x1.at.heap.size, 8, none⟩ = some (.int .i64 0) := y0.lift b8
  refine wp_region_wb (by kernel_rfl) (by kernel_rfl) ?_
  repeat (go_big_quiet_step (first | (go_at_call 17; exact Calls.wb (width_any _ _ _ _ _ _ _ _ _ 19 _ (by decide))) | (go_at_call 16; exact Calls.wb ((get_any _ _ _ _ (by first | omega | exact uw_lo _) (by first | omega | exact uw_hi _)).mono fun e w' h => ⟨h.1, h.2.below _⟩))))
  refine wpQuiet_nil ?_
  rintro _ ⟨y1, rfl⟩
  obtain ⟨y2, hy2⟩ := Wb.next (x := y0) y1.bel
  rw [hy2]
  go_wp2_with fail
  refine (named_no 15 _ _ _ _ _ _ rfl rfl).mono ?_
  rintro e w1 ⟨rfl, q1⟩
  obtain ⟨y3, rfl⟩ := Wb.next q1
  clear q1
  go_wp2
  go_ret2
  refine ⟨ret_t ?_, KB.out y3⟩
  rw [HW.out]
  go_light
  clear KB RI HS HS1 HW a0 a1 a2 a3 a4 a5 b0 b1 b2 b3 b4 b5 b6 b7 b8 e0 e1 e2 e3 e4 e5 e6 e7 e8 k0
  exact encw_15 d imm HBD.out

theorem enc_bd_16 (d imm : Int) (hr : GrI.right ⟨16, d, 0, 0, imm, 0⟩) : 0 ≤ d ∧ d ≤ 31 ∧ -262144 ≤ imm ∧ imm ≤ 262143 := by
  simp [GrI.right, GrI.parts, GrI.nums] at hr
  first | trivial | omega

set_option maxRecDepth 100000 in
set_option maxHeartbeats 6400000 in
theorem xenc_16 (d imm : Int) (w : World) (hs : ShAt w) (hr : GrI.right ⟨16, d, 0, 0, imm, 0⟩) :
    Calls Tryd.prog 10 #[.agg #[.int .i64 16, .int .i64 d, .int .i64 0, .int .i64 0, .int .i64 imm, .int .i64 0]] w fun e w' => e = .returned (.tuple #[.int .u32 (GrI.word ⟨16, d, 0, 0, imm, 0⟩), .int .i64 0]) ∧ Below w.heap.size w w' := by
  have hb := enc_bd_16 d imm hr
  have HBD := Lib.hid hb
  have RI := Lib.hid (fun w hs => xright_16 d 0 0 imm 0 w hs (by omega) (by omega))
  rw [show GrI.code (decide (GrI.right ⟨16, d, 0, 0, imm, 0⟩)) = 0 by simp [GrI.code, hr]] at RI
  clear hr
  have HS := Lib.hid hs
  clear hs
  obtain ⟨WW, hWW⟩ : ∃ WW, WW = GrI.word ⟨16, d, 0, 0, imm, 0⟩ := ⟨_, rfl⟩
  rw [← hWW]
  have HW := Lib.hid hWW
  clear hWW
  go_enter Tryd.func10, Tryd.ntmps10
  go_wp2_with fail
  refine (RI.out _ (HS.out.alloc _)).mono ?_
  rintro e w1 ⟨rfl, b1⟩
  have HS1 := Lib.hid ((HS.out.alloc _).below b1)
  obtain ⟨x1, rfl⟩ := Wb.start b1
  clear b1
  have e0 : x1.at.cell? ⟨0, 144, none⟩ = some (.int .u32 3036676096) := HS1.out 144 (by decide)
  have e1 : x1.at.cell? ⟨0, 145, none⟩ = some (.bool true) := HS1.out 145 (by decide)
  have e2 : x1.at.cell? ⟨0, 146, none⟩ = some (.bool false) := HS1.out 146 (by decide)
  have e3 : x1.at.cell? ⟨0, 147, none⟩ = some (.bool false) := HS1.out 147 (by decide)
  have e4 : x1.at.cell? ⟨0, 148, none⟩ = some (.int .i64 (-19)) := HS1.out 148 (by decide)
  have e5 : x1.at.cell? ⟨0, 149, none⟩ = some (.int .i64 5) := HS1.out 149 (by decide)
  have e6 : x1.at.cell? ⟨0, 150, none⟩ = some (.int .i64 1) := HS1.out 150 (by decide)
  have e7 : x1.at.cell? ⟨0, 151, none⟩ = some (.int .i64 0) := HS1.out 151 (by decide)
  have e8 : x1.at.cell? ⟨0, 152, none⟩ = some (.int .i64 0) := HS1.out 152 (by decide)
  have k0 : x1.at.cell? ⟨w.heap.size, 0, none⟩ = some (.int .i64 16) := by rw [x1.cell _ (by simp)]; simp [World.cell?_alloc_new]
  have lt1 : w.heap.size < x1.at.heap.size := by have := x1.size; simp at this; omega
  have a0 : ∀ z : Wb (x1.at.alloc (.cells #[.int .u32 3036676096, .bool true, .bool false, .bool false, .int .i64 (-19), .int .i64 5, .int .i64 1, .int .i64 0, .int .i64 0] 40)), z.at.cell? ⟨w.heap.size, 0, none⟩ = some (.int .i64 16) := fun z => (z.prev _ lt1).trans (by rw [x1.cell _ (by simp)]; simp [World.cell?_alloc_new])
  have a1 : ∀ z : Wb (x1.at.alloc (.cells #[.int .u32 3036676096, .bool true, .bool false, .bool false, .int .i64 (-19), .int .i64 5, .int .i64 1, .int .i64 0, .int .i64 0] 40)), z.at.cell? ⟨w.heap.size, 1, none⟩ = some (.int .i64 d) := fun z => (z.prev _ lt1).trans (by rw [x1.cell _ (by simp)]; simp [World.cell?_alloc_new])
  have a2 : ∀ z : Wb (x1.at.alloc (.cells #[.int .u32 3036676096, .bool true, .bool false, .bool false, .int .i64 (-19), .int .i64 5, .int .i64 1, .int .i64 0, .int .i64 0] 40)), z.at.cell? ⟨w.heap.size, 2, none⟩ = some (.int .i64 0) := fun z => (z.prev _ lt1).trans (by rw [x1.cell _ (by simp)]; simp [World.cell?_alloc_new])
  have a3 : ∀ z : Wb (x1.at.alloc (.cells #[.int .u32 3036676096, .bool true, .bool false, .bool false, .int .i64 (-19), .int .i64 5, .int .i64 1, .int .i64 0, .int .i64 0] 40)), z.at.cell? ⟨w.heap.size, 3, none⟩ = some (.int .i64 0) := fun z => (z.prev _ lt1).trans (by rw [x1.cell _ (by simp)]; simp [World.cell?_alloc_new])
  have a4 : ∀ z : Wb (x1.at.alloc (.cells #[.int .u32 3036676096, .bool true, .bool false, .bool false, .int .i64 (-19), .int .i64 5, .int .i64 1, .int .i64 0, .int .i64 0] 40)), z.at.cell? ⟨w.heap.size, 4, none⟩ = some (.int .i64 imm) := fun z => (z.prev _ lt1).trans (by rw [x1.cell _ (by simp)]; simp [World.cell?_alloc_new])
  have a5 : ∀ z : Wb (x1.at.alloc (.cells #[.int .u32 3036676096, .bool true, .bool false, .bool false, .int .i64 (-19), .int .i64 5, .int .i64 1, .int .i64 0, .int .i64 0] 40)), z.at.cell? ⟨w.heap.size, 5, none⟩ = some (.int .i64 0) := fun z => (z.prev _ lt1).trans (by rw [x1.cell _ (by simp)]; simp [World.cell?_alloc_new])
  have b0 : ∀ z : Wb (x1.at.alloc (.cells #[.int .u32 3036676096, .bool true, .bool false, .bool false, .int .i64 (-19), .int .i64 5, .int .i64 1, .int .i64 0, .int .i64 0] 40)), z.at.cell? ⟨x1.at.heap.size, 0, none⟩ = some (.int .u32 3036676096) := fun z => by rw [z.cell _ (by simp)]; simp [World.cell?_alloc_new]
  have b1 : ∀ z : Wb (x1.at.alloc (.cells #[.int .u32 3036676096, .bool true, .bool false, .bool false, .int .i64 (-19), .int .i64 5, .int .i64 1, .int .i64 0, .int .i64 0] 40)), z.at.cell? ⟨x1.at.heap.size, 1, none⟩ = some (.bool true) := fun z => by rw [z.cell _ (by simp)]; simp [World.cell?_alloc_new]
  have b2 : ∀ z : Wb (x1.at.alloc (.cells #[.int .u32 3036676096, .bool true, .bool false, .bool false, .int .i64 (-19), .int .i64 5, .int .i64 1, .int .i64 0, .int .i64 0] 40)), z.at.cell? ⟨x1.at.heap.size, 2, none⟩ = some (.bool false) := fun z => by rw [z.cell _ (by simp)]; simp [World.cell?_alloc_new]
  have b3 : ∀ z : Wb (x1.at.alloc (.cells #[.int .u32 3036676096, .bool true, .bool false, .bool false, .int .i64 (-19), .int .i64 5, .int .i64 1, .int .i64 0, .int .i64 0] 40)), z.at.cell? ⟨x1.at.heap.size, 3, none⟩ = some (.bool false) := fun z => by rw [z.cell _ (by simp)]; simp [World.cell?_alloc_new]
  have b4 : ∀ z : Wb (x1.at.alloc (.cells #[.int .u32 3036676096, .bool true, .bool false, .bool false, .int .i64 (-19), .int .i64 5, .int .i64 1, .int .i64 0, .int .i64 0] 40)), z.at.cell? ⟨x1.at.heap.size, 4, none⟩ = some (.int .i64 (-19)) := fun z => by rw [z.cell _ (by simp)]; simp [World.cell?_alloc_new]
  have b5 : ∀ z : Wb (x1.at.alloc (.cells #[.int .u32 3036676096, .bool true, .bool false, .bool false, .int .i64 (-19), .int .i64 5, .int .i64 1, .int .i64 0, .int .i64 0] 40)), z.at.cell? ⟨x1.at.heap.size, 5, none⟩ = some (.int .i64 5) := fun z => by rw [z.cell _ (by simp)]; simp [World.cell?_alloc_new]
  have b6 : ∀ z : Wb (x1.at.alloc (.cells #[.int .u32 3036676096, .bool true, .bool false, .bool false, .int .i64 (-19), .int .i64 5, .int .i64 1, .int .i64 0, .int .i64 0] 40)), z.at.cell? ⟨x1.at.heap.size, 6, none⟩ = some (.int .i64 1) := fun z => by rw [z.cell _ (by simp)]; simp [World.cell?_alloc_new]
  have b7 : ∀ z : Wb (x1.at.alloc (.cells #[.int .u32 3036676096, .bool true, .bool false, .bool false, .int .i64 (-19), .int .i64 5, .int .i64 1, .int .i64 0, .int .i64 0] 40)), z.at.cell? ⟨x1.at.heap.size, 7, none⟩ = some (.int .i64 0) := fun z => by rw [z.cell _ (by simp)]; simp [World.cell?_alloc_new]
  have b8 : ∀ z : Wb (x1.at.alloc (.cells #[.int .u32 3036676096, .bool true, .bool false, .bool false, .int .i64 (-19), .int .i64 5, .int .i64 1, .int .i64 0, .int .i64 0] 40)), z.at.cell? ⟨x1.at.heap.size, 8, none⟩ = some (.int .i64 0) := fun z => by rw [z.cell _ (by simp)]; simp [World.cell?_alloc_new]
  have KB := Lib.hid (fun (z : Wb (x1.at.alloc (.cells #[.int .u32 3036676096, .bool true, .bool false, .bool false, .int .i64 (-19), .int .i64 5, .int .i64 1, .int .i64 0, .int .i64 0] 40))) => (((((Below.refl _ _).alloc (Nat.le_refl _) _).trans (x1.bel.mono (by simp))).alloc (by omega) _).trans (z.bel.mono (by simp; omega)) : Below w.heap.size w z.at))
  go_upto_region 5 with fail
  obtain ⟨y0, hy⟩ : ∃ y : Wb (x1.at.alloc (.cells #[.int .u32 3036676096, .bool true, .bool false, .bool false, .int .i64 (-19), .int .i64 5, .int .i64 1, .int .i64 0, .int .i64 0] 40)), (x1.at.alloc (.cells #[.int .u32 3036676096, .bool true, .bool false, .bool false, .int .i64 (-19), .int .i64 5, .int .i64 1, .int .i64 0, .int .i64 0] 40)) = y.at := ⟨⟨_, Below.refl _ _⟩, rfl⟩
  rw [hy]
  clear hy
  go_wp2_with fail
  have j4 : ∀ z : Wb y0.at, z.at.cell? ⟨w.heap.size, 4, none⟩ = some (.int .i64 imm) := y0.lift a4
  have f0 : ∀ z : Wb y0.at, z.at.cell? ⟨x1.at.heap.size, 0, none⟩ = some (.int .u32 3036676096) := y0.lift b0
  have f1 : ∀ z : Wb y0.at, z.at.cell? ⟨x1.at.heap.size, 1, none⟩ = some (.bool true) := y0.lift b1
  have f2 : ∀ z : Wb y0.at, z.at.cell? ⟨x1.at.heap.size, 2, none⟩ = some (.bool false) := y0.lift b2
  have f3 : ∀ z : Wb y0.at, z.at.cell? ⟨x1.at.heap.size, 3, none⟩ = some (.bool false) := y0.lift b3
  have f4 : ∀ z : Wb y0.at, z.at.cell? ⟨x1.at.heap.size, 4, none⟩ = some (.int .i64 (-19)) := y0.lift b4
  have f5 : ∀ z : Wb y0.at, z.at.cell? ⟨x1.at.heap.size, 5, none⟩ = some (.int .i64 5) := y0.lift b5
  have f6 : ∀ z : Wb y0.at, z.at.cell? ⟨x1.at.heap.size, 6, none⟩ = some (.int .i64 1) := y0.lift b6
  have f7 : ∀ z : Wb y0.at, z.at.cell? ⟨x1.at.heap.size, 7, none⟩ = some (.int .i64 0) := y0.lift b7
  have f8 : ∀ z : Wb y0.at, z.at.cell? ⟨x1.at.heap.size, 8, none⟩ = some (.int .i64 0) := y0.lift b8
  refine wp_region_wb (by kernel_rfl) (by kernel_rfl) ?_
  repeat (go_big_quiet_step (first | (go_at_call 17; exact Calls.wb (width_any _ _ _ _ _ _ _ _ _ 19 _ (by decide))) | (go_at_call 16; exact Calls.wb ((get_any _ _ _ _ (by first | omega | exact uw_lo _) (by first | omega | exact uw_hi _)).mono fun e w' h => ⟨h.1, h.2.below _⟩))))
  refine wpQuiet_nil ?_
  rintro _ ⟨y1, rfl⟩
  obtain ⟨y2, hy2⟩ := Wb.next (x := y0) y1.bel
  rw [hy2]
  go_wp2_with fail
  refine (named_no 16 _ _ _ _ _ _ rfl rfl).mono ?_
  rintro e w1 ⟨rfl, q1⟩
  obtain ⟨y3, rfl⟩ := Wb.next q1
  clear q1
  go_wp2
  go_ret2
  refine ⟨ret_t ?_, KB.out y3⟩
  rw [HW.out]
  go_light
  clear KB RI HS HS1 HW a0 a1 a2 a3 a4 a5 b0 b1 b2 b3 b4 b5 b6 b7 b8 e0 e1 e2 e3 e4 e5 e6 e7 e8 k0
  exact encw_16 d imm HBD.out

theorem enc_bd_17 (imm kind : Int) (hr : GrI.right ⟨17, 0, 0, 0, imm, kind⟩) : -262144 ≤ imm ∧ imm ≤ 262143 ∧ 0 ≤ kind ∧ kind ≤ 1 := by
  simp [GrI.right, GrI.parts, GrI.nums] at hr
  first | trivial | omega

set_option maxRecDepth 100000 in
set_option maxHeartbeats 6400000 in
theorem xenc_17 (imm kind : Int) (w : World) (hs : ShAt w) (hr : GrI.right ⟨17, 0, 0, 0, imm, kind⟩) :
    Calls Tryd.prog 10 #[.agg #[.int .i64 17, .int .i64 0, .int .i64 0, .int .i64 0, .int .i64 imm, .int .i64 kind]] w fun e w' => e = .returned (.tuple #[.int .u32 (GrI.word ⟨17, 0, 0, 0, imm, kind⟩), .int .i64 0]) ∧ Below w.heap.size w w' := by
  have hb := enc_bd_17 imm kind hr
  have HBD := Lib.hid hb
  have RI := Lib.hid (fun w hs => xright_17 0 0 0 imm kind w hs (by omega) (by omega))
  rw [show GrI.code (decide (GrI.right ⟨17, 0, 0, 0, imm, kind⟩)) = 0 by simp [GrI.code, hr]] at RI
  clear hr
  have HS := Lib.hid hs
  clear hs
  obtain ⟨WW, hWW⟩ : ∃ WW, WW = GrI.word ⟨17, 0, 0, 0, imm, kind⟩ := ⟨_, rfl⟩
  rw [← hWW]
  have HW := Lib.hid hWW
  clear hWW
  go_enter Tryd.func10, Tryd.ntmps10
  go_wp2_with fail
  refine (RI.out _ (HS.out.alloc _)).mono ?_
  rintro e w1 ⟨rfl, b1⟩
  have HS1 := Lib.hid ((HS.out.alloc _).below b1)
  obtain ⟨x1, rfl⟩ := Wb.start b1
  clear b1
  have e0 : x1.at.cell? ⟨0, 153, none⟩ = some (.int .u32 1409286144) := HS1.out 153 (by decide)
  have e1 : x1.at.cell? ⟨0, 154, none⟩ = some (.bool false) := HS1.out 154 (by decide)
  have e2 : x1.at.cell? ⟨0, 155, none⟩ = some (.bool false) := HS1.out 155 (by decide)
  have e3 : x1.at.cell? ⟨0, 156, none⟩ = some (.bool false) := HS1.out 156 (by decide)
  have e4 : x1.at.cell? ⟨0, 157, none⟩ = some (.int .i64 (-19)) := HS1.out 157 (by decide)
  have e5 : x1.at.cell? ⟨0, 158, none⟩ = some (.int .i64 5) := HS1.out 158 (by decide)
  have e6 : x1.at.cell? ⟨0, 159, none⟩ = some (.int .i64 1) := HS1.out 159 (by decide)
  have e7 : x1.at.cell? ⟨0, 160, none⟩ = some (.int .i64 2) := HS1.out 160 (by decide)
  have e8 : x1.at.cell? ⟨0, 161, none⟩ = some (.int .i64 0) := HS1.out 161 (by decide)
  have k0 : x1.at.cell? ⟨w.heap.size, 0, none⟩ = some (.int .i64 17) := by rw [x1.cell _ (by simp)]; simp [World.cell?_alloc_new]
  have lt1 : w.heap.size < x1.at.heap.size := by have := x1.size; simp at this; omega
  have a0 : ∀ z : Wb (x1.at.alloc (.cells #[.int .u32 1409286144, .bool false, .bool false, .bool false, .int .i64 (-19), .int .i64 5, .int .i64 1, .int .i64 2, .int .i64 0] 40)), z.at.cell? ⟨w.heap.size, 0, none⟩ = some (.int .i64 17) := fun z => (z.prev _ lt1).trans (by rw [x1.cell _ (by simp)]; simp [World.cell?_alloc_new])
  have a1 : ∀ z : Wb (x1.at.alloc (.cells #[.int .u32 1409286144, .bool false, .bool false, .bool false, .int .i64 (-19), .int .i64 5, .int .i64 1, .int .i64 2, .int .i64 0] 40)), z.at.cell? ⟨w.heap.size, 1, none⟩ = some (.int .i64 0) := fun z => (z.prev _ lt1).trans (by rw [x1.cell _ (by simp)]; simp [World.cell?_alloc_new])
  have a2 : ∀ z : Wb (x1.at.alloc (.cells #[.int .u32 1409286144, .bool false, .bool false, .bool false, .int .i64 (-19), .int .i64 5, .int .i64 1, .int .i64 2, .int .i64 0] 40)), z.at.cell? ⟨w.heap.size, 2, none⟩ = some (.int .i64 0) := fun z => (z.prev _ lt1).trans (by rw [x1.cell _ (by simp)]; simp [World.cell?_alloc_new])
  have a3 : ∀ z : Wb (x1.at.alloc (.cells #[.int .u32 1409286144, .bool false, .bool false, .bool false, .int .i64 (-19), .int .i64 5, .int .i64 1, .int .i64 2, .int .i64 0] 40)), z.at.cell? ⟨w.heap.size, 3, none⟩ = some (.int .i64 0) := fun z => (z.prev _ lt1).trans (by rw [x1.cell _ (by simp)]; simp [World.cell?_alloc_new])
  have a4 : ∀ z : Wb (x1.at.alloc (.cells #[.int .u32 1409286144, .bool false, .bool false, .bool false, .int .i64 (-19), .int .i64 5, .int .i64 1, .int .i64 2, .int .i64 0] 40)), z.at.cell? ⟨w.heap.size, 4, none⟩ = some (.int .i64 imm) := fun z => (z.prev _ lt1).trans (by rw [x1.cell _ (by simp)]; simp [World.cell?_alloc_new])
  have a5 : ∀ z : Wb (x1.at.alloc (.cells #[.int .u32 1409286144, .bool false, .bool false, .bool false, .int .i64 (-19), .int .i64 5, .int .i64 1, .int .i64 2, .int .i64 0] 40)), z.at.cell? ⟨w.heap.size, 5, none⟩ = some (.int .i64 kind) := fun z => (z.prev _ lt1).trans (by rw [x1.cell _ (by simp)]; simp [World.cell?_alloc_new])
  have b0 : ∀ z : Wb (x1.at.alloc (.cells #[.int .u32 1409286144, .bool false, .bool false, .bool false, .int .i64 (-19), .int .i64 5, .int .i64 1, .int .i64 2, .int .i64 0] 40)), z.at.cell? ⟨x1.at.heap.size, 0, none⟩ = some (.int .u32 1409286144) := fun z => by rw [z.cell _ (by simp)]; simp [World.cell?_alloc_new]
  have b1 : ∀ z : Wb (x1.at.alloc (.cells #[.int .u32 1409286144, .bool false, .bool false, .bool false, .int .i64 (-19), .int .i64 5, .int .i64 1, .int .i64 2, .int .i64 0] 40)), z.at.cell? ⟨x1.at.heap.size, 1, none⟩ = some (.bool false) := fun z => by rw [z.cell _ (by simp)]; simp [World.cell?_alloc_new]
  have b2 : ∀ z : Wb (x1.at.alloc (.cells #[.int .u32 1409286144, .bool false, .bool false, .bool false, .int .i64 (-19), .int .i64 5, .int .i64 1, .int .i64 2, .int .i64 0] 40)), z.at.cell? ⟨x1.at.heap.size, 2, none⟩ = some (.bool false) := fun z => by rw [z.cell _ (by simp)]; simp [World.cell?_alloc_new]
  have b3 : ∀ z : Wb (x1.at.alloc (.cells #[.int .u32 1409286144, .bool false, .bool false, .bool false, .int .i64 (-19), .int .i64 5, .int .i64 1, .int .i64 2, .int .i64 0] 40)), z.at.cell? ⟨x1.at.heap.size, 3, none⟩ = some (.bool false) := fun z => by rw [z.cell _ (by simp)]; simp [World.cell?_alloc_new]
  have b4 : ∀ z : Wb (x1.at.alloc (.cells #[.int .u32 1409286144, .bool false, .bool false, .bool false, .int .i64 (-19), .int .i64 5, .int .i64 1, .int .i64 2, .int .i64 0] 40)), z.at.cell? ⟨x1.at.heap.size, 4, none⟩ = some (.int .i64 (-19)) := fun z => by rw [z.cell _ (by simp)]; simp [World.cell?_alloc_new]
  have b5 : ∀ z : Wb (x1.at.alloc (.cells #[.int .u32 1409286144, .bool false, .bool false, .bool false, .int .i64 (-19), .int .i64 5, .int .i64 1, .int .i64 2, .int .i64 0] 40)), z.at.cell? ⟨x1.at.heap.size, 5, none⟩ = some (.int .i64 5) := fun z => by rw [z.cell _ (by simp)]; simp [World.cell?_alloc_new]
  have b6 : ∀ z : Wb (x1.at.alloc (.cells #[.int .u32 1409286144, .bool false, .bool false, .bool false, .int .i64 (-19), .int .i64 5, .int .i64 1, .int .i64 2, .int .i64 0] 40)), z.at.cell? ⟨x1.at.heap.size, 6, none⟩ = some (.int .i64 1) := fun z => by rw [z.cell _ (by simp)]; simp [World.cell?_alloc_new]
  have b7 : ∀ z : Wb (x1.at.alloc (.cells #[.int .u32 1409286144, .bool false, .bool false, .bool false, .int .i64 (-19), .int .i64 5, .int .i64 1, .int .i64 2, .int .i64 0] 40)), z.at.cell? ⟨x1.at.heap.size, 7, none⟩ = some (.int .i64 2) := fun z => by rw [z.cell _ (by simp)]; simp [World.cell?_alloc_new]
  have b8 : ∀ z : Wb (x1.at.alloc (.cells #[.int .u32 1409286144, .bool false, .bool false, .bool false, .int .i64 (-19), .int .i64 5, .int .i64 1, .int .i64 2, .int .i64 0] 40)), z.at.cell? ⟨x1.at.heap.size, 8, none⟩ = some (.int .i64 0) := fun z => by rw [z.cell _ (by simp)]; simp [World.cell?_alloc_new]
  have KB := Lib.hid (fun (z : Wb (x1.at.alloc (.cells #[.int .u32 1409286144, .bool false, .bool false, .bool false, .int .i64 (-19), .int .i64 5, .int .i64 1, .int .i64 2, .int .i64 0] 40))) => (((((Below.refl _ _).alloc (Nat.le_refl _) _).trans (x1.bel.mono (by simp))).alloc (by omega) _).trans (z.bel.mono (by simp; omega)) : Below w.heap.size w z.at))
  go_upto_region 5 with fail
  obtain ⟨y0, hy⟩ : ∃ y : Wb (x1.at.alloc (.cells #[.int .u32 1409286144, .bool false, .bool false, .bool false, .int .i64 (-19), .int .i64 5, .int .i64 1, .int .i64 2, .int .i64 0] 40)), (x1.at.alloc (.cells #[.int .u32 1409286144, .bool false, .bool false, .bool false, .int .i64 (-19), .int .i64 5, .int .i64 1, .int .i64 2, .int .i64 0] 40)) = y.at := ⟨⟨_, Below.refl _ _⟩, rfl⟩
  rw [hy]
  clear hy
  go_wp2_with fail
  have j4 : ∀ z : Wb y0.at, z.at.cell? ⟨w.heap.size, 4, none⟩ = some (.int .i64 imm) := y0.lift a4
  have f0 : ∀ z : Wb y0.at, z.at.cell? ⟨x1.at.heap.size, 0, none⟩ = some (.int .u32 1409286144) := y0.lift b0
  have f1 : ∀ z : Wb y0.at, z.at.cell? ⟨x1.at.heap.size, 1, none⟩ = some (.bool false) := y0.lift b1
  have f2 : ∀ z : Wb y0.at, z.at.cell? ⟨x1.at.heap.size, 2, none⟩ = some (.bool false) := y0.lift b2
  have f3 : ∀ z : Wb y0.at, z.at.cell? ⟨x1.at.heap.size, 3, none⟩ = some (.bool false) := y0.lift b3
  have f4 : ∀ z : Wb y0.at, z.at.cell? ⟨x1.at.heap.size, 4, none⟩ = some (.int .i64 (-19)) := y0.lift b4
  have f5 : ∀ z : Wb y0.at, z.at.cell? ⟨x1.at.heap.size, 5, none⟩ = some (.int .i64 5) := y0.lift b5
  have f6 : ∀ z : Wb y0.at, z.at.cell? ⟨x1.at.heap.size, 6, none⟩ = some (.int .i64 1) := y0.lift b6
  have f7 : ∀ z : Wb y0.at, z.at.cell? ⟨x1.at.heap.size, 7, none⟩ = some (.int .i64 2) := y0.lift b7
  have f8 : ∀ z : Wb y0.at, z.at.cell? ⟨x1.at.heap.size, 8, none⟩ = some (.int .i64 0) := y0.lift b8
  refine wp_region_wb (by kernel_rfl) (by kernel_rfl) ?_
  repeat (go_big_quiet_step (first | (go_at_call 17; exact Calls.wb (width_any _ _ _ _ _ _ _ _ _ 19 _ (by decide))) | (go_at_call 16; exact Calls.wb ((get_any _ _ _ _ (by first | omega | exact uw_lo _) (by first | omega | exact uw_hi _)).mono fun e w' h => ⟨h.1, h.2.below _⟩))))
  refine wpQuiet_nil ?_
  rintro _ ⟨y1, rfl⟩
  obtain ⟨y2, hy2⟩ := Wb.next (x := y0) y1.bel
  rw [hy2]
  go_wp2_with fail
  refine (named_no 17 _ _ _ _ _ _ rfl rfl).mono ?_
  rintro e w1 ⟨rfl, q1⟩
  obtain ⟨y3, rfl⟩ := Wb.next q1
  clear q1
  go_wp2
  go_ret2
  refine ⟨ret_t ?_, KB.out y3⟩
  rw [HW.out]
  go_light
  clear KB RI HS HS1 HW a0 a1 a2 a3 a4 a5 b0 b1 b2 b3 b4 b5 b6 b7 b8 e0 e1 e2 e3 e4 e5 e6 e7 e8 k0
  exact encw_17 imm kind HBD.out

theorem enc_bd_18 (kind : Int) (hr : GrI.right ⟨18, 0, 0, 0, 0, kind⟩) : 9 ≤ kind ∧ kind ≤ 15 := by
  simp [GrI.right, GrI.parts, GrI.nums] at hr
  first | trivial | omega

set_option maxRecDepth 100000 in
set_option maxHeartbeats 6400000 in
theorem xenc_18 (kind : Int) (w : World) (hs : ShAt w) (hr : GrI.right ⟨18, 0, 0, 0, 0, kind⟩) :
    Calls Tryd.prog 10 #[.agg #[.int .i64 18, .int .i64 0, .int .i64 0, .int .i64 0, .int .i64 0, .int .i64 kind]] w fun e w' => e = .returned (.tuple #[.int .u32 (GrI.word ⟨18, 0, 0, 0, 0, kind⟩), .int .i64 0]) ∧ Below w.heap.size w w' := by
  have hb := enc_bd_18 kind hr
  have HBD := Lib.hid hb
  have RI := Lib.hid (fun w hs => xright_18 0 0 0 0 kind w hs (by omega) (by omega))
  rw [show GrI.code (decide (GrI.right ⟨18, 0, 0, 0, 0, kind⟩)) = 0 by simp [GrI.code, hr]] at RI
  clear hr
  have HS := Lib.hid hs
  clear hs
  obtain ⟨WW, hWW⟩ : ∃ WW, WW = GrI.word ⟨18, 0, 0, 0, 0, kind⟩ := ⟨_, rfl⟩
  rw [← hWW]
  have HW := Lib.hid hWW
  clear hWW
  go_enter Tryd.func10, Tryd.ntmps10
  go_wp2_with fail
  refine (RI.out _ (HS.out.alloc _)).mono ?_
  rintro e w1 ⟨rfl, b1⟩
  have HS1 := Lib.hid ((HS.out.alloc _).below b1)
  obtain ⟨x1, rfl⟩ := Wb.start b1
  clear b1
  have e0 : x1.at.cell? ⟨0, 162, none⟩ = some (.int .u32 3573756095) := HS1.out 162 (by decide)
  have e1 : x1.at.cell? ⟨0, 163, none⟩ = some (.bool false) := HS1.out 163 (by decide)
  have e2 : x1.at.cell? ⟨0, 164, none⟩ = some (.bool false) := HS1.out 164 (by decide)
  have e3 : x1.at.cell? ⟨0, 165, none⟩ = some (.bool false) := HS1.out 165 (by decide)
  have e4 : x1.at.cell? ⟨0, 166, none⟩ = some (.int .i64 0) := HS1.out 166 (by decide)
  have e5 : x1.at.cell? ⟨0, 167, none⟩ = some (.int .i64 0) := HS1.out 167 (by decide)
  have e6 : x1.at.cell? ⟨0, 168, none⟩ = some (.int .i64 0) := HS1.out 168 (by decide)
  have e7 : x1.at.cell? ⟨0, 169, none⟩ = some (.int .i64 16) := HS1.out 169 (by decide)
  have e8 : x1.at.cell? ⟨0, 170, none⟩ = some (.int .i64 8) := HS1.out 170 (by decide)
  have k0 : x1.at.cell? ⟨w.heap.size, 0, none⟩ = some (.int .i64 18) := by rw [x1.cell _ (by simp)]; simp [World.cell?_alloc_new]
  have lt1 : w.heap.size < x1.at.heap.size := by have := x1.size; simp at this; omega
  have a0 : ∀ z : Wb (x1.at.alloc (.cells #[.int .u32 3573756095, .bool false, .bool false, .bool false, .int .i64 0, .int .i64 0, .int .i64 0, .int .i64 16, .int .i64 8] 40)), z.at.cell? ⟨w.heap.size, 0, none⟩ = some (.int .i64 18) := fun z => (z.prev _ lt1).trans (by rw [x1.cell _ (by simp)]; simp [World.cell?_alloc_new])
  have a1 : ∀ z : Wb (x1.at.alloc (.cells #[.int .u32 3573756095, .bool false, .bool false, .bool false, .int .i64 0, .int .i64 0, .int .i64 0, .int .i64 16, .int .i64 8] 40)), z.at.cell? ⟨w.heap.size, 1, none⟩ = some (.int .i64 0) := fun z => (z.prev _ lt1).trans (by rw [x1.cell _ (by simp)]; simp [World.cell?_alloc_new])
  have a2 : ∀ z : Wb (x1.at.alloc (.cells #[.int .u32 3573756095, .bool false, .bool false, .bool false, .int .i64 0, .int .i64 0, .int .i64 0, .int .i64 16, .int .i64 8] 40)), z.at.cell? ⟨w.heap.size, 2, none⟩ = some (.int .i64 0) := fun z => (z.prev _ lt1).trans (by rw [x1.cell _ (by simp)]; simp [World.cell?_alloc_new])
  have a3 : ∀ z : Wb (x1.at.alloc (.cells #[.int .u32 3573756095, .bool false, .bool false, .bool false, .int .i64 0, .int .i64 0, .int .i64 0, .int .i64 16, .int .i64 8] 40)), z.at.cell? ⟨w.heap.size, 3, none⟩ = some (.int .i64 0) := fun z => (z.prev _ lt1).trans (by rw [x1.cell _ (by simp)]; simp [World.cell?_alloc_new])
  have a4 : ∀ z : Wb (x1.at.alloc (.cells #[.int .u32 3573756095, .bool false, .bool false, .bool false, .int .i64 0, .int .i64 0, .int .i64 0, .int .i64 16, .int .i64 8] 40)), z.at.cell? ⟨w.heap.size, 4, none⟩ = some (.int .i64 0) := fun z => (z.prev _ lt1).trans (by rw [x1.cell _ (by simp)]; simp [World.cell?_alloc_new])
  have a5 : ∀ z : Wb (x1.at.alloc (.cells #[.int .u32 3573756095, .bool false, .bool false, .bool false, .int .i64 0, .int .i64 0, .int .i64 0, .int .i64 16, .int .i64 8] 40)), z.at.cell? ⟨w.heap.size, 5, none⟩ = some (.int .i64 kind) := fun z => (z.prev _ lt1).trans (by rw [x1.cell _ (by simp)]; simp [World.cell?_alloc_new])
  have b0 : ∀ z : Wb (x1.at.alloc (.cells #[.int .u32 3573756095, .bool false, .bool false, .bool false, .int .i64 0, .int .i64 0, .int .i64 0, .int .i64 16, .int .i64 8] 40)), z.at.cell? ⟨x1.at.heap.size, 0, none⟩ = some (.int .u32 3573756095) := fun z => by rw [z.cell _ (by simp)]; simp [World.cell?_alloc_new]
  have b1 : ∀ z : Wb (x1.at.alloc (.cells #[.int .u32 3573756095, .bool false, .bool false, .bool false, .int .i64 0, .int .i64 0, .int .i64 0, .int .i64 16, .int .i64 8] 40)), z.at.cell? ⟨x1.at.heap.size, 1, none⟩ = some (.bool false) := fun z => by rw [z.cell _ (by simp)]; simp [World.cell?_alloc_new]
  have b2 : ∀ z : Wb (x1.at.alloc (.cells #[.int .u32 3573756095, .bool false, .bool false, .bool false, .int .i64 0, .int .i64 0, .int .i64 0, .int .i64 16, .int .i64 8] 40)), z.at.cell? ⟨x1.at.heap.size, 2, none⟩ = some (.bool false) := fun z => by rw [z.cell _ (by simp)]; simp [World.cell?_alloc_new]
  have b3 : ∀ z : Wb (x1.at.alloc (.cells #[.int .u32 3573756095, .bool false, .bool false, .bool false, .int .i64 0, .int .i64 0, .int .i64 0, .int .i64 16, .int .i64 8] 40)), z.at.cell? ⟨x1.at.heap.size, 3, none⟩ = some (.bool false) := fun z => by rw [z.cell _ (by simp)]; simp [World.cell?_alloc_new]
  have b4 : ∀ z : Wb (x1.at.alloc (.cells #[.int .u32 3573756095, .bool false, .bool false, .bool false, .int .i64 0, .int .i64 0, .int .i64 0, .int .i64 16, .int .i64 8] 40)), z.at.cell? ⟨x1.at.heap.size, 4, none⟩ = some (.int .i64 0) := fun z => by rw [z.cell _ (by simp)]; simp [World.cell?_alloc_new]
  have b5 : ∀ z : Wb (x1.at.alloc (.cells #[.int .u32 3573756095, .bool false, .bool false, .bool false, .int .i64 0, .int .i64 0, .int .i64 0, .int .i64 16, .int .i64 8] 40)), z.at.cell? ⟨x1.at.heap.size, 5, none⟩ = some (.int .i64 0) := fun z => by rw [z.cell _ (by simp)]; simp [World.cell?_alloc_new]
  have b6 : ∀ z : Wb (x1.at.alloc (.cells #[.int .u32 3573756095, .bool false, .bool false, .bool false, .int .i64 0, .int .i64 0, .int .i64 0, .int .i64 16, .int .i64 8] 40)), z.at.cell? ⟨x1.at.heap.size, 6, none⟩ = some (.int .i64 0) := fun z => by rw [z.cell _ (by simp)]; simp [World.cell?_alloc_new]
  have b7 : ∀ z : Wb (x1.at.alloc (.cells #[.int .u32 3573756095, .bool false, .bool false, .bool false, .int .i64 0, .int .i64 0, .int .i64 0, .int .i64 16, .int .i64 8] 40)), z.at.cell? ⟨x1.at.heap.size, 7, none⟩ = some (.int .i64 16) := fun z => by rw [z.cell _ (by simp)]; simp [World.cell?_alloc_new]
  have b8 : ∀ z : Wb (x1.at.alloc (.cells #[.int .u32 3573756095, .bool false, .bool false, .bool false, .int .i64 0, .int .i64 0, .int .i64 0, .int .i64 16, .int .i64 8] 40)), z.at.cell? ⟨x1.at.heap.size, 8, none⟩ = some (.int .i64 8) := fun z => by rw [z.cell _ (by simp)]; simp [World.cell?_alloc_new]
  have KB := Lib.hid (fun (z : Wb (x1.at.alloc (.cells #[.int .u32 3573756095, .bool false, .bool false, .bool false, .int .i64 0, .int .i64 0, .int .i64 0, .int .i64 16, .int .i64 8] 40))) => (((((Below.refl _ _).alloc (Nat.le_refl _) _).trans (x1.bel.mono (by simp))).alloc (by omega) _).trans (z.bel.mono (by simp; omega)) : Below w.heap.size w z.at))
  go_upto_region 5 with fail
  obtain ⟨y0, hy⟩ : ∃ y : Wb (x1.at.alloc (.cells #[.int .u32 3573756095, .bool false, .bool false, .bool false, .int .i64 0, .int .i64 0, .int .i64 0, .int .i64 16, .int .i64 8] 40)), (x1.at.alloc (.cells #[.int .u32 3573756095, .bool false, .bool false, .bool false, .int .i64 0, .int .i64 0, .int .i64 0, .int .i64 16, .int .i64 8] 40)) = y.at := ⟨⟨_, Below.refl _ _⟩, rfl⟩
  rw [hy]
  clear hy
  go_wp2_with fail
  refine (named_no 18 _ _ _ _ _ _ rfl rfl).mono ?_
  rintro e w1 ⟨rfl, q1⟩
  obtain ⟨y3, rfl⟩ := Wb.next q1
  clear q1
  go_wp2
  go_ret2
  refine ⟨ret_t ?_, KB.out y3⟩
  rw [HW.out]
  go_light
  clear KB RI HS HS1 HW a0 a1 a2 a3 a4 a5 b0 b1 b2 b3 b4 b5 b6 b7 b8 e0 e1 e2 e3 e4 e5 e6 e7 e8 k0
  exact encw_18 kind HBD.out

end Go.Proofs.YtnehdgapcgbdeaaDoor
