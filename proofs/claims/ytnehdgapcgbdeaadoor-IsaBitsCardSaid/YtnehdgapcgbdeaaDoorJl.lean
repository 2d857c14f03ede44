/-
  Layer 3, the code's walks: Encode, operations 19 to 23.
-/
import Derived.Test.YtnehdgapcgbdeaaDoorJh
import Derived.Test.YtnehdgapcgbdeaaDoorJg
import Derived.Test.YtnehdgapcgbdeaaDoorBr
import Derived.Test.YtnehdgapcgbdeaaDoorIr
set_option linter.unusedSimpArgs false
set_option linter.unusedVariables false
namespace Go.Proofs.YtnehdgapcgbdeaaDoor
open Go.RowKit

theorem enc_bd_19 (kind : Int) (hr : GrI.right ⟨19, 0, 0, 0, 0, kind⟩) : 9 ≤ kind ∧ kind ≤ 15 := by
  simp [GrI.right, GrI.parts, GrI.nums] at hr
  first | trivial | omega

set_option maxRecDepth 100000 in
set_option maxHeartbeats 6400000 in
theorem xenc_19 (kind : Int) (w : World) (hs : ShAt w) (hr : GrI.right ⟨19, 0, 0, 0, 0, kind⟩) :
    Calls Tryd.prog 10 #[.agg #[.int .i64 19, .int .i64 0, .int .i64 0, .int .i64 0, .int .i64 0, .int .i64 kind]] w fun e w' => e = .returned (.tuple #[.int .u32 (GrI.word ⟨19, 0, 0, 0, 0, kind⟩), .int .i64 0]) ∧ Below w.heap.size w w' := by
  have hb := enc_bd_19 kind hr
  have HBD := Lib.hid hb
  have RI := Lib.hid (fun w hs => xright_19 0 0 0 0 kind w hs (by omega) (by omega))
  rw [show GrI.code (decide (GrI.right ⟨19, 0, 0, 0, 0, kind⟩)) = 0 by simp [GrI.code, hr]] at RI
  clear hr
  have HS := Lib.hid hs
  clear hs
  obtain ⟨WW, hWW⟩ : ∃ WW, WW = GrI.word ⟨19, 0, 0, 0, 0, kind⟩ := ⟨_, rfl⟩
  rw [← hWW]
  have HW := Lib.hid hWW
  clear hWW
  go_enter Tryd.func10, Tryd.ntmps10
  go_wp2_with fail
  refine (RI.out _ (HS.out.alloc _)).mono ?_
  rintro e w1 ⟨rfl, b1⟩
  have HS1 := Lib.hid ((HS.out.alloc _).below b1)
  obtain ⟨x1, rfl⟩ := Wb.start b1
  clear b1
  have e0 : x1.at.cell? ⟨0, 171, none⟩ = some (.int .u32 3573756063) := HS1.out 171 (by decide)
  have e1 : x1.at.cell? ⟨0, 172, none⟩ = some (.bool false) := HS1.out 172 (by decide)
  have e2 : x1.at.cell? ⟨0, 173, none⟩ = some (.bool false) := HS1.out 173 (by decide)
  have e3 : x1.at.cell? ⟨0, 174, none⟩ = some (.bool false) := HS1.out 174 (by decide)
  have e4 : x1.at.cell? ⟨0, 175, none⟩ = some (.int .i64 0) := HS1.out 175 (by decide)
  have e5 : x1.at.cell? ⟨0, 176, none⟩ = some (.int .i64 0) := HS1.out 176 (by decide)
  have e6 : x1.at.cell? ⟨0, 177, none⟩ = some (.int .i64 0) := HS1.out 177 (by decide)
  have e7 : x1.at.cell? ⟨0, 178, none⟩ = some (.int .i64 16) := HS1.out 178 (by decide)
  have e8 : x1.at.cell? ⟨0, 179, none⟩ = some (.int .i64 8) := HS1.out 179 (by decide)
  have k0 : x1.at.cell? ⟨w.heap.size, 0, none⟩ = some (.int .i64 19) := by rw [x1.cell _ (by simp)]; simp [World.cell?_alloc_new]
  have lt1 : w.heap.size < x1.at.heap.size := by have := x1.size; simp at this; omega
  have a0 : ∀ z : Wb (x1.at.alloc (.cells #[.int .u32 3573756063, .bool false, .bool false, .bool false, .int .i64 0, .int .i64 0, .int .i64 0, .int .i64 16, .int .i64 8] 40)), z.at.cell? ⟨w.heap.size, 0, none⟩ = some (.int .i64 19) := fun z => (z.prev _ lt1).trans (by rw [x1.cell _ (by simp)]; simp [World.cell?_alloc_new])
  have a1 : ∀ z : Wb (x1.at.alloc (.cells #[.int .u32 3573756063, .bool false, .bool false, .bool false, .int .i64 0, .int .i64 0, .int .i64 0, .int .i64 16, .int .i64 8] 40)), z.at.cell? ⟨w.heap.size, 1, none⟩ = some (.int .i64 0) := fun z => (z.prev _ lt1).trans (by rw [x1.cell _ (by simp)]; simp [World.cell?_alloc_new])
  have a2 : ∀ z : Wb (x1.at.alloc (.cells #[.int .u32 3573756063, .bool false, .bool false, .bool false, .int .i64 0, .int .i64 0, .int .i64 0, .int .i64 16, .int .i64 8] 40)), z.at.cell? ⟨w.heap.size, 2, none⟩ = some (.int .i64 0) := fun z => (z.prev _ lt1).trans (by rw [x1.cell _ (by simp)]; simp [World.cell?_alloc_new])
  have a3 : ∀ z : Wb (x1.at.alloc (.cells #[.int .u32 3573756063, .bool false, .bool false, .bool false, .int .i64 0, .int .i64 0, .int .i64 0, .int .i64 16, .int .i64 8] 40)), z.at.cell? ⟨w.heap.size, 3, none⟩ = some (.int .i64 0) := fun z => (z.prev _ lt1).trans (by rw [x1.cell _ (by simp)]; simp [World.cell?_alloc_new])
  have a4 : ∀ z : Wb (x1.at.alloc (.cells #[.int .u32 3573756063, .bool false, .bool false, .bool false, .int .i64 0, .int .i64 0, .int .i64 0, .int .i64 16, .int .i64 8] 40)), z.at.cell? ⟨w.heap.size, 4, none⟩ = some (.int .i64 0) := fun z => (z.prev _ lt1).trans (by rw [x1.cell _ (by simp)]; simp [World.cell?_alloc_new])
  have a5 : ∀ z : Wb (x1.at.alloc (.cells #[.int .u32 3573756063, .bool false, .bool false, .bool false, .int .i64 0, .int .i64 0, .int .i64 0, .int .i64 16, .int .i64 8] 40)), z.at.cell? ⟨w.heap.size, 5, none⟩ = some (.int .i64 kind) := fun z => (z.prev _ lt1).trans (by rw [x1.cell _ (by simp)]; simp [World.cell?_alloc_new])
  have b0 : ∀ z : Wb (x1.at.alloc (.cells #[.int .u32 3573756063, .bool false, .bool false, .bool false, .int .i64 0, .int .i64 0, .int .i64 0, .int .i64 16, .int .i64 8] 40)), z.at.cell? ⟨x1.at.heap.size, 0, none⟩ = some (.int .u32 3573756063) := fun z => by rw [z.cell _ (by simp)]; simp [World.cell?_alloc_new]
  have b1 : ∀ z : Wb (x1.at.alloc (.cells #[.int .u32 3573756063, .bool false, .bool false, .bool false, .int .i64 0, .int .i64 0, .int .i64 0, .int .i64 16, .int .i64 8] 40)), z.at.cell? ⟨x1.at.heap.size, 1, none⟩ = some (.bool false) := fun z => by rw [z.cell _ (by simp)]; simp [World.cell?_alloc_new]
  have b2 : ∀ z : Wb (x1.at.alloc (.cells #[.int .u32 3573756063, .bool false, .bool false, .bool false, .int .i64 0, .int .i64 0, .int .i64 0, .int .i64 16, .int .i64 8] 40)), z.at.cell? ⟨x1.at.heap.size, 2, none⟩ = some (.bool false) := fun z => by rw [z.cell _ (by simp)]; simp [World.cell?_alloc_new]
  have b3 : ∀ z : Wb (x1.at.alloc (.cells #[.int .u32 3573756063, .bool false, .bool false, .bool false, .int .i64 0, .int .i64 0, .int .i64 0, .int .i64 16, .int .i64 8] 40)), z.at.cell? ⟨x1.at.heap.size, 3, none⟩ = some (.bool false) := fun z => by rw [z.cell _ (by simp)]; simp [World.cell?_alloc_new]
  have b4 : ∀ z : Wb (x1.at.alloc (.cells #[.int .u32 3573756063, .bool false, .bool false, .bool false, .int .i64 0, .int .i64 0, .int .i64 0, .int .i64 16, .int .i64 8] 40)), z.at.cell? ⟨x1.at.heap.size, 4, none⟩ = some (.int .i64 0) := fun z => by rw [z.cell _ (by simp)]; simp [World.cell?_alloc_new]
  have b5 : ∀ z : Wb (x1.at.alloc (.cells #[.int .u32 3573756063, .bool false, .bool false, .bool false, .int .i64 0, .int .i64 0, .int .i64 0, .int .i64 16, .int .i64 8] 40)), z.at.cell? ⟨x1.at.heap.size, 5, none⟩ = some (.int .i64 0) := fun z => by rw [z.cell _ (by simp)]; simp [World.cell?_alloc_new]
  have b6 : ∀ z : Wb (x1.at.alloc (.cells #[.int .u32 3573756063, .bool false, .bool false, .bool false, .int .i64 0, .int .i64 0, .int .i64 0, .int .i64 16, .int .i64 8] 40)), z.at.cell? ⟨x1.at.heap.size, 6, none⟩ = some (.int .i64 0) := fun z => by rw [z.cell _ (by simp)]; simp [World.cell?_alloc_new]
  have b7 : ∀ z : Wb (x1.at.alloc (.cells #[.int .u32 3573756063, .bool false, .bool false, .bool false, .int .i64 0, .int .i64 0, .int .i64 0, .int .i64 16, .int .i64 8] 40)), z.at.cell? ⟨x1.at.heap.size, 7, none⟩ = some (.int .i64 16) := fun z => by rw [z.cell _ (by simp)]; simp [World.cell?_alloc_new]
  have b8 : ∀ z : Wb (x1.at.alloc (.cells #[.int .u32 3573756063, .bool false, .bool false, .bool false, .int .i64 0, .int .i64 0, .int .i64 0, .int .i64 16, .int .i64 8] 40)), z.at.cell? ⟨x1.at.heap.size, 8, none⟩ = some (.int .i64 8) := fun z => by rw [z.cell _ (by simp)]; simp [World.cell?_alloc_new]
  have KB := Lib.hid (fun (z : Wb (x1.at.alloc (.cells #[.int .u32 3573756063, .bool false, .bool false, .bool false, .int .i64 0, .int .i64 0, .int .i64 0, .int .i64 16, .int .i64 8] 40))) => (((((Below.refl _ _).alloc (Nat.le_refl _) _).trans (x1.bel.mono (by simp))).alloc (by omega) _).trans (z.bel.mono (by simp; omega)) : Below w.heap.size w z.at))
  go_upto_region 5 with fail
  obtain ⟨y0, hy⟩ : ∃ y : Wb (x1.at.alloc (.cells #[.int .u32 3573756063, .bool false, .bool false, .bool false, .int .i64 0, .int .i64 0, .int .i64 0, .int .i64 16, .int .i64 8] 40)), (x1.at.alloc (.cells #[.int .u32 3573756063, .bool false, .bool false, .bool false, .int .i64 0, .int .i64 0, .int .i64 0, .int .i64 16, .int .i64 8] 40)) = y.at := ⟨⟨_, Below.refl _ _⟩, rfl⟩
  rw [hy]
  clear hy
  go_wp2_with fail
  refine (named_no 19 _ _ _ _ _ _ rfl rfl).mono ?_
  rintro e w1 ⟨rfl, q1⟩
  obtain ⟨y3, rfl⟩ := Wb.next q1
  clear q1
  go_wp2
  go_ret2
  refine ⟨ret_t ?_, KB.out y3⟩
  rw [HW.out]
  go_light
  clear KB RI HS HS1 HW a0 a1 a2 a3 a4 a5 b0 b1 b2 b3 b4 b5 b6 b7 b8 e0 e1 e2 e3 e4 e5 e6 e7 e8 k0
  exact encw_19 kind HBD.out

theorem enc_bd_20 (hr : GrI.right ⟨20, 0, 0, 0, 0, 0⟩) : True := by
  simp [GrI.right, GrI.parts, GrI.nums] at hr
  first | trivial | omega

set_option maxRecDepth 100000 in
set_option maxHeartbeats 6400000 in
theorem xenc_20 (w : World) (hs : ShAt w) (hr : GrI.right ⟨20, 0, 0, 0, 0, 0⟩) :
    Calls Tryd.prog 10 #[.agg #[.int .i64 20, .int .i64 0, .int .i64 0, .int .i64 0, .int .i64 0, .int .i64 0]] w fun e w' => e = .returned (.tuple #[.int .u32 (GrI.word ⟨20, 0, 0, 0, 0, 0⟩), .int .i64 0]) ∧ Below w.heap.size w w' := by
  have hb := enc_bd_20 hr
  have HBD := Lib.hid hb
  have RI := Lib.hid (fun w hs => xright_20 0 0 0 0 0 w hs (by omega) (by omega))
  rw [show GrI.code (decide (GrI.right ⟨20, 0, 0, 0, 0, 0⟩)) = 0 by simp [GrI.code, hr]] at RI
  clear hr
  have HS := Lib.hid hs
  clear hs
  obtain ⟨WW, hWW⟩ : ∃ WW, WW = GrI.word ⟨20, 0, 0, 0, 0, 0⟩ := ⟨_, rfl⟩
  rw [← hWW]
  have HW := Lib.hid hWW
  clear hWW
  go_enter Tryd.func10, Tryd.ntmps10
  go_wp2_with fail
  refine (RI.out _ (HS.out.alloc _)).mono ?_
  rintro e w1 ⟨rfl, b1⟩
  have HS1 := Lib.hid ((HS.out.alloc _).below b1)
  obtain ⟨x1, rfl⟩ := Wb.start b1
  clear b1
  have e0 : x1.at.cell? ⟨0, 180, none⟩ = some (.int .u32 3573759967) := HS1.out 180 (by decide)
  have e1 : x1.at.cell? ⟨0, 181, none⟩ = some (.bool false) := HS1.out 181 (by decide)
  have e2 : x1.at.cell? ⟨0, 182, none⟩ = some (.bool false) := HS1.out 182 (by decide)
  have e3 : x1.at.cell? ⟨0, 183, none⟩ = some (.bool false) := HS1.out 183 (by decide)
  have e4 : x1.at.cell? ⟨0, 184, none⟩ = some (.int .i64 0) := HS1.out 184 (by decide)
  have e5 : x1.at.cell? ⟨0, 185, none⟩ = some (.int .i64 0) := HS1.out 185 (by decide)
  have e6 : x1.at.cell? ⟨0, 186, none⟩ = some (.int .i64 0) := HS1.out 186 (by decide)
  have e7 : x1.at.cell? ⟨0, 187, none⟩ = some (.int .i64 0) := HS1.out 187 (by decide)
  have e8 : x1.at.cell? ⟨0, 188, none⟩ = some (.int .i64 0) := HS1.out 188 (by decide)
  have k0 : x1.at.cell? ⟨w.heap.size, 0, none⟩ = some (.int .i64 20) := by rw [x1.cell _ (by simp)]; simp [World.cell?_alloc_new]
  have lt1 : w.heap.size < x1.at.heap.size := by have := x1.size; simp at this; omega
  have a0 : ∀ z : Wb (x1.at.alloc (.cells #[.int .u32 3573759967, .bool false, .bool false, .bool false, .int .i64 0, .int .i64 0, .int .i64 0, .int .i64 0, .int .i64 0] 40)), z.at.cell? ⟨w.heap.size, 0, none⟩ = some (.int .i64 20) := fun z => (z.prev _ lt1).trans (by rw [x1.cell _ (by simp)]; simp [World.cell?_alloc_new])
  have a1 : ∀ z : Wb (x1.at.alloc (.cells #[.int .u32 3573759967, .bool false, .bool false, .bool false, .int .i64 0, .int .i64 0, .int .i64 0, .int .i64 0, .int .i64 0] 40)), z.at.cell? ⟨w.heap.size, 1, none⟩ = some (.int .i64 0) := fun z => (z.prev _ lt1).trans (by rw [x1.cell _ (by simp)]; simp [World.cell?_alloc_new])
  have a2 : ∀ z : Wb (x1.at.alloc (.cells #[.int .u32 3573759967, .bool false, .bool false, .bool false, .int .i64 0, .int .i64 0, .int .i64 0, .int .i64 0, .int .i64 0] 40)), z.at.cell? ⟨w.heap.size, 2, none⟩ = some (.int .i64 0) := fun z => (z.prev _ lt1).trans (by rw [x1.cell _ (by simp)]; simp [World.cell?_alloc_new])
  have a3 : ∀ z : Wb (x1.at.alloc (.cells #[.int .u32 3573759967, .bool false, .bool false, .bool false, .int .i64 0, .int .i64 0, .int .i64 0, .int .i64 0, .int .i64 0] 40)), z.at.cell? ⟨w.heap.size, 3, none⟩ = some (.int .i64 0) := fun z => (z.prev _ lt1).trans (by rw [x1.cell _ (by simp)]; simp [World.cell?_alloc_new])
  have a4 : ∀ z : Wb (x1.at.alloc (.cells #[.int .u32 3573759967, .bool false, .bool false, .bool false, .int .i64 0, .int .i64 0, .int .i64 0, .int .i64 0, .int .i64 0] 40)), z.at.cell? ⟨w.heap.size, 4, none⟩ = some (.int .i64 0) := fun z => (z.prev _ lt1).trans (by rw [x1.cell _ (by simp)]; simp [World.cell?_alloc_new])
  have a5 : ∀ z : Wb (x1.at.alloc (.cells #[.int .u32 3573759967, .bool false, .bool false, .bool false, .int .i64 0, .int .i64 0, .int .i64 0, .int .i64 0, .int .i64 0] 40)), z.at.cell? ⟨w.heap.size, 5, none⟩ = some (.int .i64 0) := fun z => (z.prev _ lt1).trans (by rw [x1.cell _ (by simp)]; simp [World.cell?_alloc_new])
  have b0 : ∀ z : Wb (x1.at.alloc (.cells #[.int .u32 3573759967, .bool false, .bool false, .bool false, .int .i64 0, .int .i64 0, .int .i64 0, .int .i64 0, .int .i64 0] 40)), z.at.cell? ⟨x1.at.heap.size, 0, none⟩ = some (.int .u32 3573759967) := fun z => by rw [z.cell _ (by simp)]; simp [World.cell?_alloc_new]
  have b1 : ∀ z : Wb (x1.at.alloc (.cells #[.int .u32 3573759967, .bool false, .bool false, .bool false, .int .i64 0, .int .i64 0, .int .i64 0, .int .i64 0, .int .i64 0] 40)), z.at.cell? ⟨x1.at.heap.size, 1, none⟩ = some (.bool false) := fun z => by rw [z.cell _ (by simp)]; simp [World.cell?_alloc_new]
  have b2 : ∀ z : Wb (x1.at.alloc (.cells #[.int .u32 3573759967, .bool false, .bool false, .bool false, .int .i64 0, .int .i64 0, .int .i64 0, .int .i64 0, .int .i64 0] 40)), z.at.cell? ⟨x1.at.heap.size, 2, none⟩ = some (.bool false) := fun z => by rw [z.cell _ (by simp)]; simp [World.cell?_alloc_new]
  have b3 : ∀ z : Wb (x1.at.alloc (.cells #[.int .u32 3573759967, .bool false, .bool false, .bool false, .int .i64 0, .int .i64 0, .int .i64 0, .int .i64 0, .int .i64 0] 40)), z.at.cell? ⟨x1.at.heap.size, 3, none⟩ = some (.bool false) := fun z => by rw [z.cell _ (by simp)]; simp [World.cell?_alloc_new]
  have b4 : ∀ z : Wb (x1.at.alloc (.cells #[.int .u32 3573759967, .bool false, .bool false, .bool false, .int .i64 0, .int .i64 0, .int .i64 0, .int .i64 0, .int .i64 0] 40)), z.at.cell? ⟨x1.at.heap.size, 4, none⟩ = some (.int .i64 0) := fun z => by rw [z.cell _ (by simp)]; simp [World.cell?_alloc_new]
  have b5 : ∀ z : Wb (x1.at.alloc (.cells #[.int .u32 3573759967, .bool false, .bool false, .bool false, .int .i64 0, .int .i64 0, .int .i64 0, .int .i64 0, .int .i64 0] 40)), z.at.cell? ⟨x1.at.heap.size, 5, none⟩ = some (.int .i64 0) := fun z => by rw [z.cell _ (by simp)]; simp [World.cell?_alloc_new]
  have b6 : ∀ z : Wb (x1.at.alloc (.cells #[.int .u32 3573759967, .bool false, .bool false, .bool false, .int .i64 0, .int .i64 0, .int .i64 0, .int .i64 0, .int .i64 0] 40)), z.at.cell? ⟨x1.at.heap.size, 6, none⟩ = some (.int .i64 0) := fun z => by rw [z.cell _ (by simp)]; simp [World.cell?_alloc_new]
  have b7 : ∀ z : Wb (x1.at.alloc (.cells #[.int .u32 3573759967, .bool false, .bool false, .bool false, .int .i64 0, .int .i64 0, .int .i64 0, .int .i64 0, .int .i64 0] 40)), z.at.cell? ⟨x1.at.heap.size, 7, none⟩ = some (.int .i64 0) := fun z => by rw [z.cell _ (by simp)]; simp [World.cell?_alloc_new]
  have b8 : ∀ z : Wb (x1.at.alloc (.cells #[.int .u32 3573759967, .bool false, .bool false, .bool false, .int .i64 0, .int .i64 0, .int .i64 0, .int .i64 0, .int .i64 0] 40)), z.at.cell? ⟨x1.at.heap.size, 8, none⟩ = some (.int .i64 0) := fun z => by rw [z.cell _ (by simp)]; simp [World.cell?_alloc_new]
  have KB := Lib.hid (fun (z : Wb (x1.at.alloc (.cells #[.int .u32 3573759967, .bool false, .bool false, .bool false, .int .i64 0, .int .i64 0, .int .i64 0, .int .i64 0, .int .i64 0] 40))) => (((((Below.refl _ _).alloc (Nat.le_refl _) _).trans (x1.bel.mono (by simp))).alloc (by omega) _).trans (z.bel.mono (by simp; omega)) : Below w.heap.size w z.at))
  go_upto_region 5 with fail
  obtain ⟨y0, hy⟩ : ∃ y : Wb (x1.at.alloc (.cells #[.int .u32 3573759967, .bool false, .bool false, .bool false, .int .i64 0, .int .i64 0, .int .i64 0, .int .i64 0, .int .i64 0] 40)), (x1.at.alloc (.cells #[.int .u32 3573759967, .bool false, .bool false, .bool false, .int .i64 0, .int .i64 0, .int .i64 0, .int .i64 0, .int .i64 0] 40)) = y.at := ⟨⟨_, Below.refl _ _⟩, rfl⟩
  rw [hy]
  clear hy
  go_wp2_with fail
  refine (named_no 20 _ _ _ _ _ _ rfl rfl).mono ?_
  rintro e w1 ⟨rfl, q1⟩
  obtain ⟨y3, rfl⟩ := Wb.next q1
  clear q1
  go_wp2
  go_ret2
  refine ⟨ret_t ?_, KB.out y3⟩
  rw [HW.out]
  go_light
  clear KB RI HS HS1 HW a0 a1 a2 a3 a4 a5 b0 b1 b2 b3 b4 b5 b6 b7 b8 e0 e1 e2 e3 e4 e5 e6 e7 e8 k0
  exact encw_20 HBD.out

theorem enc_bd_21 (d kind : Int) (hr : GrI.right ⟨21, d, 0, 0, 0, kind⟩) : 0 ≤ d ∧ d ≤ 31 ∧ 0 ≤ kind ∧ kind ≤ 7 := by
  simp [GrI.right, GrI.parts, GrI.nums] at hr
  first | trivial | omega

set_option maxRecDepth 100000 in
set_option maxHeartbeats 6400000 in
theorem xenc_21 (d kind : Int) (w : World) (hs : ShAt w) (hr : GrI.right ⟨21, d, 0, 0, 0, kind⟩) :
    Calls Tryd.prog 10 #[.agg #[.int .i64 21, .int .i64 d, .int .i64 0, .int .i64 0, .int .i64 0, .int .i64 kind]] w fun e w' => e = .returned (.tuple #[.int .u32 (GrI.word ⟨21, d, 0, 0, 0, kind⟩), .int .i64 0]) ∧ Below w.heap.size w w' := by
  have hb := enc_bd_21 d kind hr
  have HBD := Lib.hid hb
  have hk : kind = 0 ∨ kind = 1 ∨ kind = 2 ∨ kind = 3 ∨ kind = 4 ∨ kind = 5 ∨ kind = 6 ∨ kind = 7 := by omega
  rcases hk with rfl | rfl | rfl | rfl | rfl | rfl | rfl | rfl
  · have RI := Lib.hid (fun w hs => xright_21 d 0 0 0 0 w hs (by omega) (by omega))
    rw [show GrI.code (decide (GrI.right ⟨21, d, 0, 0, 0, 0⟩)) = 0 by simp [GrI.code, hr]] at RI
    clear hr
    have HS := Lib.hid hs
    clear hs
    obtain ⟨WW, hWW⟩ : ∃ WW, WW = GrI.word ⟨21, d, 0, 0, 0, 0⟩ := ⟨_, rfl⟩
    rw [← hWW]
    have HW := Lib.hid hWW
    clear hWW
    go_enter Tryd.func10, Tryd.ntmps10
    go_wp2_with fail
    refine (RI.out _ (HS.out.alloc _)).mono ?_
    rintro e w1 ⟨rfl, b1⟩
    have HS1 := Lib.hid ((HS.out.alloc _).below b1)
    obtain ⟨x1, rfl⟩ := Wb.start b1
    clear b1
    have e0 : x1.at.cell? ⟨0, 189, none⟩ = some (.int .u32 3574104832) := HS1.out 189 (by decide)
    have e1 : x1.at.cell? ⟨0, 190, none⟩ = some (.bool true) := HS1.out 190 (by decide)
    have e2 : x1.at.cell? ⟨0, 191, none⟩ = some (.bool false) := HS1.out 191 (by decide)
    have e3 : x1.at.cell? ⟨0, 192, none⟩ = some (.bool false) := HS1.out 192 (by decide)
    have e4 : x1.at.cell? ⟨0, 193, none⟩ = some (.int .i64 0) := HS1.out 193 (by decide)
    have e5 : x1.at.cell? ⟨0, 194, none⟩ = some (.int .i64 0) := HS1.out 194 (by decide)
    have e6 : x1.at.cell? ⟨0, 195, none⟩ = some (.int .i64 0) := HS1.out 195 (by decide)
    have e7 : x1.at.cell? ⟨0, 196, none⟩ = some (.int .i64 8) := HS1.out 196 (by decide)
    have e8 : x1.at.cell? ⟨0, 197, none⟩ = some (.int .i64 0) := HS1.out 197 (by decide)
    have k0 : x1.at.cell? ⟨w.heap.size, 0, none⟩ = some (.int .i64 21) := by rw [x1.cell _ (by simp)]; simp [World.cell?_alloc_new]
    have lt1 : w.heap.size < x1.at.heap.size := by have := x1.size; simp at this; omega
    have a0 : ∀ z : Wb (x1.at.alloc (.cells #[.int .u32 3574104832, .bool true, .bool false, .bool false, .int .i64 0, .int .i64 0, .int .i64 0, .int .i64 8, .int .i64 0] 40)), z.at.cell? ⟨w.heap.size, 0, none⟩ = some (.int .i64 21) := fun z => (z.prev _ lt1).trans (by rw [x1.cell _ (by simp)]; simp [World.cell?_alloc_new])
    have a1 : ∀ z : Wb (x1.at.alloc (.cells #[.int .u32 3574104832, .bool true, .bool false, .bool false, .int .i64 0, .int .i64 0, .int .i64 0, .int .i64 8, .int .i64 0] 40)), z.at.cell? ⟨w.heap.size, 1, none⟩ = some (.int .i64 d) := fun z => (z.prev _ lt1).trans (by rw [x1.cell _ (by simp)]; simp [World.cell?_alloc_new])
    have a2 : ∀ z : Wb (x1.at.alloc (.cells #[.int .u32 3574104832, .bool true, .bool false, .bool false, .int .i64 0, .int .i64 0, .int .i64 0, .int .i64 8, .int .i64 0] 40)), z.at.cell? ⟨w.heap.size, 2, none⟩ = some (.int .i64 0) := fun z => (z.prev _ lt1).trans (by rw [x1.cell _ (by simp)]; simp [World.cell?_alloc_new])
    have a3 : ∀ z : Wb (x1.at.alloc (.cells #[.int .u32 3574104832, .bool true, .bool false, .bool false, .int .i64 0, .int .i64 0, .int .i64 0, .int .i64 8, .int .i64 0] 40)), z.at.cell? ⟨w.heap.size, 3, none⟩ = some (.int .i64 0) := fun z => (z.prev _ lt1).trans (by rw [x1.cell _ (by simp)]; simp [World.cell?_alloc_new])
    have a4 : ∀ z : Wb (x1.at.alloc (.cells #[.int .u32 3574104832, .bool true, .bool false, .bool false, .int .i64 0, .int .i64 0, .int .i64 0, .int .i64 8, .int .i64 0] 40)), z.at.cell? ⟨w.heap.size, 4, none⟩ = some (.int .i64 0) := fun z => (z.prev _ lt1).trans (by rw [x1.cell _ (by simp)]; simp [World.cell?_alloc_new])
    have a5 : ∀ z : Wb (x1.at.alloc (.cells #[.int .u32 3574104832, .bool true, .bool false, .bool false, .int .i64 0, .int .i64 0, .int .i64 0, .int .i64 8, .int .i64 0] 40)), z.at.cell? ⟨w.heap.size, 5, none⟩ = some (.int .i64 0) := fun z => (z.prev _ lt1).trans (by rw [x1.cell _ (by simp)]; simp [World.cell?_alloc_new])
    have b0 : ∀ z : Wb (x1.at.alloc (.cells #[.int .u32 3574104832, .bool true, .bool false, .bool false, .int .i64 0, .int .i64 0, .int .i64 0, .int .i64 8, .int .i64 0] 40)), z.at.cell? ⟨x1.at.heap.size, 0, none⟩ = some (.int .u32 3574104832) := fun z => by rw [z.cell _ (by simp)]; simp [World.cell?_alloc_new]
    have b1 : ∀ z : Wb (x1.at.alloc (.cells #[.int .u32 3574104832, .bool true, .bool false, .bool false, .int .i64 0, .int .i64 0, .int .i64 0, .int .i64 8, .int .i64 0] 40)), z.at.cell? ⟨x1.at.heap.size, 1, none⟩ = some (.bool true) := fun z => by rw [z.cell _ (by simp)]; simp [World.cell?_alloc_new]
    have b2 : ∀ z : Wb (x1.at.alloc (.cells #[.int .u32 3574104832, .bool true, .bool false, .bool false, .int .i64 0, .int .i64 0, .int .i64 0, .int .i64 8, .int .i64 0] 40)), z.at.cell? ⟨x1.at.heap.size, 2, none⟩ = some (.bool false) := fun z => by rw [z.cell _ (by simp)]; simp [World.cell?_alloc_new]
    have b3 : ∀ z : Wb (x1.at.alloc (.cells #[.int .u32 3574104832, .bool true, .bool false, .bool false, .int .i64 0, .int .i64 0, .int .i64 0, .int .i64 8, .int .i64 0] 40)), z.at.cell? ⟨x1.at.heap.size, 3, none⟩ = some (.bool false) := fun z => by rw [z.cell _ (by simp)]; simp [World.cell?_alloc_new]
    have b4 : ∀ z : Wb (x1.at.alloc (.cells #[.int .u32 3574104832, .bool true, .bool false, .bool false, .int .i64 0, .int .i64 0, .int .i64 0, .int .i64 8, .int .i64 0] 40)), z.at.cell? ⟨x1.at.heap.size, 4, none⟩ = some (.int .i64 0) := fun z => by rw [z.cell _ (by simp)]; simp [World.cell?_alloc_new]
    have b5 : ∀ z : Wb (x1.at.alloc (.cells #[.int .u32 3574104832, .bool true, .bool false, .bool false, .int .i64 0, .int .i64 0, .int .i64 0, .int .i64 8, .int .i64 0] 40)), z.at.cell? ⟨x1.at.heap.size, 5, none⟩ = some (.int .i64 0) := fun z => by rw [z.cell _ (by simp)]; simp [World.cell?_alloc_new]
    have b6 : ∀ z : Wb (x1.at.alloc (.cells #[.int .u32 3574104832, .bool true, .bool false, .bool false, .int .i64 0, .int .i64 0, .int .i64 0, .int .i64 8, .int .i64 0] 40)), z.at.cell? ⟨x1.at.heap.size, 6, none⟩ = some (.int .i64 0) := fun z => by rw [z.cell _ (by simp)]; simp [World.cell?_alloc_new]
    have b7 : ∀ z : Wb (x1.at.alloc (.cells #[.int .u32 3574104832, .bool true, .bool false, .bool false, .int .i64 0, .int .i64 0, .int .i64 0, .int .i64 8, .int .i64 0] 40)), z.at.cell? ⟨x1.at.heap.size, 7, none⟩ = some (.int .i64 8) := fun z => by rw [z.cell _ (by simp)]; simp [World.cell?_alloc_new]
    have b8 : ∀ z : Wb (x1.at.alloc (.cells #[.int .u32 3574104832, .bool true, .bool false, .bool false, .int .i64 0, .int .i64 0, .int .i64 0, .int .i64 8, .int .i64 0] 40)), z.at.cell? ⟨x1.at.heap.size, 8, none⟩ = some (.int .i64 0) := fun z => by rw [z.cell _ (by simp)]; simp [World.cell?_alloc_new]
    have KB := Lib.hid (fun (z : Wb (x1.at.alloc (.cells #[.int .u32 3574104832, .bool true, .bool false, .bool false, .int .i64 0, .int .i64 0, .int .i64 0, .int .i64 8, .int .i64 0] 40))) => (((((Below.refl _ _).alloc (Nat.le_refl _) _).trans (x1.bel.mono (by simp))).alloc (by omega) _).trans (z.bel.mono (by simp; omega)) : Below w.heap.size w z.at))
    go_upto_region 5 with fail
    obtain ⟨y0, hy⟩ : ∃ y : Wb (x1.at.alloc (.cells #[.int .u32 3574104832, .bool true, .bool false, .bool false, .int .i64 0, .int .i64 0, .int .i64 0, .int .i64 8, .int .i64 0] 40)), (x1.at.alloc (.cells #[.int .u32 3574104832, .bool true, .bool false, .bool false, .int .i64 0, .int .i64 0, .int .i64 0, .int .i64 8, .int .i64 0] 40)) = y.at := ⟨⟨_, Below.refl _ _⟩, rfl⟩
    rw [hy]
    clear hy
    go_wp2_with fail
    refine (named_tlbi _ _ _ _ _ 0 _ (by decide)).mono ?_
    rintro e w1 ⟨rfl, q1⟩
    obtain ⟨y3, rfl⟩ := Wb.next q1
    clear q1
    go_wp2
    go_ret2
    refine ⟨ret_t ?_, KB.out y3⟩
    rw [HW.out]
    go_light
    clear KB RI HS HS1 HW a0 a1 a2 a3 a4 a5 b0 b1 b2 b3 b4 b5 b6 b7 b8 e0 e1 e2 e3 e4 e5 e6 e7 e8 k0
    exact encw_21_0 d 0 (by have := HBD.out; omega)
  · have RI := Lib.hid (fun w hs => xright_21 d 0 0 0 1 w hs (by omega) (by omega))
    rw [show GrI.code (decide (GrI.right ⟨21, d, 0, 0, 0, 1⟩)) = 0 by simp [GrI.code, hr]] at RI
    clear hr
    have HS := Lib.hid hs
    clear hs
    obtain ⟨WW, hWW⟩ : ∃ WW, WW = GrI.word ⟨21, d, 0, 0, 0, 1⟩ := ⟨_, rfl⟩
    rw [← hWW]
    have HW := Lib.hid hWW
    clear hWW
    go_enter Tryd.func10, Tryd.ntmps10
    go_wp2_with fail
    refine (RI.out _ (HS.out.alloc _)).mono ?_
    rintro e w1 ⟨rfl, b1⟩
    have HS1 := Lib.hid ((HS.out.alloc _).below b1)
    obtain ⟨x1, rfl⟩ := Wb.start b1
    clear b1
    have e0 : x1.at.cell? ⟨0, 189, none⟩ = some (.int .u32 3574104832) := HS1.out 189 (by decide)
    have e1 : x1.at.cell? ⟨0, 190, none⟩ = some (.bool true) := HS1.out 190 (by decide)
    have e2 : x1.at.cell? ⟨0, 191, none⟩ = some (.bool false) := HS1.out 191 (by decide)
    have e3 : x1.at.cell? ⟨0, 192, none⟩ = some (.bool false) := HS1.out 192 (by decide)
    have e4 : x1.at.cell? ⟨0, 193, none⟩ = some (.int .i64 0) := HS1.out 193 (by decide)
    have e5 : x1.at.cell? ⟨0, 194, none⟩ = some (.int .i64 0) := HS1.out 194 (by decide)
    have e6 : x1.at.cell? ⟨0, 195, none⟩ = some (.int .i64 0) := HS1.out 195 (by decide)
    have e7 : x1.at.cell? ⟨0, 196, none⟩ = some (.int .i64 8) := HS1.out 196 (by decide)
    have e8 : x1.at.cell? ⟨0, 197, none⟩ = some (.int .i64 0) := HS1.out 197 (by decide)
    have k0 : x1.at.cell? ⟨w.heap.size, 0, none⟩ = some (.int .i64 21) := by rw [x1.cell _ (by simp)]; simp [World.cell?_alloc_new]
    have lt1 : w.heap.size < x1.at.heap.size := by have := x1.size; simp at this; omega
    have a0 : ∀ z : Wb (x1.at.alloc (.cells #[.int .u32 3574104832, .bool true, .bool false, .bool false, .int .i64 0, .int .i64 0, .int .i64 0, .int .i64 8, .int .i64 0] 40)), z.at.cell? ⟨w.heap.size, 0, none⟩ = some (.int .i64 21) := fun z => (z.prev _ lt1).trans (by rw [x1.cell _ (by simp)]; simp [World.cell?_alloc_new])
    have a1 : ∀ z : Wb (x1.at.alloc (.cells #[.int .u32 3574104832, .bool true, .bool false, .bool false, .int .i64 0, .int .i64 0, .int .i64 0, .int .i64 8, .int .i64 0] 40)), z.at.cell? ⟨w.heap.size, 1, none⟩ = some (.int .i64 d) := fun z => (z.prev _ lt1).trans (by rw [x1.cell _ (by simp)]; simp [World.cell?_alloc_new])
    have a2 : ∀ z : Wb (x1.at.alloc (.cells #[.int .u32 3574104832, .bool true, .bool false, .bool false, .int .i64 0, .int .i64 0, .int .i64 0, .int .i64 8, .int .i64 0] 40)), z.at.cell? ⟨w.heap.size, 2, none⟩ = some (.int .i64 0) := fun z => (z.prev _ lt1).trans (by rw [x1.cell _ (by simp)]; simp [World.cell?_alloc_new])
    have a3 : ∀ z : Wb (x1.at.alloc (.cells #[.int .u32 3574104832, .bool true, .bool false, .bool false, .int .i64 0, .int .i64 0, .int .i64 0, .int .i64 8, .int .i64 0] 40)), z.at.cell? ⟨w.heap.size, 3, none⟩ = some (.int .i64 0) := fun z => (z.prev _ lt1).trans (by rw [x1.cell _ (by simp)]; simp [World.cell?_alloc_new])
    have a4 : ∀ z : Wb (x1.at.alloc (.cells #[.int .u32 3574104832, .bool true, .bool false, .bool false, .int .i64 0, .int .i64 0, .int .i64 0, .int .i64 8, .int .i64 0] 40)), z.at.cell? ⟨w.heap.size, 4, none⟩ = some (.int .i64 0) := fun z => (z.prev _ lt1).trans (by rw [x1.cell _ (by simp)]; simp [World.cell?_alloc_new])
    have a5 : ∀ z : Wb (x1.at.alloc (.cells #[.int .u32 3574104832, .bool true, .bool false, .bool false, .int .i64 0, .int .i64 0, .int .i64 0, .int .i64 8, .int .i64 0] 40)), z.at.cell? ⟨w.heap.size, 5, none⟩ = some (.int .i64 1) := fun z => (z.prev _ lt1).trans (by rw [x1.cell _ (by simp)]; simp [World.cell?_alloc_new])
    have b0 : ∀ z : Wb (x1.at.alloc (.cells #[.int .u32 3574104832, .bool true, .bool false, .bool false, .int .i64 0, .int .i64 0, .int .i64 0, .int .i64 8, .int .i64 0] 40)), z.at.cell? ⟨x1.at.heap.size, 0, none⟩ = some (.int .u32 3574104832) := fun z => by rw [z.cell _ (by simp)]; simp [World.cell?_alloc_new]
    have b1 : ∀ z : Wb (x1.at.alloc (.cells #[.int .u32 3574104832, .bool true, .bool false, .bool false, .int .i64 0, .int .i64 0, .int .i64 0, .int .i64 8, .int .i64 0] 40)), z.at.cell? ⟨x1.at.heap.size, 1, none⟩ = some (.bool true) := fun z => by rw [z.cell _ (by simp)]; simp [World.cell?_alloc_new]
    have b2 : ∀ z : Wb (x1.at.alloc (.cells #[.int .u32 3574104832, .bool true, .bool false, .bool false, .int .i64 0, .int .i64 0, .int .i64 0, .int .i64 8, .int .i64 0] 40)), z.at.cell? ⟨x1.at.heap.size, 2, none⟩ = some (.bool false) := fun z => by rw [z.cell _ (by simp)]; simp [World.cell?_alloc_new]
    have b3 : ∀ z : Wb (x1.at.alloc (.cells #[.int .u32 3574104832, .bool true, .bool false, .bool false, .int .i64 0, .int .i64 0, .int .i64 0, .int .i64 8, .int .i64 0] 40)), z.at.cell? ⟨x1.at.heap.size, 3, none⟩ = some (.bool false) := fun z => by rw [z.cell _ (by simp)]; simp [World.cell?_alloc_new]
    have b4 : ∀ z : Wb (x1.at.alloc (.cells #[.int .u32 3574104832, .bool true, .bool false, .bool false, .int .i64 0, .int .i64 0, .int .i64 0, .int .i64 8, .int .i64 0] 40)), z.at.cell? ⟨x1.at.heap.size, 4, none⟩ = some (.int .i64 0) := fun z => by rw [z.cell _ (by simp)]; simp [World.cell?_alloc_new]
    have b5 : ∀ z : Wb (x1.at.alloc (.cells #[.int .u32 3574104832, .bool true, .bool false, .bool false, .int .i64 0, .int .i64 0, .int .i64 0, .int .i64 8, .int .i64 0] 40)), z.at.cell? ⟨x1.at.heap.size, 5, none⟩ = some (.int .i64 0) := fun z => by rw [z.cell _ (by simp)]; simp [World.cell?_alloc_new]
    have b6 : ∀ z : Wb (x1.at.alloc (.cells #[.int .u32 3574104832, .bool true, .bool false, .bool false, .int .i64 0, .int .i64 0, .int .i64 0, .int .i64 8, .int .i64 0] 40)), z.at.cell? ⟨x1.at.heap.size, 6, none⟩ = some (.int .i64 0) := fun z => by rw [z.cell _ (by simp)]; simp [World.cell?_alloc_new]
    have b7 : ∀ z : Wb (x1.at.alloc (.cells #[.int .u32 3574104832, .bool true, .bool false, .bool false, .int .i64 0, .int .i64 0, .int .i64 0, .int .i64 8, .int .i64 0] 40)), z.at.cell? ⟨x1.at.heap.size, 7, none⟩ = some (.int .i64 8) := fun z => by rw [z.cell _ (by simp)]; simp [World.cell?_alloc_new]
    have b8 : ∀ z : Wb (x1.at.alloc (.cells #[.int .u32 3574104832, .bool true, .bool false, .bool false, .int .i64 0, .int .i64 0, .int .i64 0, .int .i64 8, .int .i64 0] 40)), z.at.cell? ⟨x1.at.heap.size, 8, none⟩ = some (.int .i64 0) := fun z => by rw [z.cell _ (by simp)]; simp [World.cell?_alloc_new]
    have KB := Lib.hid (fun (z : Wb (x1.at.alloc (.cells #[.int .u32 3574104832, .bool true, .bool false, .bool false, .int .i64 0, .int .i64 0, .int .i64 0, .int .i64 8, .int .i64 0] 40))) => (((((Below.refl _ _).alloc (Nat.le_refl _) _).trans (x1.bel.mono (by simp))).alloc (by omega) _).trans (z.bel.mono (by simp; omega)) : Below w.heap.size w z.at))
    go_upto_region 5 with fail
    obtain ⟨y0, hy⟩ : ∃ y : Wb (x1.at.alloc (.cells #[.int .u32 3574104832, .bool true, .bool false, .bool false, .int .i64 0, .int .i64 0, .int .i64 0, .int .i64 8, .int .i64 0] 40)), (x1.at.alloc (.cells #[.int .u32 3574104832, .bool true, .bool false, .bool false, .int .i64 0, .int .i64 0, .int .i64 0, .int .i64 8, .int .i64 0] 40)) = y.at := ⟨⟨_, Below.refl _ _⟩, rfl⟩
    rw [hy]
    clear hy
    go_wp2_with fail
    refine (named_tlbi _ _ _ _ _ 32 _ (by decide)).mono ?_
    rintro e w1 ⟨rfl, q1⟩
    obtain ⟨y3, rfl⟩ := Wb.next q1
    clear q1
    go_wp2
    go_ret2
    refine ⟨ret_t ?_, KB.out y3⟩
    rw [HW.out]
    go_light
    clear KB RI HS HS1 HW a0 a1 a2 a3 a4 a5 b0 b1 b2 b3 b4 b5 b6 b7 b8 e0 e1 e2 e3 e4 e5 e6 e7 e8 k0
    exact encw_21_1 d 1 (by have := HBD.out; omega)
  · have RI := Lib.hid (fun w hs => xright_21 d 0 0 0 2 w hs (by omega) (by omega))
    rw [show GrI.code (decide (GrI.right ⟨21, d, 0, 0, 0, 2⟩)) = 0 by simp [GrI.code, hr]] at RI
    clear hr
    have HS := Lib.hid hs
    clear hs
    obtain ⟨WW, hWW⟩ : ∃ WW, WW = GrI.word ⟨21, d, 0, 0, 0, 2⟩ := ⟨_, rfl⟩
    rw [← hWW]
    have HW := Lib.hid hWW
    clear hWW
    go_enter Tryd.func10, Tryd.ntmps10
    go_wp2_with fail
    refine (RI.out _ (HS.out.alloc _)).mono ?_
    rintro e w1 ⟨rfl, b1⟩
    have HS1 := Lib.hid ((HS.out.alloc _).below b1)
    obtain ⟨x1, rfl⟩ := Wb.start b1
    clear b1
    have e0 : x1.at.cell? ⟨0, 189, none⟩ = some (.int .u32 3574104832) := HS1.out 189 (by decide)
    have e1 : x1.at.cell? ⟨0, 190, none⟩ = some (.bool true) := HS1.out 190 (by decide)
    have e2 : x1.at.cell? ⟨0, 191, none⟩ = some (.bool false) := HS1.out 191 (by decide)
    have e3 : x1.at.cell? ⟨0, 192, none⟩ = some (.bool false) := HS1.out 192 (by decide)
    have e4 : x1.at.cell? ⟨0, 193, none⟩ = some (.int .i64 0) := HS1.out 193 (by decide)
    have e5 : x1.at.cell? ⟨0, 194, none⟩ = some (.int .i64 0) := HS1.out 194 (by decide)
    have e6 : x1.at.cell? ⟨0, 195, none⟩ = some (.int .i64 0) := HS1.out 195 (by decide)
    have e7 : x1.at.cell? ⟨0, 196, none⟩ = some (.int .i64 8) := HS1.out 196 (by decide)
    have e8 : x1.at.cell? ⟨0, 197, none⟩ = some (.int .i64 0) := HS1.out 197 (by decide)
    have k0 : x1.at.cell? ⟨w.heap.size, 0, none⟩ = some (.int .i64 21) := by rw [x1.cell _ (by simp)]; simp [World.cell?_alloc_new]
    have lt1 : w.heap.size < x1.at.heap.size := by have := x1.size; simp at this; omega
    have a0 : ∀ z : Wb (x1.at.alloc (.cells #[.int .u32 3574104832, .bool true, .bool false, .bool false, .int .i64 0, .int .i64 0, .int .i64 0, .int .i64 8, .int .i64 0] 40)), z.at.cell? ⟨w.heap.size, 0, none⟩ = some (.int .i64 21) := fun z => (z.prev _ lt1).trans (by rw [x1.cell _ (by simp)]; simp [World.cell?_alloc_new])
    have a1 : ∀ z : Wb (x1.at.alloc (.cells #[.int .u32 3574104832, .bool true, .bool false, .bool false, .int .i64 0, .int .i64 0, .int .i64 0, .int .i64 8, .int .i64 0] 40)), z.at.cell? ⟨w.heap.size, 1, none⟩ = some (.int .i64 d) := fun z => (z.prev _ lt1).trans (by rw [x1.cell _ (by simp)]; simp [World.cell?_alloc_new])
    have a2 : ∀ z : Wb (x1.at.alloc (.cells #[.int .u32 3574104832, .bool true, .bool false, .bool false, .int .i64 0, .int .i64 0, .int .i64 0, .int .i64 8, .int .i64 0] 40)), z.at.cell? ⟨w.heap.size, 2, none⟩ = some (.int .i64 0) := fun z => (z.prev _ lt1).trans (by rw [x1.cell _ (by simp)]; simp [World.cell?_alloc_new])
    have a3 : ∀ z : Wb (x1.at.alloc (.cells #[.int .u32 3574104832, .bool true, .bool false, .bool false, .int .i64 0, .int .i64 0, .int .i64 0, .int .i64 8, .int .i64 0] 40)), z.at.cell? ⟨w.heap.size, 3, none⟩ = some (.int .i64 0) := fun z => (z.prev _ lt1).trans (by rw [x1.cell _ (by simp)]; simp [World.cell?_alloc_new])
    have a4 : ∀ z : Wb (x1.at.alloc (.cells #[.int .u32 3574104832, .bool true, .bool false, .bool false, .int .i64 0, .int .i64 0, .int .i64 0, .int .i64 8, .int .i64 0] 40)), z.at.cell? ⟨w.heap.size, 4, none⟩ = some (.int .i64 0) := fun z => (z.prev _ lt1).trans (by rw [x1.cell _ (by simp)]; simp [World.cell?_alloc_new])
    have a5 : ∀ z : Wb (x1.at.alloc (.cells #[.int .u32 3574104832, .bool true, .bool false, .bool false, .int .i64 0, .int .i64 0, .int .i64 0, .int .i64 8, .int .i64 0] 40)), z.at.cell? ⟨w.heap.size, 5, none⟩ = some (.int .i64 2) := fun z => (z.prev _ lt1).trans (by rw [x1.cell _ (by simp)]; simp [World.cell?_alloc_new])
    have b0 : ∀ z : Wb (x1.at.alloc (.cells #[.int .u32 3574104832, .bool true, .bool false, .bool false, .int .i64 0, .int .i64 0, .int .i64 0, .int .i64 8, .int .i64 0] 40)), z.at.cell? ⟨x1.at.heap.size, 0, none⟩ = some (.int .u32 3574104832) := fun z => by rw [z.cell _ (by simp)]; simp [World.cell?_alloc_new]
    have b1 : ∀ z : Wb (x1.at.alloc (.cells #[.int .u32 3574104832, .bool true, .bool false, .bool false, .int .i64 0, .int .i64 0, .int .i64 0, .int .i64 8, .int .i64 0] 40)), z.at.cell? ⟨x1.at.heap.size, 1, none⟩ = some (.bool true) := fun z => by rw [z.cell _ (by simp)]; simp [World.cell?_alloc_new]
    have b2 : ∀ z : Wb (x1.at.alloc (.cells #[.int .u32 3574104832, .bool true, .bool false, .bool false, .int .i64 0, .int .i64 0, .int .i64 0, .int .i64 8, .int .i64 0] 40)), z.at.cell? ⟨x1.at.heap.size, 2, none⟩ = some (.bool false) := fun z => by rw [z.cell _ (by simp)]; simp [World.cell?_alloc_new]
    have b3 : ∀ z : Wb (x1.at.alloc (.cells #[.int .u32 3574104832, .bool true, .bool false, .bool false, .int .i64 0, .int .i64 0, .int .i64 0, .int .i64 8, .int .i64 0] 40)), z.at.cell? ⟨x1.at.heap.size, 3, none⟩ = some (.bool false) := fun z => by rw [z.cell _ (by simp)]; simp [World.cell?_alloc_new]
    have b4 : ∀ z : Wb (x1.at.alloc (.cells #[.int .u32 3574104832, .bool true, .bool false, .bool false, .int .i64 0, .int .i64 0, .int .i64 0, .int .i64 8, .int .i64 0] 40)), z.at.cell? ⟨x1.at.heap.size, 4, none⟩ = some (.int .i64 0) := fun z => by rw [z.cell _ (by simp)]; simp [World.cell?_alloc_new]
    have b5 : ∀ z : Wb (x1.at.alloc (.cells #[.int .u32 3574104832, .bool true, .bool false, .bool false, .int .i64 0, .int .i64 0, .int .i64 0, .int .i64 8, .int .i64 0] 40)), z.at.cell? ⟨x1.at.heap.size, 5, none⟩ = some (.int .i64 0) := fun z => by rw [z.cell _ (by simp)]; simp [World.cell?_alloc_new]
    have b6 : ∀ z : Wb (x1.at.alloc (.cells #[.int .u32 3574104832, .bool true, .bool false, .bool false, .int .i64 0, .int .i64 0, .int .i64 0, .int .i64 8, .int .i64 0] 40)), z.at.cell? ⟨x1.at.heap.size, 6, none⟩ = some (.int .i64 0) := fun z => by rw [z.cell _ (by simp)]; simp [World.cell?_alloc_new]
    have b7 : ∀ z : Wb (x1.at.alloc (.cells #[.int .u32 3574104832, .bool true, .bool false, .bool false, .int .i64 0, .int .i64 0, .int .i64 0, .int .i64 8, .int .i64 0] 40)), z.at.cell? ⟨x1.at.heap.size, 7, none⟩ = some (.int .i64 8) := fun z => by rw [z.cell _ (by simp)]; simp [World.cell?_alloc_new]
    have b8 : ∀ z : Wb (x1.at.alloc (.cells #[.int .u32 3574104832, .bool true, .bool false, .bool false, .int .i64 0, .int .i64 0, .int .i64 0, .int .i64 8, .int .i64 0] 40)), z.at.cell? ⟨x1.at.heap.size, 8, none⟩ = some (.int .i64 0) := fun z => by rw [z.cell _ (by simp)]; simp [World.cell?_alloc_new]
    have KB := Lib.hid (fun (z : Wb (x1.at.alloc (.cells #[.int .u32 3574104832, .bool true, .bool false, .bool false, .int .i64 0, .int .i64 0, .int .i64 0, .int .i64 8, .int .i64 0] 40))) => (((((Below.refl _ _).alloc (Nat.le_refl _) _).trans (x1.bel.mono (by simp))).alloc (by omega) _).trans (z.bel.mono (by simp; omega)) : Below w.heap.size w z.at))
    go_upto_region 5 with fail
    obtain ⟨y0, hy⟩ : ∃ y : Wb (x1.at.alloc (.cells #[.int .u32 3574104832, .bool true, .bool false, .bool false, .int .i64 0, .int .i64 0, .int .i64 0, .int .i64 8, .int .i64 0] 40)), (x1.at.alloc (.cells #[.int .u32 3574104832, .bool true, .bool false, .bool false, .int .i64 0, .int .i64 0, .int .i64 0, .int .i64 8, .int .i64 0] 40)) = y.at := ⟨⟨_, Below.refl _ _⟩, rfl⟩
    rw [hy]
    clear hy
    go_wp2_with fail
    refine (named_tlbi _ _ _ _ _ 96 _ (by decide)).mono ?_
    rintro e w1 ⟨rfl, q1⟩
    obtain ⟨y3, rfl⟩ := Wb.next q1
    clear q1
    go_wp2
    go_ret2
    refine ⟨ret_t ?_, KB.out y3⟩
    rw [HW.out]
    go_light
    clear KB RI HS HS1 HW a0 a1 a2 a3 a4 a5 b0 b1 b2 b3 b4 b5 b6 b7 b8 e0 e1 e2 e3 e4 e5 e6 e7 e8 k0
    exact encw_21_2 d 2 (by have := HBD.out; omega)
  · have RI := Lib.hid (fun w hs => xright_21 d 0 0 0 3 w hs (by omega) (by omega))
    rw [show GrI.code (decide (GrI.right ⟨21, d, 0, 0, 0, 3⟩)) = 0 by simp [GrI.code, hr]] at RI
    clear hr
    have HS := Lib.hid hs
    clear hs
    obtain ⟨WW, hWW⟩ : ∃ WW, WW = GrI.word ⟨21, d, 0, 0, 0, 3⟩ := ⟨_, rfl⟩
    rw [← hWW]
    have HW := Lib.hid hWW
    clear hWW
    go_enter Tryd.func10, Tryd.ntmps10
    go_wp2_with fail
    refine (RI.out _ (HS.out.alloc _)).mono ?_
    rintro e w1 ⟨rfl, b1⟩
    have HS1 := Lib.hid ((HS.out.alloc _).below b1)
    obtain ⟨x1, rfl⟩ := Wb.start b1
    clear b1
    have e0 : x1.at.cell? ⟨0, 189, none⟩ = some (.int .u32 3574104832) := HS1.out 189 (by decide)
    have e1 : x1.at.cell? ⟨0, 190, none⟩ = some (.bool true) := HS1.out 190 (by decide)
    have e2 : x1.at.cell? ⟨0, 191, none⟩ = some (.bool false) := HS1.out 191 (by decide)
    have e3 : x1.at.cell? ⟨0, 192, none⟩ = some (.bool false) := HS1.out 192 (by decide)
    have e4 : x1.at.cell? ⟨0, 193, none⟩ = some (.int .i64 0) := HS1.out 193 (by decide)
    have e5 : x1.at.cell? ⟨0, 194, none⟩ = some (.int .i64 0) := HS1.out 194 (by decide)
    have e6 : x1.at.cell? ⟨0, 195, none⟩ = some (.int .i64 0) := HS1.out 195 (by decide)
    have e7 : x1.at.cell? ⟨0, 196, none⟩ = some (.int .i64 8) := HS1.out 196 (by decide)
    have e8 : x1.at.cell? ⟨0, 197, none⟩ = some (.int .i64 0) := HS1.out 197 (by decide)
    have k0 : x1.at.cell? ⟨w.heap.size, 0, none⟩ = some (.int .i64 21) := by rw [x1.cell _ (by simp)]; simp [World.cell?_alloc_new]
    have lt1 : w.heap.size < x1.at.heap.size := by have := x1.size; simp at this; omega
    have a0 : ∀ z : Wb (x1.at.alloc (.cells #[.int .u32 3574104832, .bool true, .bool false, .bool false, .int .i64 0, .int .i64 0, .int .i64 0, .int .i64 8, .int .i64 0] 40)), z.at.cell? ⟨w.heap.size, 0, none⟩ = some (.int .i64 21) := fun z => (z.prev _ lt1).trans (by rw [x1.cell _ (by simp)]; simp [World.cell?_alloc_new])
    have a1 : ∀ z : Wb (x1.at.alloc (.cells #[.int .u32 3574104832, .bool true, .bool false, .bool false, .int .i64 0, .int .i64 0, .int .i64 0, .int .i64 8, .int .i64 0] 40)), z.at.cell? ⟨w.heap.size, 1, none⟩ = some (.int .i64 d) := fun z => (z.prev _ lt1).trans (by rw [x1.cell _ (by simp)]; simp [World.cell?_alloc_new])
    have a2 : ∀ z : Wb (x1.at.alloc (.cells #[.int .u32 3574104832, .bool true, .bool false, .bool false, .int .i64 0, .int .i64 0, .int .i64 0, .int .i64 8, .int .i64 0] 40)), z.at.cell? ⟨w.heap.size, 2, none⟩ = some (.int .i64 0) := fun z => (z.prev _ lt1).trans (by rw [x1.cell _ (by simp)]; simp [World.cell?_alloc_new])
    have a3 : ∀ z : Wb (x1.at.alloc (.cells #[.int .u32 3574104832, .bool true, .bool false, .bool false, .int .i64 0, .int .i64 0, .int .i64 0, .int .i64 8, .int .i64 0] 40)), z.at.cell? ⟨w.heap.size, 3, none⟩ = some (.int .i64 0) := fun z => (z.prev _ lt1).trans (by rw [x1.cell _ (by simp)]; simp [World.cell?_alloc_new])
    have a4 : ∀ z : Wb (x1.at.alloc (.cells #[.int .u32 3574104832, .bool true, .bool false, .bool false, .int .i64 0, .int .i64 0, .int .i64 0, .int .i64 8, .int .i64 0] 40)), z.at.cell? ⟨w.heap.size, 4, none⟩ = some (.int .i64 0) := fun z => (z.prev _ lt1).trans (by rw [x1.cell _ (by simp)]; simp [World.cell?_alloc_new])
    have a5 : ∀ z : Wb (x1.at.alloc (.cells #[.int .u32 3574104832, .bool true, .bool false, .bool false, .int .i64 0, .int .i64 0, .int .i64 0, .int .i64 8, .int .i64 0] 40)), z.at.cell? ⟨w.heap.size, 5, none⟩ = some (.int .i64 3) := fun z => (z.prev _ lt1).trans (by rw [x1.cell _ (by simp)]; simp [World.cell?_alloc_new])
    have b0 : ∀ z : Wb (x1.at.alloc (.cells #[.int .u32 3574104832, .bool true, .bool false, .bool false, .int .i64 0, .int .i64 0, .int .i64 0, .int .i64 8, .int .i64 0] 40)), z.at.cell? ⟨x1.at.heap.size, 0, none⟩ = some (.int .u32 3574104832) := fun z => by rw [z.cell _ (by simp)]; simp [World.cell?_alloc_new]
    have b1 : ∀ z : Wb (x1.at.alloc (.cells #[.int .u32 3574104832, .bool true, .bool false, .bool false, .int .i64 0, .int .i64 0, .int .i64 0, .int .i64 8, .int .i64 0] 40)), z.at.cell? ⟨x1.at.heap.size, 1, none⟩ = some (.bool true) := fun z => by rw [z.cell _ (by simp)]; simp [World.cell?_alloc_new]
    have b2 : ∀ z : Wb (x1.at.alloc (.cells #[.int .u32 3574104832, .bool true, .bool false, .bool false, .int .i64 0, .int .i64 0, .int .i64 0, .int .i64 8, .int .i64 0] 40)), z.at.cell? ⟨x1.at.heap.size, 2, none⟩ = some (.bool false) := fun z => by rw [z.cell _ (by simp)]; simp [World.cell?_alloc_new]
    have b3 : ∀ z : Wb (x1.at.alloc (.cells #[.int .u32 3574104832, .bool true, .bool false, .bool false, .int .i64 0, .int .i64 0, .int .i64 0, .int .i64 8, .int .i64 0] 40)), z.at.cell? ⟨x1.at.heap.size, 3, none⟩ = some (.bool false) := fun z => by rw [z.cell _ (by simp)]; simp [World.cell?_alloc_new]
    have b4 : ∀ z : Wb (x1.at.alloc (.cells #[.int .u32 3574104832, .bool true, .bool false, .bool false, .int .i64 0, .int .i64 0, .int .i64 0, .int .i64 8, .int .i64 0] 40)), z.at.cell? ⟨x1.at.heap.size, 4, none⟩ = some (.int .i64 0) := fun z => by rw [z.cell _ (by simp)]; simp [World.cell?_alloc_new]
    have b5 : ∀ z : Wb (x1.at.alloc (.cells #[.int .u32 3574104832, .bool true, .bool false, .bool false, .int .i64 0, .int .i64 0, .int .i64 0, .int .i64 8, .int .i64 0] 40)), z.at.cell? ⟨x1.at.heap.size, 5, none⟩ = some (.int .i64 0) := fun z => by rw [z.cell _ (by simp)]; simp [World.cell?_alloc_new]
    have b6 : ∀ z : Wb (x1.at.alloc (.cells #[.int .u32 3574104832, .bool true, .bool false, .bool false, .int .i64 0, .int .i64 0, .int .i64 0, .int .i64 8, .int .i64 0] 40)), z.at.cell? ⟨x1.at.heap.size, 6, none⟩ = some (.int .i64 0) := fun z => by rw [z.cell _ (by simp)]; simp [World.cell?_alloc_new]
    have b7 : ∀ z : Wb (x1.at.alloc (.cells #[.int .u32 3574104832, .bool true, .bool false, .bool false, .int .i64 0, .int .i64 0, .int .i64 0, .int .i64 8, .int .i64 0] 40)), z.at.cell? ⟨x1.at.heap.size, 7, none⟩ = some (.int .i64 8) := fun z => by rw [z.cell _ (by simp)]; simp [World.cell?_alloc_new]
    have b8 : ∀ z : Wb (x1.at.alloc (.cells #[.int .u32 3574104832, .bool true, .bool false, .bool false, .int .i64 0, .int .i64 0, .int .i64 0, .int .i64 8, .int .i64 0] 40)), z.at.cell? ⟨x1.at.heap.size, 8, none⟩ = some (.int .i64 0) := fun z => by rw [z.cell _ (by simp)]; simp [World.cell?_alloc_new]
    have KB := Lib.hid (fun (z : Wb (x1.at.alloc (.cells #[.int .u32 3574104832, .bool true, .bool false, .bool false, .int .i64 0, .int .i64 0, .int .i64 0, .int .i64 8, .int .i64 0] 40))) => (((((Below.refl _ _).alloc (Nat.le_refl _) _).trans (x1.bel.mono (by simp))).alloc (by omega) _).trans (z.bel.mono (by simp; omega)) : Below w.heap.size w z.at))
    go_upto_region 5 with fail
    obtain ⟨y0, hy⟩ : ∃ y : Wb (x1.at.alloc (.cells #[.int .u32 3574104832, .bool true, .bool false, .bool false, .int .i64 0, .int .i64 0, .int .i64 0, .int .i64 8, .int .i64 0] 40)), (x1.at.alloc (.cells #[.int .u32 3574104832, .bool true, .bool false, .bool false, .int .i64 0, .int .i64 0, .int .i64 0, .int .i64 8, .int .i64 0] 40)) = y.at := ⟨⟨_, Below.refl _ _⟩, rfl⟩
    rw [hy]
    clear hy
    go_wp2_with fail
    refine (named_tlbi _ _ _ _ _ 64 _ (by decide)).mono ?_
    rintro e w1 ⟨rfl, q1⟩
    obtain ⟨y3, rfl⟩ := Wb.next q1
    clear q1
    go_wp2
    go_ret2
    refine ⟨ret_t ?_, KB.out y3⟩
    rw [HW.out]
    go_light
    clear KB RI HS HS1 HW a0 a1 a2 a3 a4 a5 b0 b1 b2 b3 b4 b5 b6 b7 b8 e0 e1 e2 e3 e4 e5 e6 e7 e8 k0
    exact encw_21_3 d 3 (by have := HBD.out; omega)
  · have RI := Lib.hid (fun w hs => xright_21 d 0 0 0 4 w hs (by omega) (by omega))
    rw [show GrI.code (decide (GrI.right ⟨21, d, 0, 0, 0, 4⟩)) = 0 by simp [GrI.code, hr]] at RI
    clear hr
    have HS := Lib.hid hs
    clear hs
    obtain ⟨WW, hWW⟩ : ∃ WW, WW = GrI.word ⟨21, d, 0, 0, 0, 4⟩ := ⟨_, rfl⟩
    rw [← hWW]
    have HW := Lib.hid hWW
    clear hWW
    go_enter Tryd.func10, Tryd.ntmps10
    go_wp2_with fail
    refine (RI.out _ (HS.out.alloc _)).mono ?_
    rintro e w1 ⟨rfl, b1⟩
    have HS1 := Lib.hid ((HS.out.alloc _).below b1)
    obtain ⟨x1, rfl⟩ := Wb.start b1
    clear b1
    have e0 : x1.at.cell? ⟨0, 189, none⟩ = some (.int .u32 3574104832) := HS1.out 189 (by decide)
    have e1 : x1.at.cell? ⟨0, 190, none⟩ = some (.bool true) := HS1.out 190 (by decide)
    have e2 : x1.at.cell? ⟨0, 191, none⟩ = some (.bool false) := HS1.out 191 (by decide)
    have e3 : x1.at.cell? ⟨0, 192, none⟩ = some (.bool false) := HS1.out 192 (by decide)
    have e4 : x1.at.cell? ⟨0, 193, none⟩ = some (.int .i64 0) := HS1.out 193 (by decide)
    have e5 : x1.at.cell? ⟨0, 194, none⟩ = some (.int .i64 0) := HS1.out 194 (by decide)
    have e6 : x1.at.cell? ⟨0, 195, none⟩ = some (.int .i64 0) := HS1.out 195 (by decide)
    have e7 : x1.at.cell? ⟨0, 196, none⟩ = some (.int .i64 8) := HS1.out 196 (by decide)
    have e8 : x1.at.cell? ⟨0, 197, none⟩ = some (.int .i64 0) := HS1.out 197 (by decide)
    have k0 : x1.at.cell? ⟨w.heap.size, 0, none⟩ = some (.int .i64 21) := by rw [x1.cell _ (by simp)]; simp [World.cell?_alloc_new]
    have lt1 : w.heap.size < x1.at.heap.size := by have := x1.size; simp at this; omega
    have a0 : ∀ z : Wb (x1.at.alloc (.cells #[.int .u32 3574104832, .bool true, .bool false, .bool false, .int .i64 0, .int .i64 0, .int .i64 0, .int .i64 8, .int .i64 0] 40)), z.at.cell? ⟨w.heap.size, 0, none⟩ = some (.int .i64 21) := fun z => (z.prev _ lt1).trans (by rw [x1.cell _ (by simp)]; simp [World.cell?_alloc_new])
    have a1 : ∀ z : Wb (x1.at.alloc (.cells #[.int .u32 3574104832, .bool true, .bool false, .bool false, .int .i64 0, .int .i64 0, .int .i64 0, .int .i64 8, .int .i64 0] 40)), z.at.cell? ⟨w.heap.size, 1, none⟩ = some (.int .i64 d) := fun z => (z.prev _ lt1).trans (by rw [x1.cell _ (by simp)]; simp [World.cell?_alloc_new])
    have a2 : ∀ z : Wb (x1.at.alloc (.cells #[.int .u32 3574104832, .bool true, .bool false, .bool false, .int .i64 0, .int .i64 0, .int .i64 0, .int .i64 8, .int .i64 0] 40)), z.at.cell? ⟨w.heap.size, 2, none⟩ = some (.int .i64 0) := fun z => (z.prev _ lt1).trans (by rw [x1.cell _ (by simp)]; simp [World.cell?_alloc_new])
    have a3 : ∀ z : Wb (x1.at.alloc (.cells #[.int .u32 3574104832, .bool true, .bool false, .bool false, .int .i64 0, .int .i64 0, .int .i64 0, .int .i64 8, .int .i64 0] 40)), z.at.cell? ⟨w.heap.size, 3, none⟩ = some (.int .i64 0) := fun z => (z.prev _ lt1).trans (by rw [x1.cell _ (by simp)]; simp [World.cell?_alloc_new])
    have a4 : ∀ z : Wb (x1.at.alloc (.cells #[.int .u32 3574104832, .bool true, .bool false, .bool false, .int .i64 0, .int .i64 0, .int .i64 0, .int .i64 8, .int .i64 0] 40)), z.at.cell? ⟨w.heap.size, 4, none⟩ = some (.int .i64 0) := fun z => (z.prev _ lt1).trans (by rw [x1.cell _ (by simp)]; simp [World.cell?_alloc_new])
    have a5 : ∀ z : Wb (x1.at.alloc (.cells #[.int .u32 3574104832, .bool true, .bool false, .bool false, .int .i64 0, .int .i64 0, .int .i64 0, .int .i64 8, .int .i64 0] 40)), z.at.cell? ⟨w.heap.size, 5, none⟩ = some (.int .i64 4) := fun z => (z.prev _ lt1).trans (by rw [x1.cell _ (by simp)]; simp [World.cell?_alloc_new])
    have b0 : ∀ z : Wb (x1.at.alloc (.cells #[.int .u32 3574104832, .bool true, .bool false, .bool false, .int .i64 0, .int .i64 0, .int .i64 0, .int .i64 8, .int .i64 0] 40)), z.at.cell? ⟨x1.at.heap.size, 0, none⟩ = some (.int .u32 3574104832) := fun z => by rw [z.cell _ (by simp)]; simp [World.cell?_alloc_new]
    have b1 : ∀ z : Wb (x1.at.alloc (.cells #[.int .u32 3574104832, .bool true, .bool false, .bool false, .int .i64 0, .int .i64 0, .int .i64 0, .int .i64 8, .int .i64 0] 40)), z.at.cell? ⟨x1.at.heap.size, 1, none⟩ = some (.bool true) := fun z => by rw [z.cell _ (by simp)]; simp [World.cell?_alloc_new]
    have b2 : ∀ z : Wb (x1.at.alloc (.cells #[.int .u32 3574104832, .bool true, .bool false, .bool false, .int .i64 0, .int .i64 0, .int .i64 0, .int .i64 8, .int .i64 0] 40)), z.at.cell? ⟨x1.at.heap.size, 2, none⟩ = some (.bool false) := fun z => by rw [z.cell _ (by simp)]; simp [World.cell?_alloc_new]
    have b3 : ∀ z : Wb (x1.at.alloc (.cells #[.int .u32 3574104832, .bool true, .bool false, .bool false, .int .i64 0, .int .i64 0, .int .i64 0, .int .i64 8, .int .i64 0] 40)), z.at.cell? ⟨x1.at.heap.size, 3, none⟩ = some (.bool false) := fun z => by rw [z.cell _ (by simp)]; simp [World.cell?_alloc_new]
    have b4 : ∀ z : Wb (x1.at.alloc (.cells #[.int .u32 3574104832, .bool true, .bool false, .bool false, .int .i64 0, .int .i64 0, .int .i64 0, .int .i64 8, .int .i64 0] 40)), z.at.cell? ⟨x1.at.heap.size, 4, none⟩ = some (.int .i64 0) := fun z => by rw [z.cell _ (by simp)]; simp [World.cell?_alloc_new]
    have b5 : ∀ z : Wb (x1.at.alloc (.cells #[.int .u32 3574104832, .bool true, .bool false, .bool false, .int .i64 0, .int .i64 0, .int .i64 0, .int .i64 8, .int .i64 0] 40)), z.at.cell? ⟨x1.at.heap.size, 5, none⟩ = some (.int .i64 0) := fun z => by rw [z.cell _ (by simp)]; simp [World.cell?_alloc_new]
    have b6 : ∀ z : Wb (x1.at.alloc (.cells #[.int .u32 3574104832, .bool true, .bool false, .bool false, .int .i64 0, .int .i64 0, .int .i64 0, .int .i64 8, .int .i64 0] 40)), z.at.cell? ⟨x1.at.heap.size, 6, none⟩ = some (.int .i64 0) := fun z => by rw [z.cell _ (by simp)]; simp [World.cell?_alloc_new]
    have b7 : ∀ z : Wb (x1.at.alloc (.cells #[.int .u32 3574104832, .bool true, .bool false, .bool false, .int .i64 0, .int .i64 0, .int .i64 0, .int .i64 8, .int .i64 0] 40)), z.at.cell? ⟨x1.at.heap.size, 7, none⟩ = some (.int .i64 8) := fun z => by rw [z.cell _ (by simp)]; simp [World.cell?_alloc_new]
    have b8 : ∀ z : Wb (x1.at.alloc (.cells #[.int .u32 3574104832, .bool true, .bool false, .bool false, .int .i64 0, .int .i64 0, .int .i64 0, .int .i64 8, .int .i64 0] 40)), z.at.cell? ⟨x1.at.heap.size, 8, none⟩ = some (.int .i64 0) := fun z => by rw [z.cell _ (by simp)]; simp [World.cell?_alloc_new]
    have KB := Lib.hid (fun (z : Wb (x1.at.alloc (.cells #[.int .u32 3574104832, .bool true, .bool false, .bool false, .int .i64 0, .int .i64 0, .int .i64 0, .int .i64 8, .int .i64 0] 40))) => (((((Below.refl _ _).alloc (Nat.le_refl _) _).trans (x1.bel.mono (by simp))).alloc (by omega) _).trans (z.bel.mono (by simp; omega)) : Below w.heap.size w z.at))
    go_upto_region 5 with fail
    obtain ⟨y0, hy⟩ : ∃ y : Wb (x1.at.alloc (.cells #[.int .u32 3574104832, .bool true, .bool false, .bool false, .int .i64 0, .int .i64 0, .int .i64 0, .int .i64 8, .int .i64 0] 40)), (x1.at.alloc (.cells #[.int .u32 3574104832, .bool true, .bool false, .bool false, .int .i64 0, .int .i64 0, .int .i64 0, .int .i64 8, .int .i64 0] 40)) = y.at := ⟨⟨_, Below.refl _ _⟩, rfl⟩
    rw [hy]
    clear hy
    go_wp2_with fail
    refine (named_tlbi _ _ _ _ _ 1024 _ (by decide)).mono ?_
    rintro e w1 ⟨rfl, q1⟩
    obtain ⟨y3, rfl⟩ := Wb.next q1
    clear q1
    go_wp2
    go_ret2
    refine ⟨ret_t ?_, KB.out y3⟩
    rw [HW.out]
    go_light
    clear KB RI HS HS1 HW a0 a1 a2 a3 a4 a5 b0 b1 b2 b3 b4 b5 b6 b7 b8 e0 e1 e2 e3 e4 e5 e6 e7 e8 k0
    exact encw_21_4 d 4 (by have := HBD.out; omega)
  · have RI := Lib.hid (fun w hs => xright_21 d 0 0 0 5 w hs (by omega) (by omega))
    rw [show GrI.code (decide (GrI.right ⟨21, d, 0, 0, 0, 5⟩)) = 0 by simp [GrI.code, hr]] at RI
    clear hr
    have HS := Lib.hid hs
    clear hs
    obtain ⟨WW, hWW⟩ : ∃ WW, WW = GrI.word ⟨21, d, 0, 0, 0, 5⟩ := ⟨_, rfl⟩
    rw [← hWW]
    have HW := Lib.hid hWW
    clear hWW
    go_enter Tryd.func10, Tryd.ntmps10
    go_wp2_with fail
    refine (RI.out _ (HS.out.alloc _)).mono ?_
    rintro e w1 ⟨rfl, b1⟩
    have HS1 := Lib.hid ((HS.out.alloc _).below b1)
    obtain ⟨x1, rfl⟩ := Wb.start b1
    clear b1
    have e0 : x1.at.cell? ⟨0, 189, none⟩ = some (.int .u32 3574104832) := HS1.out 189 (by decide)
    have e1 : x1.at.cell? ⟨0, 190, none⟩ = some (.bool true) := HS1.out 190 (by decide)
    have e2 : x1.at.cell? ⟨0, 191, none⟩ = some (.bool false) := HS1.out 191 (by decide)
    have e3 : x1.at.cell? ⟨0, 192, none⟩ = some (.bool false) := HS1.out 192 (by decide)
    have e4 : x1.at.cell? ⟨0, 193, none⟩ = some (.int .i64 0) := HS1.out 193 (by decide)
    have e5 : x1.at.cell? ⟨0, 194, none⟩ = some (.int .i64 0) := HS1.out 194 (by decide)
    have e6 : x1.at.cell? ⟨0, 195, none⟩ = some (.int .i64 0) := HS1.out 195 (by decide)
    have e7 : x1.at.cell? ⟨0, 196, none⟩ = some (.int .i64 8) := HS1.out 196 (by decide)
    have e8 : x1.at.cell? ⟨0, 197, none⟩ = some (.int .i64 0) := HS1.out 197 (by decide)
    have k0 : x1.at.cell? ⟨w.heap.size, 0, none⟩ = some (.int .i64 21) := by rw [x1.cell _ (by simp)]; simp [World.cell?_alloc_new]
    have lt1 : w.heap.size < x1.at.heap.size := by have := x1.size; simp at this; omega
    have a0 : ∀ z : Wb (x1.at.alloc (.cells #[.int .u32 3574104832, .bool true, .bool false, .bool false, .int .i64 0, .int .i64 0, .int .i64 0, .int .i64 8, .int .i64 0] 40)), z.at.cell? ⟨w.heap.size, 0, none⟩ = some (.int .i64 21) := fun z => (z.prev _ lt1).trans (by rw [x1.cell _ (by simp)]; simp [World.cell?_alloc_new])
    have a1 : ∀ z : Wb (x1.at.alloc (.cells #[.int .u32 3574104832, .bool true, .bool false, .bool false, .int .i64 0, .int .i64 0, .int .i64 0, .int .i64 8, .int .i64 0] 40)), z.at.cell? ⟨w.heap.size, 1, none⟩ = some (.int .i64 d) := fun z => (z.prev _ lt1).trans (by rw [x1.cell _ (by simp)]; simp [World.cell?_alloc_new])
    have a2 : ∀ z : Wb (x1.at.alloc (.cells #[.int .u32 3574104832, .bool true, .bool false, .bool false, .int .i64 0, .int .i64 0, .int .i64 0, .int .i64 8, .int .i64 0] 40)), z.at.cell? ⟨w.heap.size, 2, none⟩ = some (.int .i64 0) := fun z => (z.prev _ lt1).trans (by rw [x1.cell _ (by simp)]; simp [World.cell?_alloc_new])
    have a3 : ∀ z : Wb (x1.at.alloc (.cells #[.int .u32 3574104832, .bool true, .bool false, .bool false, .int .i64 0, .int .i64 0, .int .i64 0, .int .i64 8, .int .i64 0] 40)), z.at.cell? ⟨w.heap.size, 3, none⟩ = some (.int .i64 0) := fun z => (z.prev _ lt1).trans (by rw [x1.cell _ (by simp)]; simp [World.cell?_alloc_new])
    have a4 : ∀ z : Wb (x1.at.alloc (.cells #[.int .u32 3574104832, .bool true, .bool false, .bool false, .int .i64 0, .int .i64 0, .int .i64 0, .int .i64 8, .int .i64 0] 40)), z.at.cell? ⟨w.heap.size, 4, none⟩ = some (.int .i64 0) := fun z => (z.prev _ lt1).trans (by rw [x1.cell _ (by simp)]; simp [World.cell?_alloc_new])
    have a5 : ∀ z : Wb (x1.at.alloc (.cells #[.int .u32 3574104832, .bool true, .bool false, .bool false, .int .i64 0, .int .i64 0, .int .i64 0, .int .i64 8, .int .i64 0] 40)), z.at.cell? ⟨w.heap.size, 5, none⟩ = some (.int .i64 5) := fun z => (z.prev _ lt1).trans (by rw [x1.cell _ (by simp)]; simp [World.cell?_alloc_new])
    have b0 : ∀ z : Wb (x1.at.alloc (.cells #[.int .u32 3574104832, .bool true, .bool false, .bool false, .int .i64 0, .int .i64 0, .int .i64 0, .int .i64 8, .int .i64 0] 40)), z.at.cell? ⟨x1.at.heap.size, 0, none⟩ = some (.int .u32 3574104832) := fun z => by rw [z.cell _ (by simp)]; simp [World.cell?_alloc_new]
    have b1 : ∀ z : Wb (x1.at.alloc (.cells #[.int .u32 3574104832, .bool true, .bool false, .bool false, .int .i64 0, .int .i64 0, .int .i64 0, .int .i64 8, .int .i64 0] 40)), z.at.cell? ⟨x1.at.heap.size, 1, none⟩ = some (.bool true) := fun z => by rw [z.cell _ (by simp)]; simp [World.cell?_alloc_new]
    have b2 : ∀ z : Wb (x1.at.alloc (.cells #[.int .u32 3574104832, .bool true, .bool false, .bool false, .int .i64 0, .int .i64 0, .int .i64 0, .int .i64 8, .int .i64 0] 40)), z.at.cell? ⟨x1.at.heap.size, 2, none⟩ = some (.bool false) := fun z => by rw [z.cell _ (by simp)]; simp [World.cell?_alloc_new]
    have b3 : ∀ z : Wb (x1.at.alloc (.cells #[.int .u32 3574104832, .bool true, .bool false, .bool false, .int .i64 0, .int .i64 0, .int .i64 0, .int .i64 8, .int .i64 0] 40)), z.at.cell? ⟨x1.at.heap.size, 3, none⟩ = some (.bool false) := fun z => by rw [z.cell _ (by simp)]; simp [World.cell?_alloc_new]
    have b4 : ∀ z : Wb (x1.at.alloc (.cells #[.int .u32 3574104832, .bool true, .bool false, .bool false, .int .i64 0, .int .i64 0, .int .i64 0, .int .i64 8, .int .i64 0] 40)), z.at.cell? ⟨x1.at.heap.size, 4, none⟩ = some (.int .i64 0) := fun z => by rw [z.cell _ (by simp)]; simp [World.cell?_alloc_new]
    have b5 : ∀ z : Wb (x1.at.alloc (.cells #[.int .u32 3574104832, .bool true, .bool false, .bool false, .int .i64 0, .int .i64 0, .int .i64 0, .int .i64 8, .int .i64 0] 40)), z.at.cell? ⟨x1.at.heap.size, 5, none⟩ = some (.int .i64 0) := fun z => by rw [z.cell _ (by simp)]; simp [World.cell?_alloc_new]
    have b6 : ∀ z : Wb (x1.at.alloc (.cells #[.int .u32 3574104832, .bool true, .bool false, .bool false, .int .i64 0, .int .i64 0, .int .i64 0, .int .i64 8, .int .i64 0] 40)), z.at.cell? ⟨x1.at.heap.size, 6, none⟩ = some (.int .i64 0) := fun z => by rw [z.cell _ (by simp)]; simp [World.cell?_alloc_new]
    have b7 : ∀ z : Wb (x1.at.alloc (.cells #[.int .u32 3574104832, .bool true, .bool false, .bool false, .int .i64 0, .int .i64 0, .int .i64 0, .int .i64 8, .int .i64 0] 40)), z.at.cell? ⟨x1.at.heap.size, 7, none⟩ = some (.int .i64 8) := fun z => by rw [z.cell _ (by simp)]; simp [World.cell?_alloc_new]
    have b8 : ∀ z : Wb (x1.at.alloc (.cells #[.int .u32 3574104832, .bool true, .bool false, .bool false, .int .i64 0, .int .i64 0, .int .i64 0, .int .i64 8, .int .i64 0] 40)), z.at.cell? ⟨x1.at.heap.size, 8, none⟩ = some (.int .i64 0) := fun z => by rw [z.cell _ (by simp)]; simp [World.cell?_alloc_new]
    have KB := Lib.hid (fun (z : Wb (x1.at.alloc (.cells #[.int .u32 3574104832, .bool true, .bool false, .bool false, .int .i64 0, .int .i64 0, .int .i64 0, .int .i64 8, .int .i64 0] 40))) => (((((Below.refl _ _).alloc (Nat.le_refl _) _).trans (x1.bel.mono (by simp))).alloc (by omega) _).trans (z.bel.mono (by simp; omega)) : Below w.heap.size w z.at))
    go_upto_region 5 with fail
    obtain ⟨y0, hy⟩ : ∃ y : Wb (x1.at.alloc (.cells #[.int .u32 3574104832, .bool true, .bool false, .bool false, .int .i64 0, .int .i64 0, .int .i64 0, .int .i64 8, .int .i64 0] 40)), (x1.at.alloc (.cells #[.int .u32 3574104832, .bool true, .bool false, .bool false, .int .i64 0, .int .i64 0, .int .i64 0, .int .i64 8, .int .i64 0] 40)) = y.at := ⟨⟨_, Below.refl _ _⟩, rfl⟩
    rw [hy]
    clear hy
    go_wp2_with fail
    refine (named_tlbi _ _ _ _ _ 1056 _ (by decide)).mono ?_
    rintro e w1 ⟨rfl, q1⟩
    obtain ⟨y3, rfl⟩ := Wb.next q1
    clear q1
    go_wp2
    go_ret2
    refine ⟨ret_t ?_, KB.out y3⟩
    rw [HW.out]
    go_light
    clear KB RI HS HS1 HW a0 a1 a2 a3 a4 a5 b0 b1 b2 b3 b4 b5 b6 b7 b8 e0 e1 e2 e3 e4 e5 e6 e7 e8 k0
    exact encw_21_5 d 5 (by have := HBD.out; omega)
  · have RI := Lib.hid (fun w hs => xright_21 d 0 0 0 6 w hs (by omega) (by omega))
    rw [show GrI.code (decide (GrI.right ⟨21, d, 0, 0, 0, 6⟩)) = 0 by simp [GrI.code, hr]] at RI
    clear hr
    have HS := Lib.hid hs
    clear hs
    obtain ⟨WW, hWW⟩ : ∃ WW, WW = GrI.word ⟨21, d, 0, 0, 0, 6⟩ := ⟨_, rfl⟩
    rw [← hWW]
    have HW := Lib.hid hWW
    clear hWW
    go_enter Tryd.func10, Tryd.ntmps10
    go_wp2_with fail
    refine (RI.out _ (HS.out.alloc _)).mono ?_
    rintro e w1 ⟨rfl, b1⟩
    have HS1 := Lib.hid ((HS.out.alloc _).below b1)
    obtain ⟨x1, rfl⟩ := Wb.start b1
    clear b1
    have e0 : x1.at.cell? ⟨0, 189, none⟩ = some (.int .u32 3574104832) := HS1.out 189 (by decide)
    have e1 : x1.at.cell? ⟨0, 190, none⟩ = some (.bool true) := HS1.out 190 (by decide)
    have e2 : x1.at.cell? ⟨0, 191, none⟩ = some (.bool false) := HS1.out 191 (by decide)
    have e3 : x1.at.cell? ⟨0, 192, none⟩ = some (.bool false) := HS1.out 192 (by decide)
    have e4 : x1.at.cell? ⟨0, 193, none⟩ = some (.int .i64 0) := HS1.out 193 (by decide)
    have e5 : x1.at.cell? ⟨0, 194, none⟩ = some (.int .i64 0) := HS1.out 194 (by decide)
    have e6 : x1.at.cell? ⟨0, 195, none⟩ = some (.int .i64 0) := HS1.out 195 (by decide)
    have e7 : x1.at.cell? ⟨0, 196, none⟩ = some (.int .i64 8) := HS1.out 196 (by decide)
    have e8 : x1.at.cell? ⟨0, 197, none⟩ = some (.int .i64 0) := HS1.out 197 (by decide)
    have k0 : x1.at.cell? ⟨w.heap.size, 0, none⟩ = some (.int .i64 21) := by rw [x1.cell _ (by simp)]; simp [World.cell?_alloc_new]
    have lt1 : w.heap.size < x1.at.heap.size := by have := x1.size; simp at this; omega
    have a0 : ∀ z : Wb (x1.at.alloc (.cells #[.int .u32 3574104832, .bool true, .bool false, .bool false, .int .i64 0, .int .i64 0, .int .i64 0, .int .i64 8, .int .i64 0] 40)), z.at.cell? ⟨w.heap.size, 0, none⟩ = some (.int .i64 21) := fun z => (z.prev _ lt1).trans (by rw [x1.cell _ (by simp)]; simp [World.cell?_alloc_new])
    have a1 : ∀ z : Wb (x1.at.alloc (.cells #[.int .u32 3574104832, .bool true, .bool false, .bool false, .int .i64 0, .int .i64 0, .int .i64 0, .int .i64 8, .int .i64 0] 40)), z.at.cell? ⟨w.heap.size, 1, none⟩ = some (.int .i64 d) := fun z => (z.prev _ lt1).trans (by rw [x1.cell _ (by simp)]; simp [World.cell?_alloc_new])
    have a2 : ∀ z : Wb (x1.at.alloc (.cells #[.int .u32 3574104832, .bool true, .bool false, .bool false, .int .i64 0, .int .i64 0, .int .i64 0, .int .i64 8, .int .i64 0] 40)), z.at.cell? ⟨w.heap.size, 2, none⟩ = some (.int .i64 0) := fun z => (z.prev _ lt1).trans (by rw [x1.cell _ (by simp)]; simp [World.cell?_alloc_new])
    have a3 : ∀ z : Wb (x1.at.alloc (.cells #[.int .u32 3574104832, .bool true, .bool false, .bool false, .int .i64 0, .int .i64 0, .int .i64 0, .int .i64 8, .int .i64 0] 40)), z.at.cell? ⟨w.heap.size, 3, none⟩ = some (.int .i64 0) := fun z => (z.prev _ lt1).trans (by rw [x1.cell _ (by simp)]; simp [World.cell?_alloc_new])
    have a4 : ∀ z : Wb (x1.at.alloc (.cells #[.int .u32 3574104832, .bool true, .bool false, .bool false, .int .i64 0, .int .i64 0, .int .i64 0, .int .i64 8, .int .i64 0] 40)), z.at.cell? ⟨w.heap.size, 4, none⟩ = some (.int .i64 0) := fun z => (z.prev _ lt1).trans (by rw [x1.cell _ (by simp)]; simp [World.cell?_alloc_new])
    have a5 : ∀ z : Wb (x1.at.alloc (.cells #[.int .u32 3574104832, .bool true, .bool false, .bool false, .int .i64 0, .int .i64 0, .int .i64 0, .int .i64 8, .int .i64 0] 40)), z.at.cell? ⟨w.heap.size, 5, none⟩ = some (.int .i64 6) := fun z => (z.prev _ lt1).trans (by rw [x1.cell _ (by simp)]; simp [World.cell?_alloc_new])
    have b0 : ∀ z : Wb (x1.at.alloc (.cells #[.int .u32 3574104832, .bool true, .bool false, .bool false, .int .i64 0, .int .i64 0, .int .i64 0, .int .i64 8, .int .i64 0] 40)), z.at.cell? ⟨x1.at.heap.size, 0, none⟩ = some (.int .u32 3574104832) := fun z => by rw [z.cell _ (by simp)]; simp [World.cell?_alloc_new]
    have b1 : ∀ z : Wb (x1.at.alloc (.cells #[.int .u32 3574104832, .bool true, .bool false, .bool false, .int .i64 0, .int .i64 0, .int .i64 0, .int .i64 8, .int .i64 0] 40)), z.at.cell? ⟨x1.at.heap.size, 1, none⟩ = some (.bool true) := fun z => by rw [z.cell _ (by simp)]; simp [World.cell?_alloc_new]
    have b2 : ∀ z : Wb (x1.at.alloc (.cells #[.int .u32 3574104832, .bool true, .bool false, .bool false, .int .i64 0, .int .i64 0, .int .i64 0, .int .i64 8, .int .i64 0] 40)), z.at.cell? ⟨x1.at.heap.size, 2, none⟩ = some (.bool false) := fun z => by rw [z.cell _ (by simp)]; simp [World.cell?_alloc_new]
    have b3 : ∀ z : Wb (x1.at.alloc (.cells #[.int .u32 3574104832, .bool true, .bool false, .bool false, .int .i64 0, .int .i64 0, .int .i64 0, .int .i64 8, .int .i64 0] 40)), z.at.cell? ⟨x1.at.heap.size, 3, none⟩ = some (.bool false) := fun z => by rw [z.cell _ (by simp)]; simp [World.cell?_alloc_new]
    have b4 : ∀ z : Wb (x1.at.alloc (.cells #[.int .u32 3574104832, .bool true, .bool false, .bool false, .int .i64 0, .int .i64 0, .int .i64 0, .int .i64 8, .int .i64 0] 40)), z.at.cell? ⟨x1.at.heap.size, 4, none⟩ = some (.int .i64 0) := fun z => by rw [z.cell _ (by simp)]; simp [World.cell?_alloc_new]
    have b5 : ∀ z : Wb (x1.at.alloc (.cells #[.int .u32 3574104832, .bool true, .bool false, .bool false, .int .i64 0, .int .i64 0, .int .i64 0, .int .i64 8, .int .i64 0] 40)), z.at.cell? ⟨x1.at.heap.size, 5, none⟩ = some (.int .i64 0) := fun z => by rw [z.cell _ (by simp)]; simp [World.cell?_alloc_new]
    have b6 : ∀ z : Wb (x1.at.alloc (.cells #[.int .u32 3574104832, .bool true, .bool false, .bool false, .int .i64 0, .int .i64 0, .int .i64 0, .int .i64 8, .int .i64 0] 40)), z.at.cell? ⟨x1.at.heap.size, 6, none⟩ = some (.int .i64 0) := fun z => by rw [z.cell _ (by simp)]; simp [World.cell?_alloc_new]
    have b7 : ∀ z : Wb (x1.at.alloc (.cells #[.int .u32 3574104832, .bool true, .bool false, .bool false, .int .i64 0, .int .i64 0, .int .i64 0, .int .i64 8, .int .i64 0] 40)), z.at.cell? ⟨x1.at.heap.size, 7, none⟩ = some (.int .i64 8) := fun z => by rw [z.cell _ (by simp)]; simp [World.cell?_alloc_new]
    have b8 : ∀ z : Wb (x1.at.alloc (.cells #[.int .u32 3574104832, .bool true, .bool false, .bool false, .int .i64 0, .int .i64 0, .int .i64 0, .int .i64 8, .int .i64 0] 40)), z.at.cell? ⟨x1.at.heap.size, 8, none⟩ = some (.int .i64 0) := fun z => by rw [z.cell _ (by simp)]; simp [World.cell?_alloc_new]
    have KB := Lib.hid (fun (z : Wb (x1.at.alloc (.cells #[.int .u32 3574104832, .bool true, .bool false, .bool false, .int .i64 0, .int .i64 0, .int .i64 0, .int .i64 8, .int .i64 0] 40))) => (((((Below.refl _ _).alloc (Nat.le_refl _) _).trans (x1.bel.mono (by simp))).alloc (by omega) _).trans (z.bel.mono (by simp; omega)) : Below w.heap.size w z.at))
    go_upto_region 5 with fail
    obtain ⟨y0, hy⟩ : ∃ y : Wb (x1.at.alloc (.cells #[.int .u32 3574104832, .bool true, .bool false, .bool false, .int .i64 0, .int .i64 0, .int .i64 0, .int .i64 8, .int .i64 0] 40)), (x1.at.alloc (.cells #[.int .u32 3574104832, .bool true, .bool false, .bool false, .int .i64 0, .int .i64 0, .int .i64 0, .int .i64 8, .int .i64 0] 40)) = y.at := ⟨⟨_, Below.refl _ _⟩, rfl⟩
    rw [hy]
    clear hy
    go_wp2_with fail
    refine (named_tlbi _ _ _ _ _ 1120 _ (by decide)).mono ?_
    rintro e w1 ⟨rfl, q1⟩
    obtain ⟨y3, rfl⟩ := Wb.next q1
    clear q1
    go_wp2
    go_ret2
    refine ⟨ret_t ?_, KB.out y3⟩
    rw [HW.out]
    go_light
    clear KB RI HS HS1 HW a0 a1 a2 a3 a4 a5 b0 b1 b2 b3 b4 b5 b6 b7 b8 e0 e1 e2 e3 e4 e5 e6 e7 e8 k0
    exact encw_21_6 d 6 (by have := HBD.out; omega)
  · have RI := Lib.hid (fun w hs => xright_21 d 0 0 0 7 w hs (by omega) (by omega))
    rw [show GrI.code (decide (GrI.right ⟨21, d, 0, 0, 0, 7⟩)) = 0 by simp [GrI.code, hr]] at RI
    clear hr
    have HS := Lib.hid hs
    clear hs
    obtain ⟨WW, hWW⟩ : ∃ WW, WW = GrI.word ⟨21, d, 0, 0, 0, 7⟩ := ⟨_, rfl⟩
    rw [← hWW]
    have HW := Lib.hid hWW
    clear hWW
    go_enter Tryd.func10, Tryd.ntmps10
    go_wp2_with fail
    refine (RI.out _ (HS.out.alloc _)).mono ?_
    rintro e w1 ⟨rfl, b1⟩
    have HS1 := Lib.hid ((HS.out.alloc _).below b1)
    obtain ⟨x1, rfl⟩ := Wb.start b1
    clear b1
    have e0 : x1.at.cell? ⟨0, 189, none⟩ = some (.int .u32 3574104832) := HS1.out 189 (by decide)
    have e1 : x1.at.cell? ⟨0, 190, none⟩ = some (.bool true) := HS1.out 190 (by decide)
    have e2 : x1.at.cell? ⟨0, 191, none⟩ = some (.bool false) := HS1.out 191 (by decide)
    have e3 : x1.at.cell? ⟨0, 192, none⟩ = some (.bool false) := HS1.out 192 (by decide)
    have e4 : x1.at.cell? ⟨0, 193, none⟩ = some (.int .i64 0) := HS1.out 193 (by decide)
    have e5 : x1.at.cell? ⟨0, 194, none⟩ = some (.int .i64 0) := HS1.out 194 (by decide)
    have e6 : x1.at.cell? ⟨0, 195, none⟩ = some (.int .i64 0) := HS1.out 195 (by decide)
    have e7 : x1.at.cell? ⟨0, 196, none⟩ = some (.int .i64 8) := HS1.out 196 (by decide)
    have e8 : x1.at.cell? ⟨0, 197, none⟩ = some (.int .i64 0) := HS1.out 197 (by decide)
    have k0 : x1.at.cell? ⟨w.heap.size, 0, none⟩ = some (.int .i64 21) := by rw [x1.cell _ (by simp)]; simp [World.cell?_alloc_new]
    have lt1 : w.heap.size < x1.at.heap.size := by have := x1.size; simp at this; omega
    have a0 : ∀ z : Wb (x1.at.alloc (.cells #[.int .u32 3574104832, .bool true, .bool false, .bool false, .int .i64 0, .int .i64 0, .int .i64 0, .int .i64 8, .int .i64 0] 40)), z.at.cell? ⟨w.heap.size, 0, none⟩ = some (.int .i64 21) := fun z => (z.prev _ lt1).trans (by rw [x1.cell _ (by simp)]; simp [World.cell?_alloc_new])
    have a1 : ∀ z : Wb (x1.at.alloc (.cells #[.int .u32 3574104832, .bool true, .bool false, .bool false, .int .i64 0, .int .i64 0, .int .i64 0, .int .i64 8, .int .i64 0] 40)), z.at.cell? ⟨w.heap.size, 1, none⟩ = some (.int .i64 d) := fun z => (z.prev _ lt1).trans (by rw [x1.cell _ (by simp)]; simp [World.cell?_alloc_new])
    have a2 : ∀ z : Wb (x1.at.alloc (.cells #[.int .u32 3574104832, .bool true, .bool false, .bool false, .int .i64 0, .int .i64 0, .int .i64 0, .int .i64 8, .int .i64 0] 40)), z.at.cell? ⟨w.heap.size, 2, none⟩ = some (.int .i64 0) := fun z => (z.prev _ lt1).trans (by rw [x1.cell _ (by simp)]; simp [World.cell?_alloc_new])
    have a3 : ∀ z : Wb (x1.at.alloc (.cells #[.int .u32 3574104832, .bool true, .bool false, .bool false, .int .i64 0, .int .i64 0, .int .i64 0, .int .i64 8, .int .i64 0] 40)), z.at.cell? ⟨w.heap.size, 3, none⟩ = some (.int .i64 0) := fun z => (z.prev _ lt1).trans (by rw [x1.cell _ (by simp)]; simp [World.cell?_alloc_new])
    have a4 : ∀ z : Wb (x1.at.alloc (.cells #[.int .u32 3574104832, .bool true, .bool false, .bool false, .int .i64 0, .int .i64 0, .int .i64 0, .int .i64 8, .int .i64 0] 40)), z.at.cell? ⟨w.heap.size, 4, none⟩ = some (.int .i64 0) := fun z => (z.prev _ lt1).trans (by rw [x1.cell _ (by simp)]; simp [World.cell?_alloc_new])
    have a5 : ∀ z : Wb (x1.at.alloc (.cells #[.int .u32 3574104832, .bool true, .bool false, .bool false, .int .i64 0, .int .i64 0, .int .i64 0, .int .i64 8, .int .i64 0] 40)), z.at.cell? ⟨w.heap.size, 5, none⟩ = some (.int .i64 7) := fun z => (z.prev _ lt1).trans (by rw [x1.cell _ (by simp)]; simp [World.cell?_alloc_new])
    have b0 : ∀ z : Wb (x1.at.alloc (.cells #[.int .u32 3574104832, .bool true, .bool false, .bool false, .int .i64 0, .int .i64 0, .int .i64 0, .int .i64 8, .int .i64 0] 40)), z.at.cell? ⟨x1.at.heap.size, 0, none⟩ = some (.int .u32 3574104832) := fun z => by rw [z.cell _ (by simp)]; simp [World.cell?_alloc_new]
    have b1 : ∀ z : Wb (x1.at.alloc (.cells #[.int .u32 3574104832, .bool true, .bool false, .bool false, .int .i64 0, .int .i64 0, .int .i64 0, .int .i64 8, .int .i64 0] 40)), z.at.cell? ⟨x1.at.heap.size, 1, none⟩ = some (.bool true) := fun z => by rw [z.cell _ (by simp)]; simp [World.cell?_alloc_new]
    have b2 : ∀ z : Wb (x1.at.alloc (.cells #[.int .u32 3574104832, .bool true, .bool false, .bool false, .int .i64 0, .int .i64 0, .int .i64 0, .int .i64 8, .int .i64 0] 40)), z.at.cell? ⟨x1.at.heap.size, 2, none⟩ = some (.bool false) := fun z => by rw [z.cell _ (by simp)]; simp [World.cell?_alloc_new]
    have b3 : ∀ z : Wb (x1.at.alloc (.cells #[.int .u32 3574104832, .bool true, .bool false, .bool false, .int .i64 0, .int .i64 0, .int .i64 0, .int .i64 8, .int .i64 0] 40)), z.at.cell? ⟨x1.at.heap.size, 3, none⟩ = some (.bool false) := fun z => by rw [z.cell _ (by simp)]; simp [World.cell?_alloc_new]
    have b4 : ∀ z : Wb (x1.at.alloc (.cells #[.int .u32 3574104832, .bool true, .bool false, .bool false, .int .i64 0, .int .i64 0, .int .i64 0, .int .i64 8, .int .i64 0] 40)), z.at.cell? ⟨x1.at.heap.size, 4, none⟩ = some (.int .i64 0) := fun z => by rw [z.cell _ (by simp)]; simp [World.cell?_alloc_new]
    have b5 : ∀ z : Wb (x1.at.alloc (.cells #[.int .u32 3574104832, .bool true, .bool false, .bool false, .int .i64 0, .int .i64 0, .int .i64 0, .int .i64 8, .int .i64 0] 40)), z.at.cell? ⟨x1.at.heap.size, 5, none⟩ = some (.int .i64 0) := fun z => by rw [z.cell _ (by simp)]; simp [World.cell?_alloc_new]
    have b6 : ∀ z : Wb (x1.at.alloc (.cells #[.int .u32 3574104832, .bool true, .bool false, .bool false, .int .i64 0, .int .i64 0, .int .i64 0, .int .i64 8, .int .i64 0] 40)), z.at.cell? ⟨x1.at.heap.size, 6, none⟩ = some (.int .i64 0) := fun z => by rw [z.cell _ (by simp)]; simp [World.cell?_alloc_new]
    have b7 : ∀ z : Wb (x1.at.alloc (.cells #[.int .u32 3574104832, .bool true, .bool false, .bool false, .int .i64 0, .int .i64 0, .int .i64 0, .int .i64 8, .int .i64 0] 40)), z.at.cell? ⟨x1.at.heap.size, 7, none⟩ = some (.int .i64 8) := fun z => by rw [z.cell _ (by simp)]; simp [World.cell?_alloc_new]
    have b8 : ∀ z : Wb (x1.at.alloc (.cells #[.int .u32 3574104832, .bool true, .bool false, .bool false, .int .i64 0, .int .i64 0, .int .i64 0, .int .i64 8, .int .i64 0] 40)), z.at.cell? ⟨x1.at.heap.size, 8, none⟩ = some (.int .i64 0) := fun z => by rw [z.cell _ (by simp)]; simp [World.cell?_alloc_new]
    have KB := Lib.hid (fun (z : Wb (x1.at.alloc (.cells #[.int .u32 3574104832, .bool true, .bool false, .bool false, .int .i64 0, .int .i64 0, .int .i64 0, .int .i64 8, .int .i64 0] 40))) => (((((Below.refl _ _).alloc (Nat.le_refl _) _).trans (x1.bel.mono (by simp))).alloc (by omega) _).trans (z.bel.mono (by simp; omega)) : Below w.heap.size w z.at))
    go_upto_region 5 with fail
    obtain ⟨y0, hy⟩ : ∃ y : Wb (x1.at.alloc (.cells #[.int .u32 3574104832, .bool true, .bool false, .bool false, .int .i64 0, .int .i64 0, .int .i64 0, .int .i64 8, .int .i64 0] 40)), (x1.at.alloc (.cells #[.int .u32 3574104832, .bool true, .bool false, .bool false, .int .i64 0, .int .i64 0, .int .i64 0, .int .i64 8, .int .i64 0] 40)) = y.at := ⟨⟨_, Below.refl _ _⟩, rfl⟩
    rw [hy]
    clear hy
    go_wp2_with fail
    refine (named_tlbi _ _ _ _ _ 1088 _ (by decide)).mono ?_
    rintro e w1 ⟨rfl, q1⟩
    obtain ⟨y3, rfl⟩ := Wb.next q1
    clear q1
    go_wp2
    go_ret2
    refine ⟨ret_t ?_, KB.out y3⟩
    rw [HW.out]
    go_light
    clear KB RI HS HS1 HW a0 a1 a2 a3 a4 a5 b0 b1 b2 b3 b4 b5 b6 b7 b8 e0 e1 e2 e3 e4 e5 e6 e7 e8 k0
    exact encw_21_7 d 7 (by have := HBD.out; omega)

theorem enc_bd_22 (hr : GrI.right ⟨22, 0, 0, 0, 0, 0⟩) : True := by
  simp [GrI.right, GrI.parts, GrI.nums] at hr
  first | trivial | omega

set_option maxRecDepth 100000 in
set_option maxHeartbeats 6400000 in
theorem xenc_22 (w : World) (hs : ShAt w) (hr : GrI.right ⟨22, 0, 0, 0, 0, 0⟩) :
    Calls Tryd.prog 10 #[.agg #[.int .i64 22, .int .i64 0, .int .i64 0, .int .i64 0, .int .i64 0, .int .i64 0]] w fun e w' => e = .returned (.tuple #[.int .u32 (GrI.word ⟨22, 0, 0, 0, 0, 0⟩), .int .i64 0]) ∧ Below w.heap.size w w' := by
  have hb := enc_bd_22 hr
  have HBD := Lib.hid hb
  have RI := Lib.hid (fun w hs => xright_22 0 0 0 0 0 w hs (by omega) (by omega))
  rw [show GrI.code (decide (GrI.right ⟨22, 0, 0, 0, 0, 0⟩)) = 0 by simp [GrI.code, hr]] at RI
  clear hr
  have HS := Lib.hid hs
  clear hs
  obtain ⟨WW, hWW⟩ : ∃ WW, WW = GrI.word ⟨22, 0, 0, 0, 0, 0⟩ := ⟨_, rfl⟩
  rw [← hWW]
  have HW := Lib.hid hWW
  clear hWW
  go_enter Tryd.func10, Tryd.ntmps10
  go_wp2_with fail
  refine (RI.out _ (HS.out.alloc _)).mono ?_
  rintro e w1 ⟨rfl, b1⟩
  have HS1 := Lib.hid ((HS.out.alloc _).below b1)
  obtain ⟨x1, rfl⟩ := Wb.start b1
  clear b1
  have e0 : x1.at.cell? ⟨0, 198, none⟩ = some (.int .u32 3600745440) := HS1.out 198 (by decide)
  have e1 : x1.at.cell? ⟨0, 199, none⟩ = some (.bool false) := HS1.out 199 (by decide)
  have e2 : x1.at.cell? ⟨0, 200, none⟩ = some (.bool false) := HS1.out 200 (by decide)
  have e3 : x1.at.cell? ⟨0, 201, none⟩ = some (.bool false) := HS1.out 201 (by decide)
  have e4 : x1.at.cell? ⟨0, 202, none⟩ = some (.int .i64 0) := HS1.out 202 (by decide)
  have e5 : x1.at.cell? ⟨0, 203, none⟩ = some (.int .i64 0) := HS1.out 203 (by decide)
  have e6 : x1.at.cell? ⟨0, 204, none⟩ = some (.int .i64 0) := HS1.out 204 (by decide)
  have e7 : x1.at.cell? ⟨0, 205, none⟩ = some (.int .i64 0) := HS1.out 205 (by decide)
  have e8 : x1.at.cell? ⟨0, 206, none⟩ = some (.int .i64 0) := HS1.out 206 (by decide)
  have k0 : x1.at.cell? ⟨w.heap.size, 0, none⟩ = some (.int .i64 22) := by rw [x1.cell _ (by simp)]; simp [World.cell?_alloc_new]
  have lt1 : w.heap.size < x1.at.heap.size := by have := x1.size; simp at this; omega
  have a0 : ∀ z : Wb (x1.at.alloc (.cells #[.int .u32 3600745440, .bool false, .bool false, .bool false, .int .i64 0, .int .i64 0, .int .i64 0, .int .i64 0, .int .i64 0] 40)), z.at.cell? ⟨w.heap.size, 0, none⟩ = some (.int .i64 22) := fun z => (z.prev _ lt1).trans (by rw [x1.cell _ (by simp)]; simp [World.cell?_alloc_new])
  have a1 : ∀ z : Wb (x1.at.alloc (.cells #[.int .u32 3600745440, .bool false, .bool false, .bool false, .int .i64 0, .int .i64 0, .int .i64 0, .int .i64 0, .int .i64 0] 40)), z.at.cell? ⟨w.heap.size, 1, none⟩ = some (.int .i64 0) := fun z => (z.prev _ lt1).trans (by rw [x1.cell _ (by simp)]; simp [World.cell?_alloc_new])
  have a2 : ∀ z : Wb (x1.at.alloc (.cells #[.int .u32 3600745440, .bool false, .bool false, .bool false, .int .i64 0, .int .i64 0, .int .i64 0, .int .i64 0, .int .i64 0] 40)), z.at.cell? ⟨w.heap.size, 2, none⟩ = some (.int .i64 0) := fun z => (z.prev _ lt1).trans (by rw [x1.cell _ (by simp)]; simp [World.cell?_alloc_new])
  have a3 : ∀ z : Wb (x1.at.alloc (.cells #[.int .u32 3600745440, .bool false, .bool false, .bool false, .int .i64 0, .int .i64 0, .int .i64 0, .int .i64 0, .int .i64 0] 40)), z.at.cell? ⟨w.heap.size, 3, none⟩ = some (.int .i64 0) := fun z => (z.prev _ lt1).trans (by rw [x1.cell _ (by simp)]; simp [World.cell?_alloc_new])
  have a4 : ∀ z : Wb (x1.at.alloc (.cells #[.int .u32 3600745440, .bool false, .bool false, .bool false, .int .i64 0, .int .i64 0, .int .i64 0, .int .i64 0, .int .i64 0] 40)), z.at.cell? ⟨w.heap.size, 4, none⟩ = some (.int .i64 0) := fun z => (z.prev _ lt1).trans (by rw [x1.cell _ (by simp)]; simp [World.cell?_alloc_new])
  have a5 : ∀ z : Wb (x1.at.alloc (.cells #[.int .u32 3600745440, .bool false, .bool false, .bool false, .int .i64 0, .int .i64 0, .int .i64 0, .int .i64 0, .int .i64 0] 40)), z.at.cell? ⟨w.heap.size, 5, none⟩ = some (.int .i64 0) := fun z => (z.prev _ lt1).trans (by rw [x1.cell _ (by simp)]; simp [World.cell?_alloc_new])
  have b0 : ∀ z : Wb (x1.at.alloc (.cells #[.int .u32 3600745440, .bool false, .bool false, .bool false, .int .i64 0, .int .i64 0, .int .i64 0, .int .i64 0, .int .i64 0] 40)), z.at.cell? ⟨x1.at.heap.size, 0, none⟩ = some (.int .u32 3600745440) := fun z => by rw [z.cell _ (by simp)]; simp [World.cell?_alloc_new]
  have b1 : ∀ z : Wb (x1.at.alloc (.cells #[.int .u32 3600745440, .bool false, .bool false, .bool false, .int .i64 0, .int .i64 0, .int .i64 0, .int .i64 0, .int .i64 0] 40)), z.at.cell? ⟨x1.at.heap.size, 1, none⟩ = some (.bool false) := fun z => by rw [z.cell _ (by simp)]; simp [World.cell?_alloc_new]
  have b2 : ∀ z : Wb (x1.at.alloc (.cells #[.int .u32 3600745440, .bool false, .bool false, .bool false, .int .i64 0, .int .i64 0, .int .i64 0, .int .i64 0, .int .i64 0] 40)), z.at.cell? ⟨x1.at.heap.size, 2, none⟩ = some (.bool false) := fun z => by rw [z.cell _ (by simp)]; simp [World.cell?_alloc_new]
  have b3 : ∀ z : Wb (x1.at.alloc (.cells #[.int .u32 3600745440, .bool false, .bool false, .bool false, .int .i64 0, .int .i64 0, .int .i64 0, .int .i64 0, .int .i64 0] 40)), z.at.cell? ⟨x1.at.heap.size, 3, none⟩ = some (.bool false) := fun z => by rw [z.cell _ (by simp)]; simp [World.cell?_alloc_new]
  have b4 : ∀ z : Wb (x1.at.alloc (.cells #[.int .u32 3600745440, .bool false, .bool false, .bool false, .int .i64 0, .int .i64 0, .int .i64 0, .int .i64 0, .int .i64 0] 40)), z.at.cell? ⟨x1.at.heap.size, 4, none⟩ = some (.int .i64 0) := fun z => by rw [z.cell _ (by simp)]; simp [World.cell?_alloc_new]
  have b5 : ∀ z : Wb (x1.at.alloc (.cells #[.int .u32 3600745440, .bool false, .bool false, .bool false, .int .i64 0, .int .i64 0, .int .i64 0, .int .i64 0, .int .i64 0] 40)), z.at.cell? ⟨x1.at.heap.size, 5, none⟩ = some (.int .i64 0) := fun z => by rw [z.cell _ (by simp)]; simp [World.cell?_alloc_new]
  have b6 : ∀ z : Wb (x1.at.alloc (.cells #[.int .u32 3600745440, .bool false, .bool false, .bool false, .int .i64 0, .int .i64 0, .int .i64 0, .int .i64 0, .int .i64 0] 40)), z.at.cell? ⟨x1.at.heap.size, 6, none⟩ = some (.int .i64 0) := fun z => by rw [z.cell _ (by simp)]; simp [World.cell?_alloc_new]
  have b7 : ∀ z : Wb (x1.at.alloc (.cells #[.int .u32 3600745440, .bool false, .bool false, .bool false, .int .i64 0, .int .i64 0, .int .i64 0, .int .i64 0, .int .i64 0] 40)), z.at.cell? ⟨x1.at.heap.size, 7, none⟩ = some (.int .i64 0) := fun z => by rw [z.cell _ (by simp)]; simp [World.cell?_alloc_new]
  have b8 : ∀ z : Wb (x1.at.alloc (.cells #[.int .u32 3600745440, .bool false, .bool false, .bool false, .int .i64 0, .int .i64 0, .int .i64 0, .int .i64 0, .int .i64 0] 40)), z.at.cell? ⟨x1.at.heap.size, 8, none⟩ = some (.int .i64 0) := fun z => by rw [z.cell _ (by simp)]; simp [World.cell?_alloc_new]
  have KB := Lib.hid (fun (z : Wb (x1.at.alloc (.cells #[.int .u32 3600745440, .bool false, .bool false, .bool false, .int .i64 0, .int .i64 0, .int .i64 0, .int .i64 0, .int .i64 0] 40))) => (((((Below.refl _ _).alloc (Nat.le_refl _) _).trans (x1.bel.mono (by simp))).alloc (by omega) _).trans (z.bel.mono (by simp; omega)) : Below w.heap.size w z.at))
  go_upto_region 5 with fail
  obtain ⟨y0, hy⟩ : ∃ y : Wb (x1.at.alloc (.cells #[.int .u32 3600745440, .bool false, .bool false, .bool false, .int .i64 0, .int .i64 0, .int .i64 0, .int .i64 0, .int .i64 0] 40)), (x1.at.alloc (.cells #[.int .u32 3600745440, .bool false, .bool false, .bool false, .int .i64 0, .int .i64 0, .int .i64 0, .int .i64 0, .int .i64 0] 40)) = y.at := ⟨⟨_, Below.refl _ _⟩, rfl⟩
  rw [hy]
  clear hy
  go_wp2_with fail
  refine (named_no 22 _ _ _ _ _ _ rfl rfl).mono ?_
  rintro e w1 ⟨rfl, q1⟩
  obtain ⟨y3, rfl⟩ := Wb.next q1
  clear q1
  go_wp2
  go_ret2
  refine ⟨ret_t ?_, KB.out y3⟩
  rw [HW.out]
  go_light
  clear KB RI HS HS1 HW a0 a1 a2 a3 a4 a5 b0 b1 b2 b3 b4 b5 b6 b7 b8 e0 e1 e2 e3 e4 e5 e6 e7 e8 k0
  exact encw_22 HBD.out

theorem enc_bd_23 (d kind : Int) (hr : GrI.right ⟨23, d, 0, 0, 0, kind⟩) : 0 ≤ d ∧ d ≤ 31 ∧ 0 ≤ kind ∧ kind ≤ 2 := by
  simp [GrI.right, GrI.parts, GrI.nums] at hr
  first | trivial | omega

set_option maxRecDepth 100000 in
set_option maxHeartbeats 6400000 in
theorem xenc_23 (d kind : Int) (w : World) (hs : ShAt w) (hr : GrI.right ⟨23, d, 0, 0, 0, kind⟩) :
    Calls Tryd.prog 10 #[.agg #[.int .i64 23, .int .i64 d, .int .i64 0, .int .i64 0, .int .i64 0, .int .i64 kind]] w fun e w' => e = .returned (.tuple #[.int .u32 (GrI.word ⟨23, d, 0, 0, 0, kind⟩), .int .i64 0]) ∧ Below w.heap.size w w' := by
  have hb := enc_bd_23 d kind hr
  have HBD := Lib.hid hb
  have hk : kind = 0 ∨ kind = 1 ∨ kind = 2 := by omega
  rcases hk with rfl | rfl | rfl
  · have RI := Lib.hid (fun w hs => xright_23 d 0 0 0 0 w hs (by omega) (by omega))
    rw [show GrI.code (decide (GrI.right ⟨23, d, 0, 0, 0, 0⟩)) = 0 by simp [GrI.code, hr]] at RI
    clear hr
    have HS := Lib.hid hs
    clear hs
    obtain ⟨WW, hWW⟩ : ∃ WW, WW = GrI.word ⟨23, d, 0, 0, 0, 0⟩ := ⟨_, rfl⟩
    rw [← hWW]
    have HW := Lib.hid hWW
    clear hWW
    go_enter Tryd.func10, Tryd.ntmps10
    go_wp2_with fail
    refine (RI.out _ (HS.out.alloc _)).mono ?_
    rintro e w1 ⟨rfl, b1⟩
    have HS1 := Lib.hid ((HS.out.alloc _).below b1)
    obtain ⟨x1, rfl⟩ := Wb.start b1
    clear b1
    have e0 : x1.at.cell? ⟨0, 207, none⟩ = some (.int .u32 3577217024) := HS1.out 207 (by decide)
    have e1 : x1.at.cell? ⟨0, 208, none⟩ = some (.bool true) := HS1.out 208 (by decide)
    have e2 : x1.at.cell? ⟨0, 209, none⟩ = some (.bool false) := HS1.out 209 (by decide)
    have e3 : x1.at.cell? ⟨0, 210, none⟩ = some (.bool false) := HS1.out 210 (by decide)
    have e4 : x1.at.cell? ⟨0, 211, none⟩ = some (.int .i64 0) := HS1.out 211 (by decide)
    have e5 : x1.at.cell? ⟨0, 212, none⟩ = some (.int .i64 0) := HS1.out 212 (by decide)
    have e6 : x1.at.cell? ⟨0, 213, none⟩ = some (.int .i64 0) := HS1.out 213 (by decide)
    have e7 : x1.at.cell? ⟨0, 214, none⟩ = some (.int .i64 3) := HS1.out 214 (by decide)
    have e8 : x1.at.cell? ⟨0, 215, none⟩ = some (.int .i64 0) := HS1.out 215 (by decide)
    have k0 : x1.at.cell? ⟨w.heap.size, 0, none⟩ = some (.int .i64 23) := by rw [x1.cell _ (by simp)]; simp [World.cell?_alloc_new]
    have lt1 : w.heap.size < x1.at.heap.size := by have := x1.size; simp at this; omega
    have a0 : ∀ z : Wb (x1.at.alloc (.cells #[.int .u32 3577217024, .bool true, .bool false, .bool false, .int .i64 0, .int .i64 0, .int .i64 0, .int .i64 3, .int .i64 0] 40)), z.at.cell? ⟨w.heap.size, 0, none⟩ = some (.int .i64 23) := fun z => (z.prev _ lt1).trans (by rw [x1.cell _ (by simp)]; simp [World.cell?_alloc_new])
    have a1 : ∀ z : Wb (x1.at.alloc (.cells #[.int .u32 3577217024, .bool true, .bool false, .bool false, .int .i64 0, .int .i64 0, .int .i64 0, .int .i64 3, .int .i64 0] 40)), z.at.cell? ⟨w.heap.size, 1, none⟩ = some (.int .i64 d) := fun z => (z.prev _ lt1).trans (by rw [x1.cell _ (by simp)]; simp [World.cell?_alloc_new])
    have a2 : ∀ z : Wb (x1.at.alloc (.cells #[.int .u32 3577217024, .bool true, .bool false, .bool false, .int .i64 0, .int .i64 0, .int .i64 0, .int .i64 3, .int .i64 0] 40)), z.at.cell? ⟨w.heap.size, 2, none⟩ = some (.int .i64 0) := fun z => (z.prev _ lt1).trans (by rw [x1.cell _ (by simp)]; simp [World.cell?_alloc_new])
    have a3 : ∀ z : Wb (x1.at.alloc (.cells #[.int .u32 3577217024, .bool true, .bool false, .bool false, .int .i64 0, .int .i64 0, .int .i64 0, .int .i64 3, .int .i64 0] 40)), z.at.cell? ⟨w.heap.size, 3, none⟩ = some (.int .i64 0) := fun z => (z.prev _ lt1).trans (by rw [x1.cell _ (by simp)]; simp [World.cell?_alloc_new])
    have a4 : ∀ z : Wb (x1.at.alloc (.cells #[.int .u32 3577217024, .bool true, .bool false, .bool false, .int .i64 0, .int .i64 0, .int .i64 0, .int .i64 3, .int .i64 0] 40)), z.at.cell? ⟨w.heap.size, 4, none⟩ = some (.int .i64 0) := fun z => (z.prev _ lt1).trans (by rw [x1.cell _ (by simp)]; simp [World.cell?_alloc_new])
    have a5 : ∀ z : Wb (x1.at.alloc (.cells #[.int .u32 3577217024, .bool true, .bool false, .bool false, .int .i64 0, .int .i64 0, .int .i64 0, .int .i64 3, .int .i64 0] 40)), z.at.cell? ⟨w.heap.size, 5, none⟩ = some (.int .i64 0) := fun z => (z.prev _ lt1).trans (by rw [x1.cell _ (by simp)]; simp [World.cell?_alloc_new])
    have b0 : ∀ z : Wb (x1.at.alloc (.cells #[.int .u32 3577217024, .bool true, .bool false, .bool false, .int .i64 0, .int .i64 0, .int .i64 0, .int .i64 3, .int .i64 0] 40)), z.at.cell? ⟨x1.at.heap.size, 0, none⟩ = some (.int .u32 3577217024) := fun z => by rw [z.cell _ (by simp)]; simp [World.cell?_alloc_new]
    have b1 : ∀ z : Wb (x1.at.alloc (.cells #[.int .u32 3577217024, .bool true, .bool false, .bool false, .int .i64 0, .int .i64 0, .int .i64 0, .int .i64 3, .int .i64 0] 40)), z.at.cell? ⟨x1.at.heap.size, 1, none⟩ = some (.bool true) := fun z => by rw [z.cell _ (by simp)]; simp [World.cell?_alloc_new]
    have b2 : ∀ z : Wb (x1.at.alloc (.cells #[.int .u32 3577217024, .bool true, .bool false, .bool false, .int .i64 0, .int .i64 0, .int .i64 0, .int .i64 3, .int .i64 0] 40)), z.at.cell? ⟨x1.at.heap.size, 2, none⟩ = some (.bool false) := fun z => by rw [z.cell _ (by simp)]; simp [World.cell?_alloc_new]
    have b3 : ∀ z : Wb (x1.at.alloc (.cells #[.int .u32 3577217024, .bool true, .bool false, .bool false, .int .i64 0, .int .i64 0, .int .i64 0, .int .i64 3, .int .i64 0] 40)), z.at.cell? ⟨x1.at.heap.size, 3, none⟩ = some (.bool false) := fun z => by rw [z.cell _ (by simp)]; simp [World.cell?_alloc_new]
    have b4 : ∀ z : Wb (x1.at.alloc (.cells #[.int .u32 3577217024, .bool true, .bool false, .bool false, .int .i64 0, .int .i64 0, .int .i64 0, .int .i64 3, .int .i64 0] 40)), z.at.cell? ⟨x1.at.heap.size, 4, none⟩ = some (.int .i64 0) := fun z => by rw [z.cell _ (by simp)]; simp [World.cell?_alloc_new]
    have b5 : ∀ z : Wb (x1.at.alloc (.cells #[.int .u32 3577217024, .bool true, .bool false, .bool false, .int .i64 0, .int .i64 0, .int .i64 0, .int .i64 3, .int .i64 0] 40)), z.at.cell? ⟨x1.at.heap.size, 5, none⟩ = some (.int .i64 0) := fun z => by rw [z.cell _ (by simp)]; simp [World.cell?_alloc_new]
    have b6 : ∀ z : Wb (x1.at.alloc (.cells #[.int .u32 3577217024, .bool true, .bool false, .bool false, .int .i64 0, .int .i64 0, .int .i64 0, .int .i64 3, .int .i64 0] 40)), z.at.cell? ⟨x1.at.heap.size, 6, none⟩ = some (.int .i64 0) := fun z => by rw [z.cell _ (by simp)]; simp [World.cell?_alloc_new]
    have b7 : ∀ z : Wb (x1.at.alloc (.cells #[.int .u32 3577217024, .bool true, .bool false, .bool false, .int .i64 0, .int .i64 0, .int .i64 0, .int .i64 3, .int .i64 0] 40)), z.at.cell? ⟨x1.at.heap.size, 7, none⟩ = some (.int .i64 3) := fun z => by rw [z.cell _ (by simp)]; simp [World.cell?_alloc_new]
    have b8 : ∀ z : Wb (x1.at.alloc (.cells #[.int .u32 3577217024, .bool true, .bool false, .bool false, .int .i64 0, .int .i64 0, .int .i64 0, .int .i64 3, .int .i64 0] 40)), z.at.cell? ⟨x1.at.heap.size, 8, none⟩ = some (.int .i64 0) := fun z => by rw [z.cell _ (by simp)]; simp [World.cell?_alloc_new]
    have KB := Lib.hid (fun (z : Wb (x1.at.alloc (.cells #[.int .u32 3577217024, .bool true, .bool false, .bool false, .int .i64 0, .int .i64 0, .int .i64 0, .int .i64 3, .int .i64 0] 40))) => (((((Below.refl _ _).alloc (Nat.le_refl _) _).trans (x1.bel.mono (by simp))).alloc (by omega) _).trans (z.bel.mono (by simp; omega)) : Below w.heap.size w z.at))
    go_upto_region 5 with fail
    obtain ⟨y0, hy⟩ : ∃ y : Wb (x1.at.alloc (.cells #[.int .u32 3577217024, .bool true, .bool false, .bool false, .int .i64 0, .int .i64 0, .int .i64 0, .int .i64 3, .int .i64 0] 40)), (x1.at.alloc (.cells #[.int .u32 3577217024, .bool true, .bool false, .bool false, .int .i64 0, .int .i64 0, .int .i64 0, .int .i64 3, .int .i64 0] 40)) = y.at := ⟨⟨_, Below.refl _ _⟩, rfl⟩
    rw [hy]
    clear hy
    go_wp2_with fail
    refine (named_mrs _ _ _ _ _ 20992 _ (by decide)).mono ?_
    rintro e w1 ⟨rfl, q1⟩
    obtain ⟨y3, rfl⟩ := Wb.next q1
    clear q1
    go_wp2
    go_ret2
    refine ⟨ret_t ?_, KB.out y3⟩
    rw [HW.out]
    go_light
    clear KB RI HS HS1 HW a0 a1 a2 a3 a4 a5 b0 b1 b2 b3 b4 b5 b6 b7 b8 e0 e1 e2 e3 e4 e5 e6 e7 e8 k0
    exact encw_23_0 d 0 (by have := HBD.out; omega)
  · have RI := Lib.hid (fun w hs => xright_23 d 0 0 0 1 w hs (by omega) (by omega))
    rw [show GrI.code (decide (GrI.right ⟨23, d, 0, 0, 0, 1⟩)) = 0 by simp [GrI.code, hr]] at RI
    clear hr
    have HS := Lib.hid hs
    clear hs
    obtain ⟨WW, hWW⟩ : ∃ WW, WW = GrI.word ⟨23, d, 0, 0, 0, 1⟩ := ⟨_, rfl⟩
    rw [← hWW]
    have HW := Lib.hid hWW
    clear hWW
    go_enter Tryd.func10, Tryd.ntmps10
    go_wp2_with fail
    refine (RI.out _ (HS.out.alloc _)).mono ?_
    rintro e w1 ⟨rfl, b1⟩
    have HS1 := Lib.hid ((HS.out.alloc _).below b1)
    obtain ⟨x1, rfl⟩ := Wb.start b1
    clear b1
    have e0 : x1.at.cell? ⟨0, 207, none⟩ = some (.int .u32 3577217024) := HS1.out 207 (by decide)
    have e1 : x1.at.cell? ⟨0, 208, none⟩ = some (.bool true) := HS1.out 208 (by decide)
    have e2 : x1.at.cell? ⟨0, 209, none⟩ = some (.bool false) := HS1.out 209 (by decide)
    have e3 : x1.at.cell? ⟨0, 210, none⟩ = some (.bool false) := HS1.out 210 (by decide)
    have e4 : x1.at.cell? ⟨0, 211, none⟩ = some (.int .i64 0) := HS1.out 211 (by decide)
    have e5 : x1.at.cell? ⟨0, 212, none⟩ = some (.int .i64 0) := HS1.out 212 (by decide)
    have e6 : x1.at.cell? ⟨0, 213, none⟩ = some (.int .i64 0) := HS1.out 213 (by decide)
    have e7 : x1.at.cell? ⟨0, 214, none⟩ = some (.int .i64 3) := HS1.out 214 (by decide)
    have e8 : x1.at.cell? ⟨0, 215, none⟩ = some (.int .i64 0) := HS1.out 215 (by decide)
    have k0 : x1.at.cell? ⟨w.heap.size, 0, none⟩ = some (.int .i64 23) := by rw [x1.cell _ (by simp)]; simp [World.cell?_alloc_new]
    have lt1 : w.heap.size < x1.at.heap.size := by have := x1.size; simp at this; omega
    have a0 : ∀ z : Wb (x1.at.alloc (.cells #[.int .u32 3577217024, .bool true, .bool false, .bool false, .int .i64 0, .int .i64 0, .int .i64 0, .int .i64 3, .int .i64 0] 40)), z.at.cell? ⟨w.heap.size, 0, none⟩ = some (.int .i64 23) := fun z => (z.prev _ lt1).trans (by rw [x1.cell _ (by simp)]; simp [World.cell?_alloc_new])
    have a1 : ∀ z : Wb (x1.at.alloc (.cells #[.int .u32 3577217024, .bool true, .bool false, .bool false, .int .i64 0, .int .i64 0, .int .i64 0, .int .i64 3, .int .i64 0] 40)), z.at.cell? ⟨w.heap.size, 1, none⟩ = some (.int .i64 d) := fun z => (z.prev _ lt1).trans (by rw [x1.cell _ (by simp)]; simp [World.cell?_alloc_new])
    have a2 : ∀ z : Wb (x1.at.alloc (.cells #[.int .u32 3577217024, .bool true, .bool false, .bool false, .int .i64 0, .int .i64 0, .int .i64 0, .int .i64 3, .int .i64 0] 40)), z.at.cell? ⟨w.heap.size, 2, none⟩ = some (.int .i64 0) := fun z => (z.prev _ lt1).trans (by rw [x1.cell _ (by simp)]; simp [World.cell?_alloc_new])
    have a3 : ∀ z : Wb (x1.at.alloc (.cells #[.int .u32 3577217024, .bool true, .bool false, .bool false, .int .i64 0, .int .i64 0, .int .i64 0, .int .i64 3, .int .i64 0] 40)), z.at.cell? ⟨w.heap.size, 3, none⟩ = some (.int .i64 0) := fun z => (z.prev _ lt1).trans (by rw [x1.cell _ (by simp)]; simp [World.cell?_alloc_new])
    have a4 : ∀ z : Wb (x1.at.alloc (.cells #[.int .u32 3577217024, .bool true, .bool false, .bool false, .int .i64 0, .int .i64 0, .int .i64 0, .int .i64 3, .int .i64 0] 40)), z.at.cell? ⟨w.heap.size, 4, none⟩ = some (.int .i64 0) := fun z => (z.prev _ lt1).trans (by rw [x1.cell _ (by simp)]; simp [World.cell?_alloc_new])
    have a5 : ∀ z : Wb (x1.at.alloc (.cells #[.int .u32 3577217024, .bool true, .bool false, .bool false, .int .i64 0, .int .i64 0, .int .i64 0, .int .i64 3, .int .i64 0] 40)), z.at.cell? ⟨w.heap.size, 5, none⟩ = some (.int .i64 1) := fun z => (z.prev _ lt1).trans (by rw [x1.cell _ (by simp)]; simp [World.cell?_alloc_new])
    have b0 : ∀ z : Wb (x1.at.alloc (.cells #[.int .u32 3577217024, .bool true, .bool false, .bool false, .int .i64 0, .int .i64 0, .int .i64 0, .int .i64 3, .int .i64 0] 40)), z.at.cell? ⟨x1.at.heap.size, 0, none⟩ = some (.int .u32 3577217024) := fun z => by rw [z.cell _ (by simp)]; simp [World.cell?_alloc_new]
    have b1 : ∀ z : Wb (x1.at.alloc (.cells #[.int .u32 3577217024, .bool true, .bool false, .bool false, .int .i64 0, .int .i64 0, .int .i64 0, .int .i64 3, .int .i64 0] 40)), z.at.cell? ⟨x1.at.heap.size, 1, none⟩ = some (.bool true) := fun z => by rw [z.cell _ (by simp)]; simp [World.cell?_alloc_new]
    have b2 : ∀ z : Wb (x1.at.alloc (.cells #[.int .u32 3577217024, .bool true, .bool false, .bool false, .int .i64 0, .int .i64 0, .int .i64 0, .int .i64 3, .int .i64 0] 40)), z.at.cell? ⟨x1.at.heap.size, 2, none⟩ = some (.bool false) := fun z => by rw [z.cell _ (by simp)]; simp [World.cell?_alloc_new]
    have b3 : ∀ z : Wb (x1.at.alloc (.cells #[.int .u32 3577217024, .bool true, .bool false, .bool false, .int .i64 0, .int .i64 0, .int .i64 0, .int .i64 3, .int .i64 0] 40)), z.at.cell? ⟨x1.at.heap.size, 3, none⟩ = some (.bool false) := fun z => by rw [z.cell _ (by simp)]; simp [World.cell?_alloc_new]
    have b4 : ∀ z : Wb (x1.at.alloc (.cells #[.int .u32 3577217024, .bool true, .bool false, .bool false, .int .i64 0, .int .i64 0, .int .i64 0, .int .i64 3, .int .i64 0] 40)), z.at.cell? ⟨x1.at.heap.size, 4, none⟩ = some (.int .i64 0) := fun z => by rw [z.cell _ (by simp)]; simp [World.cell?_alloc_new]
    have b5 : ∀ z : Wb (x1.at.alloc (.cells #[.int .u32 3577217024, .bool true, .bool false, .bool false, .int .i64 0, .int .i64 0, .int .i64 0, .int .i64 3, .int .i64 0] 40)), z.at.cell? ⟨x1.at.heap.size, 5, none⟩ = some (.int .i64 0) := fun z => by rw [z.cell _ (by simp)]; simp [World.cell?_alloc_new]
    have b6 : ∀ z : Wb (x1.at.alloc (.cells #[.int .u32 3577217024, .bool true, .bool false, .bool false, .int .i64 0, .int .i64 0, .int .i64 0, .int .i64 3, .int .i64 0] 40)), z.at.cell? ⟨x1.at.heap.size, 6, none⟩ = some (.int .i64 0) := fun z => by rw [z.cell _ (by simp)]; simp [World.cell?_alloc_new]
    have b7 : ∀ z : Wb (x1.at.alloc (.cells #[.int .u32 3577217024, .bool true, .bool false, .bool false, .int .i64 0, .int .i64 0, .int .i64 0, .int .i64 3, .int .i64 0] 40)), z.at.cell? ⟨x1.at.heap.size, 7, none⟩ = some (.int .i64 3) := fun z => by rw [z.cell _ (by simp)]; simp [World.cell?_alloc_new]
    have b8 : ∀ z : Wb (x1.at.alloc (.cells #[.int .u32 3577217024, .bool true, .bool false, .bool false, .int .i64 0, .int .i64 0, .int .i64 0, .int .i64 3, .int .i64 0] 40)), z.at.cell? ⟨x1.at.heap.size, 8, none⟩ = some (.int .i64 0) := fun z => by rw [z.cell _ (by simp)]; simp [World.cell?_alloc_new]
    have KB := Lib.hid (fun (z : Wb (x1.at.alloc (.cells #[.int .u32 3577217024, .bool true, .bool false, .bool false, .int .i64 0, .int .i64 0, .int .i64 0, .int .i64 3, .int .i64 0] 40))) => (((((Below.refl _ _).alloc (Nat.le_refl _) _).trans (x1.bel.mono (by simp))).alloc (by omega) _).trans (z.bel.mono (by simp; omega)) : Below w.heap.size w z.at))
    go_upto_region 5 with fail
    obtain ⟨y0, hy⟩ : ∃ y : Wb (x1.at.alloc (.cells #[.int .u32 3577217024, .bool true, .bool false, .bool false, .int .i64 0, .int .i64 0, .int .i64 0, .int .i64 3, .int .i64 0] 40)), (x1.at.alloc (.cells #[.int .u32 3577217024, .bool true, .bool false, .bool false, .int .i64 0, .int .i64 0, .int .i64 0, .int .i64 3, .int .i64 0] 40)) = y.at := ⟨⟨_, Below.refl _ _⟩, rfl⟩
    rw [hy]
    clear hy
    go_wp2_with fail
    refine (named_mrs _ _ _ _ _ 24576 _ (by decide)).mono ?_
    rintro e w1 ⟨rfl, q1⟩
    obtain ⟨y3, rfl⟩ := Wb.next q1
    clear q1
    go_wp2
    go_ret2
    refine ⟨ret_t ?_, KB.out y3⟩
    rw [HW.out]
    go_light
    clear KB RI HS HS1 HW a0 a1 a2 a3 a4 a5 b0 b1 b2 b3 b4 b5 b6 b7 b8 e0 e1 e2 e3 e4 e5 e6 e7 e8 k0
    exact encw_23_1 d 1 (by have := HBD.out; omega)
  · have RI := Lib.hid (fun w hs => xright_23 d 0 0 0 2 w hs (by omega) (by omega))
    rw [show GrI.code (decide (GrI.right ⟨23, d, 0, 0, 0, 2⟩)) = 0 by simp [GrI.code, hr]] at RI
    clear hr
    have HS := Lib.hid hs
    clear hs
    obtain ⟨WW, hWW⟩ : ∃ WW, WW = GrI.word ⟨23, d, 0, 0, 0, 2⟩ := ⟨_, rfl⟩
    rw [← hWW]
    have HW := Lib.hid hWW
    clear hWW
    go_enter Tryd.func10, Tryd.ntmps10
    go_wp2_with fail
    refine (RI.out _ (HS.out.alloc _)).mono ?_
    rintro e w1 ⟨rfl, b1⟩
    have HS1 := Lib.hid ((HS.out.alloc _).below b1)
    obtain ⟨x1, rfl⟩ := Wb.start b1
    clear b1
    have e0 : x1.at.cell? ⟨0, 207, none⟩ = some (.int .u32 3577217024) := HS1.out 207 (by decide)
    have e1 : x1.at.cell? ⟨0, 208, none⟩ = some (.bool true) := HS1.out 208 (by decide)
    have e2 : x1.at.cell? ⟨0, 209, none⟩ = some (.bool false) := HS1.out 209 (by decide)
    have e3 : x1.at.cell? ⟨0, 210, none⟩ = some (.bool false) := HS1.out 210 (by decide)
    have e4 : x1.at.cell? ⟨0, 211, none⟩ = some (.int .i64 0) := HS1.out 211 (by decide)
    have e5 : x1.at.cell? ⟨0, 212, none⟩ = some (.int .i64 0) := HS1.out 212 (by decide)
    have e6 : x1.at.cell? ⟨0, 213, none⟩ = some (.int .i64 0) := HS1.out 213 (by decide)
    have e7 : x1.at.cell? ⟨0, 214, none⟩ = some (.int .i64 3) := HS1.out 214 (by decide)
    have e8 : x1.at.cell? ⟨0, 215, none⟩ = some (.int .i64 0) := HS1.out 215 (by decide)
    have k0 : x1.at.cell? ⟨w.heap.size, 0, none⟩ = some (.int .i64 23) := by rw [x1.cell _ (by simp)]; simp [World.cell?_alloc_new]
    have lt1 : w.heap.size < x1.at.heap.size := by have := x1.size; simp at this; omega
    have a0 : ∀ z : Wb (x1.at.alloc (.cells #[.int .u32 3577217024, .bool true, .bool false, .bool false, .int .i64 0, .int .i64 0, .int .i64 0, .int .i64 3, .int .i64 0] 40)), z.at.cell? ⟨w.heap.size, 0, none⟩ = some (.int .i64 23) := fun z => (z.prev _ lt1).trans (by rw [x1.cell _ (by simp)]; simp [World.cell?_alloc_new])
    have a1 : ∀ z : Wb (x1.at.alloc (.cells #[.int .u32 3577217024, .bool true, .bool false, .bool false, .int .i64 0, .int .i64 0, .int .i64 0, .int .i64 3, .int .i64 0] 40)), z.at.cell? ⟨w.heap.size, 1, none⟩ = some (.int .i64 d) := fun z => (z.prev _ lt1).trans (by rw [x1.cell _ (by simp)]; simp [World.cell?_alloc_new])
    have a2 : ∀ z : Wb (x1.at.alloc (.cells #[.int .u32 3577217024, .bool true, .bool false, .bool false, .int .i64 0, .int .i64 0, .int .i64 0, .int .i64 3, .int .i64 0] 40)), z.at.cell? ⟨w.heap.size, 2, none⟩ = some (.int .i64 0) := fun z => (z.prev _ lt1).trans (by rw [x1.cell _ (by simp)]; simp [World.cell?_alloc_new])
    have a3 : ∀ z : Wb (x1.at.alloc (.cells #[.int .u32 3577217024, .bool true, .bool false, .bool false, .int .i64 0, .int .i64 0, .int .i64 0, .int .i64 3, .int .i64 0] 40)), z.at.cell? ⟨w.heap.size, 3, none⟩ = some (.int .i64 0) := fun z => (z.prev _ lt1).trans (by rw [x1.cell _ (by simp)]; simp [World.cell?_alloc_new])
    have a4 : ∀ z : Wb (x1.at.alloc (.cells #[.int .u32 3577217024, .bool true, .bool false, .bool false, .int .i64 0, .int .i64 0, .int .i64 0, .int .i64 3, .int .i64 0] 40)), z.at.cell? ⟨w.heap.size, 4, none⟩ = some (.int .i64 0) := fun z => (z.prev _ lt1).trans (by rw [x1.cell _ (by simp)]; simp [World.cell?_alloc_new])
    have a5 : ∀ z : Wb (x1.at.alloc (.cells #[.int .u32 3577217024, .bool true, .bool false, .bool false, .int .i64 0, .int .i64 0, .int .i64 0, .int .i64 3, .int .i64 0] 40)), z.at.cell? ⟨w.heap.size, 5, none⟩ = some (.int .i64 2) := fun z => (z.prev _ lt1).trans (by rw [x1.cell _ (by simp)]; simp [World.cell?_alloc_new])
    have b0 : ∀ z : Wb (x1.at.alloc (.cells #[.int .u32 3577217024, .bool true, .bool false, .bool false, .int .i64 0, .int .i64 0, .int .i64 0, .int .i64 3, .int .i64 0] 40)), z.at.cell? ⟨x1.at.heap.size, 0, none⟩ = some (.int .u32 3577217024) := fun z => by rw [z.cell _ (by simp)]; simp [World.cell?_alloc_new]
    have b1 : ∀ z : Wb (x1.at.alloc (.cells #[.int .u32 3577217024, .bool true, .bool false, .bool false, .int .i64 0, .int .i64 0, .int .i64 0, .int .i64 3, .int .i64 0] 40)), z.at.cell? ⟨x1.at.heap.size, 1, none⟩ = some (.bool true) := fun z => by rw [z.cell _ (by simp)]; simp [World.cell?_alloc_new]
    have b2 : ∀ z : Wb (x1.at.alloc (.cells #[.int .u32 3577217024, .bool true, .bool false, .bool false, .int .i64 0, .int .i64 0, .int .i64 0, .int .i64 3, .int .i64 0] 40)), z.at.cell? ⟨x1.at.heap.size, 2, none⟩ = some (.bool false) := fun z => by rw [z.cell _ (by simp)]; simp [World.cell?_alloc_new]
    have b3 : ∀ z : Wb (x1.at.alloc (.cells #[.int .u32 3577217024, .bool true, .bool false, .bool false, .int .i64 0, .int .i64 0, .int .i64 0, .int .i64 3, .int .i64 0] 40)), z.at.cell? ⟨x1.at.heap.size, 3, none⟩ = some (.bool false) := fun z => by rw [z.cell _ (by simp)]; simp [World.cell?_alloc_new]
    have b4 : ∀ z : Wb (x1.at.alloc (.cells #[.int .u32 3577217024, .bool true, .bool false, .bool false, .int .i64 0, .int .i64 0, .int .i64 0, .int .i64 3, .int .i64 0] 40)), z.at.cell? ⟨x1.at.heap.size, 4, none⟩ = some (.int .i64 0) := fun z => by rw [z.cell _ (by simp)]; simp [World.cell?_alloc_new]
    have b5 : ∀ z : Wb (x1.at.alloc (.cells #[.int .u32 3577217024, .bool true, .bool false, .bool false, .int .i64 0, .int .i64 0, .int .i64 0, .int .i64 3, .int .i64 0] 40)), z.at.cell? ⟨x1.at.heap.size, 5, none⟩ = some (.int .i64 0) := fun z => by rw [z.cell _ (by simp)]; simp [World.cell?_alloc_new]
    have b6 : ∀ z : Wb (x1.at.alloc (.cells #[.int .u32 3577217024, .bool true, .bool false, .bool false, .int .i64 0, .int .i64 0, .int .i64 0, .int .i64 3, .int .i64 0] 40)), z.at.cell? ⟨x1.at.heap.size, 6, none⟩ = some (.int .i64 0) := fun z => by rw [z.cell _ (by simp)]; simp [World.cell?_alloc_new]
    have b7 : ∀ z : Wb (x1.at.alloc (.cells #[.int .u32 3577217024, .bool true, .bool false, .bool false, .int .i64 0, .int .i64 0, .int .i64 0, .int .i64 3, .int .i64 0] 40)), z.at.cell? ⟨x1.at.heap.size, 7, none⟩ = some (.int .i64 3) := fun z => by rw [z.cell _ (by simp)]; simp [World.cell?_alloc_new]
    have b8 : ∀ z : Wb (x1.at.alloc (.cells #[.int .u32 3577217024, .bool true, .bool false, .bool false, .int .i64 0, .int .i64 0, .int .i64 0, .int .i64 3, .int .i64 0] 40)), z.at.cell? ⟨x1.at.heap.size, 8, none⟩ = some (.int .i64 0) := fun z => by rw [z.cell _ (by simp)]; simp [World.cell?_alloc_new]
    have KB := Lib.hid (fun (z : Wb (x1.at.alloc (.cells #[.int .u32 3577217024, .bool true, .bool false, .bool false, .int .i64 0, .int .i64 0, .int .i64 0, .int .i64 3, .int .i64 0] 40))) => (((((Below.refl _ _).alloc (Nat.le_refl _) _).trans (x1.bel.mono (by simp))).alloc (by omega) _).trans (z.bel.mono (by simp; omega)) : Below w.heap.size w z.at))
    go_upto_region 5 with fail
    obtain ⟨y0, hy⟩ : ∃ y : Wb (x1.at.alloc (.cells #[.int .u32 3577217024, .bool true, .bool false, .bool false, .int .i64 0, .int .i64 0, .int .i64 0, .int .i64 3, .int .i64 0] 40)), (x1.at.alloc (.cells #[.int .u32 3577217024, .bool true, .bool false, .bool false, .int .i64 0, .int .i64 0, .int .i64 0, .int .i64 3, .int .i64 0] 40)) = y.at := ⟨⟨_, Below.refl _ _⟩, rfl⟩
    rw [hy]
    clear hy
    go_wp2_with fail
    refine (named_mrs _ _ _ _ _ 16416 _ (by decide)).mono ?_
    rintro e w1 ⟨rfl, q1⟩
    obtain ⟨y3, rfl⟩ := Wb.next q1
    clear q1
    go_wp2
    go_ret2
    refine ⟨ret_t ?_, KB.out y3⟩
    rw [HW.out]
    go_light
    clear KB RI HS HS1 HW a0 a1 a2 a3 a4 a5 b0 b1 b2 b3 b4 b5 b6 b7 b8 e0 e1 e2 e3 e4 e5 e6 e7 e8 k0
    exact encw_23_2 d 2 (by have := HBD.out; omega)

end Go.Proofs.YtnehdgapcgbdeaaDoor
