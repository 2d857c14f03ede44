/-
  Layer 3, the code's walks: Encode, operations 7 to 12.
-/
import Derived.Test.YtnehdgapcgbdeaaDoorJh
import Derived.Test.YtnehdgapcgbdeaaDoorJe
import Derived.Test.YtnehdgapcgbdeaaDoorBr
import Derived.Test.YtnehdgapcgbdeaaDoorIr
set_option linter.unusedSimpArgs false
set_option linter.unusedVariables false
namespace Go.Proofs.YtnehdgapcgbdeaaDoor
open Go.RowKit

theorem enc_bd_7 (d n imm : Int) (hr : GrI.right ⟨7, d, n, 0, imm, 0⟩) : 0 ≤ d ∧ d ≤ 31 ∧ 0 ≤ n ∧ n ≤ 31 ∧ 0 ≤ imm ∧ imm ≤ 4095 := by
  simp [GrI.right, GrI.parts, GrI.nums] at hr
  first | trivial | omega

set_option maxRecDepth 100000 in
set_option maxHeartbeats 6400000 in
theorem xenc_7 (d n imm : Int) (w : World) (hs : ShAt w) (hr : GrI.right ⟨7, d, n, 0, imm, 0⟩) :
    Calls Tryd.prog 10 #[.agg #[.int .i64 7, .int .i64 d, .int .i64 n, .int .i64 0, .int .i64 imm, .int .i64 0]] w fun e w' => e = .returned (.tuple #[.int .u32 (GrI.word ⟨7, d, n, 0, imm, 0⟩), .int .i64 0]) ∧ Below w.heap.size w w' := by
  have hb := enc_bd_7 d n imm hr
  have HBD := Lib.hid hb
  have RI := Lib.hid (fun w hs => xright_7 d n 0 imm 0 w hs (by omega) (by omega))
  rw [show GrI.code (decide (GrI.right ⟨7, d, n, 0, imm, 0⟩)) = 0 by simp [GrI.code, hr]] at RI
  clear hr
  have HS := Lib.hid hs
  clear hs
  obtain ⟨WW, hWW⟩ : ∃ WW, WW = GrI.word ⟨7, d, n, 0, imm, 0⟩ := ⟨_, rfl⟩
  rw [← hWW]
  have HW := Lib.hid hWW
  clear hWW
  go_enter Tryd.func10, Tryd.ntmps10
  go_wp2_with fail
  refine (RI.out _ (HS.out.alloc _)).mono ?_
  rintro e w1 ⟨rfl, b1⟩
  have HS1 := Lib.hid ((HS.out.alloc _).below b1)
  obtain ⟨x1, rfl⟩ := Wb.start b1
  clear b1
  have e0 : x1.at.cell? ⟨0, 63, none⟩ = some (.int .u32 2432696320) := HS1.out 63 (by decide)
  have e1 : x1.at.cell? ⟨0, 64, none⟩ = some (.bool true) := HS1.out 64 (by decide)
  have e2 : x1.at.cell? ⟨0, 65, none⟩ = some (.bool true) := HS1.out 65 (by decide)
  have e3 : x1.at.cell? ⟨0, 66, none⟩ = some (.bool false) := HS1.out 66 (by decide)
  have e4 : x1.at.cell? ⟨0, 67, none⟩ = some (.int .i64 12) := HS1.out 67 (by decide)
  have e5 : x1.at.cell? ⟨0, 68, none⟩ = some (.int .i64 10) := HS1.out 68 (by decide)
  have e6 : x1.at.cell? ⟨0, 69, none⟩ = some (.int .i64 1) := HS1.out 69 (by decide)
  have e7 : x1.at.cell? ⟨0, 70, none⟩ = some (.int .i64 0) := HS1.out 70 (by decide)
  have e8 : x1.at.cell? ⟨0, 71, none⟩ = some (.int .i64 0) := HS1.out 71 (by decide)
  have k0 : x1.at.cell? ⟨w.heap.size, 0, none⟩ = some (.int .i64 7) := by rw [x1.cell _ (by simp)]; simp [World.cell?_alloc_new]
  have lt1 : w.heap.size < x1.at.heap.size := by have := x1.size; simp at this; omega
  have a0 : ∀ z : Wb (x1.at.alloc (.cells #[.int .u32 2432696320, .bool true, .bool true, .bool false, .int .i64 12, .int .i64 10, .int .i64 1, .int .i64 0, .int .i64 0] 40)), z.at.cell? ⟨w.heap.size, 0, none⟩ = some (.int .i64 7) := fun z => (z.prev _ lt1).trans (by rw [x1.cell _ (by simp)]; simp [World.cell?_alloc_new])
  have a1 : ∀ z : Wb (x1.at.alloc (.cells #[.int .u32 2432696320, .bool true, .bool true, .bool false, .int .i64 12, .int .i64 10, .int .i64 1, .int .i64 0, .int .i64 0] 40)), z.at.cell? ⟨w.heap.size, 1, none⟩ = some (.int .i64 d) := fun z => (z.prev _ lt1).trans (by rw [x1.cell _ (by simp)]; simp [World.cell?_alloc_new])
  have a2 : ∀ z : Wb (x1.at.alloc (.cells #[.int .u32 2432696320, .bool true, .bool true, .bool false, .int .i64 12, .int .i64 10, .int .i64 1, .int .i64 0, .int .i64 0] 40)), z.at.cell? ⟨w.heap.size, 2, none⟩ = some (.int .i64 n) := fun z => (z.prev _ lt1).trans (by rw [x1.cell _ (by simp)]; simp [World.cell?_alloc_new])
  have a3 : ∀ z : Wb (x1.at.alloc (.cells #[.int .u32 2432696320, .bool true, .bool true, .bool false, .int .i64 12, .int .i64 10, .int .i64 1, .int .i64 0, .int .i64 0] 40)), z.at.cell? ⟨w.heap.size, 3, none⟩ = some (.int .i64 0) := fun z => (z.prev _ lt1).trans (by rw [x1.cell _ (by simp)]; simp [World.cell?_alloc_new])
  have a4 : ∀ z : Wb (x1.at.alloc (.cells #[.int .u32 2432696320, .bool true, .bool true, .bool false, .int .i64 12, .int .i64 10, .int .i64 1, .int .i64 0, .int .i64 0] 40)), z.at.cell? ⟨w.heap.size, 4, none⟩ = some (.int .i64 imm) := fun z => (z.prev _ lt1).trans (by rw [x1.cell _ (by simp)]; simp [World.cell?_alloc_new])
  have a5 : ∀ z : Wb (x1.at.alloc (.cells #[.int .u32 2432696320, .bool true, .bool true, .bool false, .int .i64 12, .int .i64 10, .int .i64 1, .int .i64 0, .int .i64 0] 40)), z.at.cell? ⟨w.heap.size, 5, none⟩ = some (.int .i64 0) := fun z => (z.prev _ lt1).trans (by rw [x1.cell _ (by simp)]; simp [World.cell?_alloc_new])
  have b0 : ∀ z : Wb (x1.at.alloc (.cells #[.int .u32 2432696320, .bool true, .bool true, .bool false, .int .i64 12, .int .i64 10, .int .i64 1, .int .i64 0, .int .i64 0] 40)), z.at.cell? ⟨x1.at.heap.size, 0, none⟩ = some (.int .u32 2432696320) := fun z => by rw [z.cell _ (by simp)]; simp [World.cell?_alloc_new]
  have b1 : ∀ z : Wb (x1.at.alloc (.cells #[.int .u32 2432696320, .bool true, .bool true, .bool false, .int .i64 12, .int .i64 10, .int .i64 1, .int .i64 0, .int .i64 0] 40)), z.at.cell? ⟨x1.at.heap.size, 1, none⟩ = some (.bool true) := fun z => by rw [z.cell _ (by simp)]; simp [World.cell?_alloc_new]
  have b2 : ∀ z : Wb (x1.at.alloc (.cells #[.int .u32 2432696320, .bool true, .bool true, .bool false, .int .i64 12, .int .i64 10, .int .i64 1, .int .i64 0, .int .i64 0] 40)), z.at.cell? ⟨x1.at.heap.size, 2, none⟩ = some (.bool true) := fun z => by rw [z.cell _ (by simp)]; simp [World.cell?_alloc_new]
  have b3 : ∀ z : Wb (x1.at.alloc (.cells #[.int .u32 2432696320, .bool true, .bool true, .bool false, .int .i64 12, .int .i64 10, .int .i64 1, .int .i64 0, .int .i64 0] 40)), z.at.cell? ⟨x1.at.heap.size, 3, none⟩ = some (.bool false) := fun z => by rw [z.cell _ (by simp)]; simp [World.cell?_alloc_new]
  have b4 : ∀ z : Wb (x1.at.alloc (.cells #[.int .u32 2432696320, .bool true, .bool true, .bool false, .int .i64 12, .int .i64 10, .int .i64 1, .int .i64 0, .int .i64 0] 40)), z.at.cell? ⟨x1.at.heap.size, 4, none⟩ = some (.int .i64 12) := fun z => by rw [z.cell _ (by simp)]; simp [World.cell?_alloc_new]
  have b5 : ∀ z : Wb (x1.at.alloc (.cells #[.int .u32 2432696320, .bool true, .bool true, .bool false, .int .i64 12, .int .i64 10, .int .i64 1, .int .i64 0, .int .i64 0] 40)), z.at.cell? ⟨x1.at.heap.size, 5, none⟩ = some (.int .i64 10) := fun z => by rw [z.cell _ (by simp)]; simp [World.cell?_alloc_new]
  have b6 : ∀ z : Wb (x1.at.alloc (.cells #[.int .u32 2432696320, .bool true, .bool true, .bool false, .int .i64 12, .int .i64 10, .int .i64 1, .int .i64 0, .int .i64 0] 40)), z.at.cell? ⟨x1.at.heap.size, 6, none⟩ = some (.int .i64 1) := fun z => by rw [z.cell _ (by simp)]; simp [World.cell?_alloc_new]
  have b7 : ∀ z : Wb (x1.at.alloc (.cells #[.int .u32 2432696320, .bool true, .bool true, .bool false, .int .i64 12, .int .i64 10, .int .i64 1, .int .i64 0, .int .i64 0] 40)), z.at.cell? ⟨x1.at.heap.size, 7, none⟩ = some (.int .i64 0) := fun z => by rw [z.cell _ (by simp)]; simp [World.cell?_alloc_new]
  have b8 : ∀ z : Wb (x1.at.alloc (.cells #[.int .u32 2432696320, .bool true, .bool true, .bool false, .int .i64 12, .int .i64 10, .int .i64 1, .int .i64 0, .int .i64 0] 40)), z.at.cell? ⟨x1.at.heap.size, 8, none⟩ = some (.int .i64 0) := fun z => by rw [z.cell _ (by simp)]; simp [World.cell?_alloc_new]
  have KB := Lib.hid (fun (z : Wb (x1.at.alloc (.cells #[.int .u32 2432696320, .bool true, .bool true, .bool false, .int .i64 12, .int .i64 10, .int .i64 1, .int .i64 0, .int .i64 0] 40))) => (((((Below.refl _ _).alloc (Nat.le_refl _) _).trans (x1.bel.mono (by simp))).alloc (by omega) _).trans (z.bel.mono (by simp; omega)) : Below w.heap.size w z.at))
  go_upto_region 5 with fail
  obtain ⟨y0, hy⟩ : ∃ y : Wb (x1.at.alloc (.cells #[.int .u32 2432696320, .bool true, .bool true, .bool false, .int .i64 12, .int .i64 10, .int .i64 1, .int .i64 0, .int .i64 0] 40)), (x1.at.alloc (.cells #[.int .u32 2432696320, .bool true, .bool true, .bool false, .int .i64 12, .int .i64 10, .int .i64 1, .int .i64 0, .int .i64 0] 40)) = y.at := ⟨⟨_, Below.refl _ _⟩, rfl⟩
  rw [hy]
  clear hy
  go_wp2_with fail
  have j4 : ∀ z : Wb y0.at, z.at.cell? ⟨w.heap.size, 4, none⟩ = some (.int .i64 imm) := y0.lift a4
  have f0 : ∀ z : Wb y0.at, z.at.cell? ⟨x1.at.heap.size, 0, none⟩ = some (.int .u32 2432696320) := y0.lift b0
  have f1 : ∀ z : Wb y0.at, z.at.cell? ⟨x1.at.heap.size, 1, none⟩ = some (.bool true) := y0.lift b1
  have f2 : ∀ z : Wb y0.at, z.at.cell? ⟨x1.at.heap.size, 2, none⟩ = some (.bool true) := y0.lift b2
  have f3 : ∀ z : Wb y0.at, z.at.cell? ⟨x1.at.heap.size, 3, none⟩ = some (.bool false) := y0.lift b3
  have f4 : ∀ z : Wb y0.at, z.at.cell? ⟨x1.at.heap.size, 4, none⟩ = some (.int .i64 12) := y0.lift b4
  have f5 : ∀ z : Wb y0.at, z.at.cell? ⟨x1.at.heap.size, 5, none⟩ = some (.int .i64 10) := y0.lift b5
  have f6 : ∀ z : Wb y0.at, z.at.cell? ⟨x1.at.heap.size, 6, none⟩ = some (.int .i64 1) := y0.lift b6
  have f7 : ∀ z : Wb y0.at, z.at.cell? ⟨x1.at.heap.size, 7, none⟩ = some (.int .i64 0) := y0.lift b7
  have f8 : ∀ z : Wb y0.at, z.at.cell? ⟨x1.at.heap.size, 8, none⟩ = some (.int .i64 0) := y0.lift b8
  refine wp_region_wb (by kernel_rfl) (by kernel_rfl) ?_
  repeat (go_big_quiet_step (first | (go_at_call 17; exact Calls.wb (width_any _ _ _ _ _ _ _ _ _ 12 _ (by decide))) | (go_at_call 16; exact Calls.wb ((get_any _ _ _ _ (by first | omega | exact uw_lo _) (by first | omega | exact uw_hi _)).mono fun e w' h => ⟨h.1, h.2.below _⟩))))
  refine wpQuiet_nil ?_
  rintro _ ⟨y1, rfl⟩
  obtain ⟨y2, hy2⟩ := Wb.next (x := y0) y1.bel
  rw [hy2]
  go_wp2_with fail
  refine (named_no 7 _ _ _ _ _ _ rfl rfl).mono ?_
  rintro e w1 ⟨rfl, q1⟩
  obtain ⟨y3, rfl⟩ := Wb.next q1
  clear q1
  go_wp2
  go_ret2
  refine ⟨ret_t ?_, KB.out y3⟩
  rw [HW.out]
  go_light
  clear KB RI HS HS1 HW a0 a1 a2 a3 a4 a5 b0 b1 b2 b3 b4 b5 b6 b7 b8 e0 e1 e2 e3 e4 e5 e6 e7 e8 k0
  exact encw_7 d n imm HBD.out

theorem enc_bd_8 (d n m : Int) (hr : GrI.right ⟨8, d, n, m, 0, 0⟩) : 0 ≤ d ∧ d ≤ 31 ∧ 0 ≤ n ∧ n ≤ 31 ∧ 0 ≤ m ∧ m ≤ 31 := by
  simp [GrI.right, GrI.parts, GrI.nums] at hr
  first | trivial | omega

set_option maxRecDepth 100000 in
set_option maxHeartbeats 6400000 in
theorem xenc_8 (d n m : Int) (w : World) (hs : ShAt w) (hr : GrI.right ⟨8, d, n, m, 0, 0⟩) :
    Calls Tryd.prog 10 #[.agg #[.int .i64 8, .int .i64 d, .int .i64 n, .int .i64 m, .int .i64 0, .int .i64 0]] w fun e w' => e = .returned (.tuple #[.int .u32 (GrI.word ⟨8, d, n, m, 0, 0⟩), .int .i64 0]) ∧ Below w.heap.size w w' := by
  have hb := enc_bd_8 d n m hr
  have HBD := Lib.hid hb
  have RI := Lib.hid (fun w hs => xright_8 d n m 0 0 w hs (by omega) (by omega))
  rw [show GrI.code (decide (GrI.right ⟨8, d, n, m, 0, 0⟩)) = 0 by simp [GrI.code, hr]] at RI
  clear hr
  have HS := Lib.hid hs
  clear hs
  obtain ⟨WW, hWW⟩ : ∃ WW, WW = GrI.word ⟨8, d, n, m, 0, 0⟩ := ⟨_, rfl⟩
  rw [← hWW]
  have HW := Lib.hid hWW
  clear hWW
  go_enter Tryd.func10, Tryd.ntmps10
  go_wp2_with fail
  refine (RI.out _ (HS.out.alloc _)).mono ?_
  rintro e w1 ⟨rfl, b1⟩
  have HS1 := Lib.hid ((HS.out.alloc _).below b1)
  obtain ⟨x1, rfl⟩ := Wb.start b1
  clear b1
  have e0 : x1.at.cell? ⟨0, 72, none⟩ = some (.int .u32 2332033024) := HS1.out 72 (by decide)
  have e1 : x1.at.cell? ⟨0, 73, none⟩ = some (.bool true) := HS1.out 73 (by decide)
  have e2 : x1.at.cell? ⟨0, 74, none⟩ = some (.bool true) := HS1.out 74 (by decide)
  have e3 : x1.at.cell? ⟨0, 75, none⟩ = some (.bool true) := HS1.out 75 (by decide)
  have e4 : x1.at.cell? ⟨0, 76, none⟩ = some (.int .i64 0) := HS1.out 76 (by decide)
  have e5 : x1.at.cell? ⟨0, 77, none⟩ = some (.int .i64 0) := HS1.out 77 (by decide)
  have e6 : x1.at.cell? ⟨0, 78, none⟩ = some (.int .i64 0) := HS1.out 78 (by decide)
  have e7 : x1.at.cell? ⟨0, 79, none⟩ = some (.int .i64 0) := HS1.out 79 (by decide)
  have e8 : x1.at.cell? ⟨0, 80, none⟩ = some (.int .i64 0) := HS1.out 80 (by decide)
  have k0 : x1.at.cell? ⟨w.heap.size, 0, none⟩ = some (.int .i64 8) := by rw [x1.cell _ (by simp)]; simp [World.cell?_alloc_new]
  have lt1 : w.heap.size < x1.at.heap.size := by have := x1.size; simp at this; omega
  have a0 : ∀ z : Wb (x1.at.alloc (.cells #[.int .u32 2332033024, .bool true, .bool true, .bool true, .int .i64 0, .int .i64 0, .int .i64 0, .int .i64 0, .int .i64 0] 40)), z.at.cell? ⟨w.heap.size, 0, none⟩ = some (.int .i64 8) := fun z => (z.prev _ lt1).trans (by rw [x1.cell _ (by simp)]; simp [World.cell?_alloc_new])
  have a1 : ∀ z : Wb (x1.at.alloc (.cells #[.int .u32 2332033024, .bool true, .bool true, .bool true, .int .i64 0, .int .i64 0, .int .i64 0, .int .i64 0, .int .i64 0] 40)), z.at.cell? ⟨w.heap.size, 1, none⟩ = some (.int .i64 d) := fun z => (z.prev _ lt1).trans (by rw [x1.cell _ (by simp)]; simp [World.cell?_alloc_new])
  have a2 : ∀ z : Wb (x1.at.alloc (.cells #[.int .u32 2332033024, .bool true, .bool true, .bool true, .int .i64 0, .int .i64 0, .int .i64 0, .int .i64 0, .int .i64 0] 40)), z.at.cell? ⟨w.heap.size, 2, none⟩ = some (.int .i64 n) := fun z => (z.prev _ lt1).trans (by rw [x1.cell _ (by simp)]; simp [World.cell?_alloc_new])
  have a3 : ∀ z : Wb (x1.at.alloc (.cells #[.int .u32 2332033024, .bool true, .bool true, .bool true, .int .i64 0, .int .i64 0, .int .i64 0, .int .i64 0, .int .i64 0] 40)), z.at.cell? ⟨w.heap.size, 3, none⟩ = some (.int .i64 m) := fun z => (z.prev _ lt1).trans (by rw [x1.cell _ (by simp)]; simp [World.cell?_alloc_new])
  have a4 : ∀ z : Wb (x1.at.alloc (.cells #[.int .u32 2332033024, .bool true, .bool true, .bool true, .int .i64 0, .int .i64 0, .int .i64 0, .int .i64 0, .int .i64 0] 40)), z.at.cell? ⟨w.heap.size, 4, none⟩ = some (.int .i64 0) := fun z => (z.prev _ lt1).trans (by rw [x1.cell _ (by simp)]; simp [World.cell?_alloc_new])
  have a5 : ∀ z : Wb (x1.at.alloc (.cells #[.int .u32 2332033024, .bool true, .bool true, .bool true, .int .i64 0, .int .i64 0, .int .i64 0, .int .i64 0, .int .i64 0] 40)), z.at.cell? ⟨w.heap.size, 5, none⟩ = some (.int .i64 0) := fun z => (z.prev _ lt1).trans (by rw [x1.cell _ (by simp)]; simp [World.cell?_alloc_new])
  have b0 : ∀ z : Wb (x1.at.alloc (.cells #[.int .u32 2332033024, .bool true, .bool true, .bool true, .int .i64 0, .int .i64 0, .int .i64 0, .int .i64 0, .int .i64 0] 40)), z.at.cell? ⟨x1.at.heap.size, 0, none⟩ = some (.int .u32 2332033024) := fun z => by rw [z.cell _ (by simp)]; simp [World.cell?_alloc_new]
  have b1 : ∀ z : Wb (x1.at.alloc (.cells #[.int .u32 2332033024, .bool true, .bool true, .bool true, .int .i64 0, .int .i64 0, .int .i64 0, .int .i64 0, .int .i64 0] 40)), z.at.cell? ⟨x1.at.heap.size, 1, none⟩ = some (.bool true) := fun z => by rw [z.cell _ (by simp)]; simp [World.cell?_alloc_new]
  have b2 : ∀ z : Wb (x1.at.alloc (.cells #[.int .u32 2332033024, .bool true, .bool true, .bool true, .int .i64 0, .int .i64 0, .int .i64 0, .int .i64 0, .int .i64 0] 40)), z.at.cell? ⟨x1.at.heap.size, 2, none⟩ = some (.bool true) := fun z => by rw [z.cell _ (by simp)]; simp [World.cell?_alloc_new]
  have b3 : ∀ z : Wb (x1.at.alloc (.cells #[.int .u32 2332033024, .bool true, .bool true, .bool true, .int .i64 0, .int .i64 0, .int .i64 0, .int .i64 0, .int .i64 0] 40)), z.at.cell? ⟨x1.at.heap.size, 3, none⟩ = some (.bool true) := fun z => by rw [z.cell _ (by simp)]; simp [World.cell?_alloc_new]
  have b4 : ∀ z : Wb (x1.at.alloc (.cells #[.int .u32 2332033024, .bool true, .bool true, .bool true, .int .i64 0, .int .i64 0, .int .i64 0, .int .i64 0, .int .i64 0] 40)), z.at.cell? ⟨x1.at.heap.size, 4, none⟩ = some (.int .i64 0) := fun z => by rw [z.cell _ (by simp)]; simp [World.cell?_alloc_new]
  have b5 : ∀ z : Wb (x1.at.alloc (.cells #[.int .u32 2332033024, .bool true, .bool true, .bool true, .int .i64 0, .int .i64 0, .int .i64 0, .int .i64 0, .int .i64 0] 40)), z.at.cell? ⟨x1.at.heap.size, 5, none⟩ = some (.int .i64 0) := fun z => by rw [z.cell _ (by simp)]; simp [World.cell?_alloc_new]
  have b6 : ∀ z : Wb (x1.at.alloc (.cells #[.int .u32 2332033024, .bool true, .bool true, .bool true, .int .i64 0, .int .i64 0, .int .i64 0, .int .i64 0, .int .i64 0] 40)), z.at.cell? ⟨x1.at.heap.size, 6, none⟩ = some (.int .i64 0) := fun z => by rw [z.cell _ (by simp)]; simp [World.cell?_alloc_new]
  have b7 : ∀ z : Wb (x1.at.alloc (.cells #[.int .u32 2332033024, .bool true, .bool true, .bool true, .int .i64 0, .int .i64 0, .int .i64 0, .int .i64 0, .int .i64 0] 40)), z.at.cell? ⟨x1.at.heap.size, 7, none⟩ = some (.int .i64 0) := fun z => by rw [z.cell _ (by simp)]; simp [World.cell?_alloc_new]
  have b8 : ∀ z : Wb (x1.at.alloc (.cells #[.int .u32 2332033024, .bool true, .bool true, .bool true, .int .i64 0, .int .i64 0, .int .i64 0, .int .i64 0, .int .i64 0] 40)), z.at.cell? ⟨x1.at.heap.size, 8, none⟩ = some (.int .i64 0) := fun z => by rw [z.cell _ (by simp)]; simp [World.cell?_alloc_new]
  have KB := Lib.hid (fun (z : Wb (x1.at.alloc (.cells #[.int .u32 2332033024, .bool true, .bool true, .bool true, .int .i64 0, .int .i64 0, .int .i64 0, .int .i64 0, .int .i64 0] 40))) => (((((Below.refl _ _).alloc (Nat.le_refl _) _).trans (x1.bel.mono (by simp))).alloc (by omega) _).trans (z.bel.mono (by simp; omega)) : Below w.heap.size w z.at))
  go_upto_region 5 with fail
  obtain ⟨y0, hy⟩ : ∃ y : Wb (x1.at.alloc (.cells #[.int .u32 2332033024, .bool true, .bool true, .bool true, .int .i64 0, .int .i64 0, .int .i64 0, .int .i64 0, .int .i64 0] 40)), (x1.at.alloc (.cells #[.int .u32 2332033024, .bool true, .bool true, .bool true, .int .i64 0, .int .i64 0, .int .i64 0, .int .i64 0, .int .i64 0] 40)) = y.at := ⟨⟨_, Below.refl _ _⟩, rfl⟩
  rw [hy]
  clear hy
  go_wp2_with fail
  refine (named_no 8 _ _ _ _ _ _ rfl rfl).mono ?_
  rintro e w1 ⟨rfl, q1⟩
  obtain ⟨y3, rfl⟩ := Wb.next q1
  clear q1
  go_wp2
  go_ret2
  refine ⟨ret_t ?_, KB.out y3⟩
  rw [HW.out]
  go_light
  clear KB RI HS HS1 HW a0 a1 a2 a3 a4 a5 b0 b1 b2 b3 b4 b5 b6 b7 b8 e0 e1 e2 e3 e4 e5 e6 e7 e8 k0
  exact encw_8 d n m HBD.out

theorem enc_bd_9 (d n m : Int) (hr : GrI.right ⟨9, d, n, m, 0, 0⟩) : 0 ≤ d ∧ d ≤ 31 ∧ 0 ≤ n ∧ n ≤ 31 ∧ 0 ≤ m ∧ m ≤ 31 := by
  simp [GrI.right, GrI.parts, GrI.nums] at hr
  first | trivial | omega

set_option maxRecDepth 100000 in
set_option maxHeartbeats 6400000 in
theorem xenc_9 (d n m : Int) (w : World) (hs : ShAt w) (hr : GrI.right ⟨9, d, n, m, 0, 0⟩) :
    Calls Tryd.prog 10 #[.agg #[.int .i64 9, .int .i64 d, .int .i64 n, .int .i64 m, .int .i64 0, .int .i64 0]] w fun e w' => e = .returned (.tuple #[.int .u32 (GrI.word ⟨9, d, n, m, 0, 0⟩), .int .i64 0]) ∧ Below w.heap.size w w' := by
  have hb := enc_bd_9 d n m hr
  have HBD := Lib.hid hb
  have RI := Lib.hid (fun w hs => xright_9 d n m 0 0 w hs (by omega) (by omega))
  rw [show GrI.code (decide (GrI.right ⟨9, d, n, m, 0, 0⟩)) = 0 by simp [GrI.code, hr]] at RI
  clear hr
  have HS := Lib.hid hs
  clear hs
  obtain ⟨WW, hWW⟩ : ∃ WW, WW = GrI.word ⟨9, d, n, m, 0, 0⟩ := ⟨_, rfl⟩
  rw [← hWW]
  have HW := Lib.hid hWW
  clear hWW
  go_enter Tryd.func10, Tryd.ntmps10
  go_wp2_with fail
  refine (RI.out _ (HS.out.alloc _)).mono ?_
  rintro e w1 ⟨rfl, b1⟩
  have HS1 := Lib.hid ((HS.out.alloc _).below b1)
  obtain ⟨x1, rfl⟩ := Wb.start b1
  clear b1
  have e0 : x1.at.cell? ⟨0, 81, none⟩ = some (.int .u32 3405774848) := HS1.out 81 (by decide)
  have e1 : x1.at.cell? ⟨0, 82, none⟩ = some (.bool true) := HS1.out 82 (by decide)
  have e2 : x1.at.cell? ⟨0, 83, none⟩ = some (.bool true) := HS1.out 83 (by decide)
  have e3 : x1.at.cell? ⟨0, 84, none⟩ = some (.bool true) := HS1.out 84 (by decide)
  have e4 : x1.at.cell? ⟨0, 85, none⟩ = some (.int .i64 0) := HS1.out 85 (by decide)
  have e5 : x1.at.cell? ⟨0, 86, none⟩ = some (.int .i64 0) := HS1.out 86 (by decide)
  have e6 : x1.at.cell? ⟨0, 87, none⟩ = some (.int .i64 0) := HS1.out 87 (by decide)
  have e7 : x1.at.cell? ⟨0, 88, none⟩ = some (.int .i64 0) := HS1.out 88 (by decide)
  have e8 : x1.at.cell? ⟨0, 89, none⟩ = some (.int .i64 0) := HS1.out 89 (by decide)
  have k0 : x1.at.cell? ⟨w.heap.size, 0, none⟩ = some (.int .i64 9) := by rw [x1.cell _ (by simp)]; simp [World.cell?_alloc_new]
  have lt1 : w.heap.size < x1.at.heap.size := by have := x1.size; simp at this; omega
  have a0 : ∀ z : Wb (x1.at.alloc (.cells #[.int .u32 3405774848, .bool true, .bool true, .bool true, .int .i64 0, .int .i64 0, .int .i64 0, .int .i64 0, .int .i64 0] 40)), z.at.cell? ⟨w.heap.size, 0, none⟩ = some (.int .i64 9) := fun z => (z.prev _ lt1).trans (by rw [x1.cell _ (by simp)]; simp [World.cell?_alloc_new])
  have a1 : ∀ z : Wb (x1.at.alloc (.cells #[.int .u32 3405774848, .bool true, .bool true, .bool true, .int .i64 0, .int .i64 0, .int .i64 0, .int .i64 0, .int .i64 0] 40)), z.at.cell? ⟨w.heap.size, 1, none⟩ = some (.int .i64 d) := fun z => (z.prev _ lt1).trans (by rw [x1.cell _ (by simp)]; simp [World.cell?_alloc_new])
  have a2 : ∀ z : Wb (x1.at.alloc (.cells #[.int .u32 3405774848, .bool true, .bool true, .bool true, .int .i64 0, .int .i64 0, .int .i64 0, .int .i64 0, .int .i64 0] 40)), z.at.cell? ⟨w.heap.size, 2, none⟩ = some (.int .i64 n) := fun z => (z.prev _ lt1).trans (by rw [x1.cell _ (by simp)]; simp [World.cell?_alloc_new])
  have a3 : ∀ z : Wb (x1.at.alloc (.cells #[.int .u32 3405774848, .bool true, .bool true, .bool true, .int .i64 0, .int .i64 0, .int .i64 0, .int .i64 0, .int .i64 0] 40)), z.at.cell? ⟨w.heap.size, 3, none⟩ = some (.int .i64 m) := fun z => (z.prev _ lt1).trans (by rw [x1.cell _ (by simp)]; simp [World.cell?_alloc_new])
  have a4 : ∀ z : Wb (x1.at.alloc (.cells #[.int .u32 3405774848, .bool true, .bool true, .bool true, .int .i64 0, .int .i64 0, .int .i64 0, .int .i64 0, .int .i64 0] 40)), z.at.cell? ⟨w.heap.size, 4, none⟩ = some (.int .i64 0) := fun z => (z.prev _ lt1).trans (by rw [x1.cell _ (by simp)]; simp [World.cell?_alloc_new])
  have a5 : ∀ z : Wb (x1.at.alloc (.cells #[.int .u32 3405774848, .bool true, .bool true, .bool true, .int .i64 0, .int .i64 0, .int .i64 0, .int .i64 0, .int .i64 0] 40)), z.at.cell? ⟨w.heap.size, 5, none⟩ = some (.int .i64 0) := fun z => (z.prev _ lt1).trans (by rw [x1.cell _ (by simp)]; simp [World.cell?_alloc_new])
  have b0 : ∀ z : Wb (x1.at.alloc (.cells #[.int .u32 3405774848, .bool true, .bool true, .bool true, .int .i64 0, .int .i64 0, .int .i64 0, .int .i64 0, .int .i64 0] 40)), z.at.cell? ⟨x1.at.heap.size, 0, none⟩ = some (.int .u32 3405774848) := fun z => by rw [z.cell _ (by simp)]; simp [World.cell?_alloc_new]
  have b1 : ∀ z : Wb (x1.at.alloc (.cells #[.int .u32 3405774848, .bool true, .bool true, .bool true, .int .i64 0, .int .i64 0, .int .i64 0, .int .i64 0, .int .i64 0] 40)), z.at.cell? ⟨x1.at.heap.size, 1, none⟩ = some (.bool true) := fun z => by rw [z.cell _ (by simp)]; simp [World.cell?_alloc_new]
  have b2 : ∀ z : Wb (x1.at.alloc (.cells #[.int .u32 3405774848, .bool true, .bool true, .bool true, .int .i64 0, .int .i64 0, .int .i64 0, .int .i64 0, .int .i64 0] 40)), z.at.cell? ⟨x1.at.heap.size, 2, none⟩ = some (.bool true) := fun z => by rw [z.cell _ (by simp)]; simp [World.cell?_alloc_new]
  have b3 : ∀ z : Wb (x1.at.alloc (.cells #[.int .u32 3405774848, .bool true, .bool true, .bool true, .int .i64 0, .int .i64 0, .int .i64 0, .int .i64 0, .int .i64 0] 40)), z.at.cell? ⟨x1.at.heap.size, 3, none⟩ = some (.bool true) := fun z => by rw [z.cell _ (by simp)]; simp [World.cell?_alloc_new]
  have b4 : ∀ z : Wb (x1.at.alloc (.cells #[.int .u32 3405774848, .bool true, .bool true, .bool true, .int .i64 0, .int .i64 0, .int .i64 0, .int .i64 0, .int .i64 0] 40)), z.at.cell? ⟨x1.at.heap.size, 4, none⟩ = some (.int .i64 0) := fun z => by rw [z.cell _ (by simp)]; simp [World.cell?_alloc_new]
  have b5 : ∀ z : Wb (x1.at.alloc (.cells #[.int .u32 3405774848, .bool true, .bool true, .bool true, .int .i64 0, .int .i64 0, .int .i64 0, .int .i64 0, .int .i64 0] 40)), z.at.cell? ⟨x1.at.heap.size, 5, none⟩ = some (.int .i64 0) := fun z => by rw [z.cell _ (by simp)]; simp [World.cell?_alloc_new]
  have b6 : ∀ z : Wb (x1.at.alloc (.cells #[.int .u32 3405774848, .bool true, .bool true, .bool true, .int .i64 0, .int .i64 0, .int .i64 0, .int .i64 0, .int .i64 0] 40)), z.at.cell? ⟨x1.at.heap.size, 6, none⟩ = some (.int .i64 0) := fun z => by rw [z.cell _ (by simp)]; simp [World.cell?_alloc_new]
  have b7 : ∀ z : Wb (x1.at.alloc (.cells #[.int .u32 3405774848, .bool true, .bool true, .bool true, .int .i64 0, .int .i64 0, .int .i64 0, .int .i64 0, .int .i64 0] 40)), z.at.cell? ⟨x1.at.heap.size, 7, none⟩ = some (.int .i64 0) := fun z => by rw [z.cell _ (by simp)]; simp [World.cell?_alloc_new]
  have b8 : ∀ z : Wb (x1.at.alloc (.cells #[.int .u32 3405774848, .bool true, .bool true, .bool true, .int .i64 0, .int .i64 0, .int .i64 0, .int .i64 0, .int .i64 0] 40)), z.at.cell? ⟨x1.at.heap.size, 8, none⟩ = some (.int .i64 0) := fun z => by rw [z.cell _ (by simp)]; simp [World.cell?_alloc_new]
  have KB := Lib.hid (fun (z : Wb (x1.at.alloc (.cells #[.int .u32 3405774848, .bool true, .bool true, .bool true, .int .i64 0, .int .i64 0, .int .i64 0, .int .i64 0, .int .i64 0] 40))) => (((((Below.refl _ _).alloc (Nat.le_refl _) _).trans (x1.bel.mono (by simp))).alloc (by omega) _).trans (z.bel.mono (by simp; omega)) : Below w.heap.size w z.at))
  go_upto_region 5 with fail
  obtain ⟨y0, hy⟩ : ∃ y : Wb (x1.at.alloc (.cells #[.int .u32 3405774848, .bool true, .bool true, .bool true, .int .i64 0, .int .i64 0, .int .i64 0, .int .i64 0, .int .i64 0] 40)), (x1.at.alloc (.cells #[.int .u32 3405774848, .bool true, .bool true, .bool true, .int .i64 0, .int .i64 0, .int .i64 0, .int .i64 0, .int .i64 0] 40)) = y.at := ⟨⟨_, Below.refl _ _⟩, rfl⟩
  rw [hy]
  clear hy
  go_wp2_with fail
  refine (named_no 9 _ _ _ _ _ _ rfl rfl).mono ?_
  rintro e w1 ⟨rfl, q1⟩
  obtain ⟨y3, rfl⟩ := Wb.next q1
  clear q1
  go_wp2
  go_ret2
  refine ⟨ret_t ?_, KB.out y3⟩
  rw [HW.out]
  go_light
  clear KB RI HS HS1 HW a0 a1 a2 a3 a4 a5 b0 b1 b2 b3 b4 b5 b6 b7 b8 e0 e1 e2 e3 e4 e5 e6 e7 e8 k0
  exact encw_9 d n m HBD.out

theorem enc_bd_10 (d n m : Int) (hr : GrI.right ⟨10, d, n, m, 0, 0⟩) : 0 ≤ d ∧ d ≤ 31 ∧ 0 ≤ n ∧ n ≤ 31 ∧ 0 ≤ m ∧ m ≤ 31 := by
  simp [GrI.right, GrI.parts, GrI.nums] at hr
  first | trivial | omega

set_option maxRecDepth 100000 in
set_option maxHeartbeats 6400000 in
theorem xenc_10 (d n m : Int) (w : World) (hs : ShAt w) (hr : GrI.right ⟨10, d, n, m, 0, 0⟩) :
    Calls Tryd.prog 10 #[.agg #[.int .i64 10, .int .i64 d, .int .i64 n, .int .i64 m, .int .i64 0, .int .i64 0]] w fun e w' => e = .returned (.tuple #[.int .u32 (GrI.word ⟨10, d, n, m, 0, 0⟩), .int .i64 0]) ∧ Below w.heap.size w w' := by
  have hb := enc_bd_10 d n m hr
  have HBD := Lib.hid hb
  have RI := Lib.hid (fun w hs => xright_10 d n m 0 0 w hs (by omega) (by omega))
  rw [show GrI.code (decide (GrI.right ⟨10, d, n, m, 0, 0⟩)) = 0 by simp [GrI.code, hr]] at RI
  clear hr
  have HS := Lib.hid hs
  clear hs
  obtain ⟨WW, hWW⟩ : ∃ WW, WW = GrI.word ⟨10, d, n, m, 0, 0⟩ := ⟨_, rfl⟩
  rw [← hWW]
  have HW := Lib.hid hWW
  clear hWW
  go_enter Tryd.func10, Tryd.ntmps10
  go_wp2_with fail
  refine (RI.out _ (HS.out.alloc _)).mono ?_
  rintro e w1 ⟨rfl, b1⟩
  have HS1 := Lib.hid ((HS.out.alloc _).below b1)
  obtain ⟨x1, rfl⟩ := Wb.start b1
  clear b1
  have e0 : x1.at.cell? ⟨0, 90, none⟩ = some (.int .u32 2315255808) := HS1.out 90 (by decide)
  have e1 : x1.at.cell? ⟨0, 91, none⟩ = some (.bool true) := HS1.out 91 (by decide)
  have e2 : x1.at.cell? ⟨0, 92, none⟩ = some (.bool true) := HS1.out 92 (by decide)
  have e3 : x1.at.cell? ⟨0, 93, none⟩ = some (.bool true) := HS1.out 93 (by decide)
  have e4 : x1.at.cell? ⟨0, 94, none⟩ = some (.int .i64 0) := HS1.out 94 (by decide)
  have e5 : x1.at.cell? ⟨0, 95, none⟩ = some (.int .i64 0) := HS1.out 95 (by decide)
  have e6 : x1.at.cell? ⟨0, 96, none⟩ = some (.int .i64 0) := HS1.out 96 (by decide)
  have e7 : x1.at.cell? ⟨0, 97, none⟩ = some (.int .i64 0) := HS1.out 97 (by decide)
  have e8 : x1.at.cell? ⟨0, 98, none⟩ = some (.int .i64 0) := HS1.out 98 (by decide)
  have k0 : x1.at.cell? ⟨w.heap.size, 0, none⟩ = some (.int .i64 10) := by rw [x1.cell _ (by simp)]; simp [World.cell?_alloc_new]
  have lt1 : w.heap.size < x1.at.heap.size := by have := x1.size; simp at this; omega
  have a0 : ∀ z : Wb (x1.at.alloc (.cells #[.int .u32 2315255808, .bool true, .bool true, .bool true, .int .i64 0, .int .i64 0, .int .i64 0, .int .i64 0, .int .i64 0] 40)), z.at.cell? ⟨w.heap.size, 0, none⟩ = some (.int .i64 10) := fun z => (z.prev _ lt1).trans (by rw [x1.cell _ (by simp)]; simp [World.cell?_alloc_new])
  have a1 : ∀ z : Wb (x1.at.alloc (.cells #[.int .u32 2315255808, .bool true, .bool true, .bool true, .int .i64 0, .int .i64 0, .int .i64 0, .int .i64 0, .int .i64 0] 40)), z.at.cell? ⟨w.heap.size, 1, none⟩ = some (.int .i64 d) := fun z => (z.prev _ lt1).trans (by rw [x1.cell _ (by simp)]; simp [World.cell?_alloc_new])
  have a2 : ∀ z : Wb (x1.at.alloc (.cells #[.int .u32 2315255808, .bool true, .bool true, .bool true, .int .i64 0, .int .i64 0, .int .i64 0, .int .i64 0, .int .i64 0] 40)), z.at.cell? ⟨w.heap.size, 2, none⟩ = some (.int .i64 n) := fun z => (z.prev _ lt1).trans (by rw [x1.cell _ (by simp)]; simp [World.cell?_alloc_new])
  have a3 : ∀ z : Wb (x1.at.alloc (.cells #[.int .u32 2315255808, .bool true, .bool true, .bool true, .int .i64 0, .int .i64 0, .int .i64 0, .int .i64 0, .int .i64 0] 40)), z.at.cell? ⟨w.heap.size, 3, none⟩ = some (.int .i64 m) := fun z => (z.prev _ lt1).trans (by rw [x1.cell _ (by simp)]; simp [World.cell?_alloc_new])
  have a4 : ∀ z : Wb (x1.at.alloc (.cells #[.int .u32 2315255808, .bool true, .bool true, .bool true, .int .i64 0, .int .i64 0, .int .i64 0, .int .i64 0, .int .i64 0] 40)), z.at.cell? ⟨w.heap.size, 4, none⟩ = some (.int .i64 0) := fun z => (z.prev _ lt1).trans (by rw [x1.cell _ (by simp)]; simp [World.cell?_alloc_new])
  have a5 : ∀ z : Wb (x1.at.alloc (.cells #[.int .u32 2315255808, .bool true, .bool true, .bool true, .int .i64 0, .int .i64 0, .int .i64 0, .int .i64 0, .int .i64 0] 40)), z.at.cell? ⟨w.heap.size, 5, none⟩ = some (.int .i64 0) := fun z => (z.prev _ lt1).trans (by rw [x1.cell _ (by simp)]; simp [World.cell?_alloc_new])
  have b0 : ∀ z : Wb (x1.at.alloc (.cells #[.int .u32 2315255808, .bool true, .bool true, .bool true, .int .i64 0, .int .i64 0, .int .i64 0, .int .i64 0, .int .i64 0] 40)), z.at.cell? ⟨x1.at.heap.size, 0, none⟩ = some (.int .u32 2315255808) := fun z => by rw [z.cell _ (by simp)]; simp [World.cell?_alloc_new]
  have b1 : ∀ z : Wb (x1.at.alloc (.cells #[.int .u32 2315255808, .bool true, .bool true, .bool true, .int .i64 0, .int .i64 0, .int .i64 0, .int .i64 0, .int .i64 0] 40)), z.at.cell? ⟨x1.at.heap.size, 1, none⟩ = some (.bool true) := fun z => by rw [z.cell _ (by simp)]; simp [World.cell?_alloc_new]
  have b2 : ∀ z : Wb (x1.at.alloc (.cells #[.int .u32 2315255808, .bool true, .bool true, .bool true, .int .i64 0, .int .i64 0, .int .i64 0, .int .i64 0, .int .i64 0] 40)), z.at.cell? ⟨x1.at.heap.size, 2, none⟩ = some (.bool true) := fun z => by rw [z.cell _ (by simp)]; simp [World.cell?_alloc_new]
  have b3 : ∀ z : Wb (x1.at.alloc (.cells #[.int .u32 2315255808, .bool true, .bool true, .bool true, .int .i64 0, .int .i64 0, .int .i64 0, .int .i64 0, .int .i64 0] 40)), z.at.cell? ⟨x1.at.heap.size, 3, none⟩ = some (.bool true) := fun z => by rw [z.cell _ (by simp)]; simp [World.cell?_alloc_new]
  have b4 : ∀ z : Wb (x1.at.alloc (.cells #[.int .u32 2315255808, .bool true, .bool true, .bool true, .int .i64 0, .int .i64 0, .int .i64 0, .int .i64 0, .int .i64 0] 40)), z.at.cell? ⟨x1.at.heap.size, 4, none⟩ = some (.int .i64 0) := fun z => by rw [z.cell _ (by simp)]; simp [World.cell?_alloc_new]
  have b5 : ∀ z : Wb (x1.at.alloc (.cells #[.int .u32 2315255808, .bool true, .bool true, .bool true, .int .i64 0, .int .i64 0, .int .i64 0, .int .i64 0, .int .i64 0] 40)), z.at.cell? ⟨x1.at.heap.size, 5, none⟩ = some (.int .i64 0) := fun z => by rw [z.cell _ (by simp)]; simp [World.cell?_alloc_new]
  have b6 : ∀ z : Wb (x1.at.alloc (.cells #[.int .u32 2315255808, .bool true, .bool true, .bool true, .int .i64 0, .int .i64 0, .int .i64 0, .int .i64 0, .int .i64 0] 40)), z.at.cell? ⟨x1.at.heap.size, 6, none⟩ = some (.int .i64 0) := fun z => by rw [z.cell _ (by simp)]; simp [World.cell?_alloc_new]
  have b7 : ∀ z : Wb (x1.at.alloc (.cells #[.int .u32 2315255808, .bool true, .bool true, .bool true, .int .i64 0, .int .i64 0, .int .i64 0, .int .i64 0, .int .i64 0] 40)), z.at.cell? ⟨x1.at.heap.size, 7, none⟩ = some (.int .i64 0) := fun z => by rw [z.cell _ (by simp)]; simp [World.cell?_alloc_new]
  have b8 : ∀ z : Wb (x1.at.alloc (.cells #[.int .u32 2315255808, .bool true, .bool true, .bool true, .int .i64 0, .int .i64 0, .int .i64 0, .int .i64 0, .int .i64 0] 40)), z.at.cell? ⟨x1.at.heap.size, 8, none⟩ = some (.int .i64 0) := fun z => by rw [z.cell _ (by simp)]; simp [World.cell?_alloc_new]
  have KB := Lib.hid (fun (z : Wb (x1.at.alloc (.cells #[.int .u32 2315255808, .bool true, .bool true, .bool true, .int .i64 0, .int .i64 0, .int .i64 0, .int .i64 0, .int .i64 0] 40))) => (((((Below.refl _ _).alloc (Nat.le_refl _) _).trans (x1.bel.mono (by simp))).alloc (by omega) _).trans (z.bel.mono (by simp; omega)) : Below w.heap.size w z.at))
  go_upto_region 5 with fail
  obtain ⟨y0, hy⟩ : ∃ y : Wb (x1.at.alloc (.cells #[.int .u32 2315255808, .bool true, .bool true, .bool true, .int .i64 0, .int .i64 0, .int .i64 0, .int .i64 0, .int .i64 0] 40)), (x1.at.alloc (.cells #[.int .u32 2315255808, .bool true, .bool true, .bool true, .int .i64 0, .int .i64 0, .int .i64 0, .int .i64 0, .int .i64 0] 40)) = y.at := ⟨⟨_, Below.refl _ _⟩, rfl⟩
  rw [hy]
  clear hy
  go_wp2_with fail
  refine (named_no 10 _ _ _ _ _ _ rfl rfl).mono ?_
  rintro e w1 ⟨rfl, q1⟩
  obtain ⟨y3, rfl⟩ := Wb.next q1
  clear q1
  go_wp2
  go_ret2
  refine ⟨ret_t ?_, KB.out y3⟩
  rw [HW.out]
  go_light
  clear KB RI HS HS1 HW a0 a1 a2 a3 a4 a5 b0 b1 b2 b3 b4 b5 b6 b7 b8 e0 e1 e2 e3 e4 e5 e6 e7 e8 k0
  exact encw_10 d n m HBD.out

theorem enc_bd_11 (d n m : Int) (hr : GrI.right ⟨11, d, n, m, 0, 0⟩) : 0 ≤ d ∧ d ≤ 31 ∧ 0 ≤ n ∧ n ≤ 31 ∧ 0 ≤ m ∧ m ≤ 31 := by
  simp [GrI.right, GrI.parts, GrI.nums] at hr
  first | trivial | omega

set_option maxRecDepth 100000 in
set_option maxHeartbeats 6400000 in
theorem xenc_11 (d n m : Int) (w : World) (hs : ShAt w) (hr : GrI.right ⟨11, d, n, m, 0, 0⟩) :
    Calls Tryd.prog 10 #[.agg #[.int .i64 11, .int .i64 d, .int .i64 n, .int .i64 m, .int .i64 0, .int .i64 0]] w fun e w' => e = .returned (.tuple #[.int .u32 (GrI.word ⟨11, d, n, m, 0, 0⟩), .int .i64 0]) ∧ Below w.heap.size w w' := by
  have hb := enc_bd_11 d n m hr
  have HBD := Lib.hid hb
  have RI := Lib.hid (fun w hs => xright_11 d n m 0 0 w hs (by omega) (by omega))
  rw [show GrI.code (decide (GrI.right ⟨11, d, n, m, 0, 0⟩)) = 0 by simp [GrI.code, hr]] at RI
  clear hr
  have HS := Lib.hid hs
  clear hs
  obtain ⟨WW, hWW⟩ : ∃ WW, WW = GrI.word ⟨11, d, n, m, 0, 0⟩ := ⟨_, rfl⟩
  rw [← hWW]
  have HW := Lib.hid hWW
  clear hWW
  go_enter Tryd.func10, Tryd.ntmps10
  go_wp2_with fail
  refine (RI.out _ (HS.out.alloc _)).mono ?_
  rintro e w1 ⟨rfl, b1⟩
  have HS1 := Lib.hid ((HS.out.alloc _).below b1)
  obtain ⟨x1, rfl⟩ := Wb.start b1
  clear b1
  have e0 : x1.at.cell? ⟨0, 99, none⟩ = some (.int .u32 2852126720) := HS1.out 99 (by decide)
  have e1 : x1.at.cell? ⟨0, 100, none⟩ = some (.bool true) := HS1.out 100 (by decide)
  have e2 : x1.at.cell? ⟨0, 101, none⟩ = some (.bool true) := HS1.out 101 (by decide)
  have e3 : x1.at.cell? ⟨0, 102, none⟩ = some (.bool true) := HS1.out 102 (by decide)
  have e4 : x1.at.cell? ⟨0, 103, none⟩ = some (.int .i64 0) := HS1.out 103 (by decide)
  have e5 : x1.at.cell? ⟨0, 104, none⟩ = some (.int .i64 0) := HS1.out 104 (by decide)
  have e6 : x1.at.cell? ⟨0, 105, none⟩ = some (.int .i64 0) := HS1.out 105 (by decide)
  have e7 : x1.at.cell? ⟨0, 106, none⟩ = some (.int .i64 0) := HS1.out 106 (by decide)
  have e8 : x1.at.cell? ⟨0, 107, none⟩ = some (.int .i64 0) := HS1.out 107 (by decide)
  have k0 : x1.at.cell? ⟨w.heap.size, 0, none⟩ = some (.int .i64 11) := by rw [x1.cell _ (by simp)]; simp [World.cell?_alloc_new]
  have lt1 : w.heap.size < x1.at.heap.size := by have := x1.size; simp at this; omega
  have a0 : ∀ z : Wb (x1.at.alloc (.cells #[.int .u32 2852126720, .bool true, .bool true, .bool true, .int .i64 0, .int .i64 0, .int .i64 0, .int .i64 0, .int .i64 0] 40)), z.at.cell? ⟨w.heap.size, 0, none⟩ = some (.int .i64 11) := fun z => (z.prev _ lt1).trans (by rw [x1.cell _ (by simp)]; simp [World.cell?_alloc_new])
  have a1 : ∀ z : Wb (x1.at.alloc (.cells #[.int .u32 2852126720, .bool true, .bool true, .bool true, .int .i64 0, .int .i64 0, .int .i64 0, .int .i64 0, .int .i64 0] 40)), z.at.cell? ⟨w.heap.size, 1, none⟩ = some (.int .i64 d) := fun z => (z.prev _ lt1).trans (by rw [x1.cell _ (by simp)]; simp [World.cell?_alloc_new])
  have a2 : ∀ z : Wb (x1.at.alloc (.cells #[.int .u32 2852126720, .bool true, .bool true, .bool true, .int .i64 0, .int .i64 0, .int .i64 0, .int .i64 0, .int .i64 0] 40)), z.at.cell? ⟨w.heap.size, 2, none⟩ = some (.int .i64 n) := fun z => (z.prev _ lt1).trans (by rw [x1.cell _ (by simp)]; simp [World.cell?_alloc_new])
  have a3 : ∀ z : Wb (x1.at.alloc (.cells #[.int .u32 2852126720, .bool true, .bool true, .bool true, .int .i64 0, .int .i64 0, .int .i64 0, .int .i64 0, .int .i64 0] 40)), z.at.cell? ⟨w.heap.size, 3, none⟩ = some (.int .i64 m) := fun z => (z.prev _ lt1).trans (by rw [x1.cell _ (by simp)]; simp [World.cell?_alloc_new])
  have a4 : ∀ z : Wb (x1.at.alloc (.cells #[.int .u32 2852126720, .bool true, .bool true, .bool true, .int .i64 0, .int .i64 0, .int .i64 0, .int .i64 0, .int .i64 0] 40)), z.at.cell? ⟨w.heap.size, 4, none⟩ = some (.int .i64 0) := fun z => (z.prev _ lt1).trans (by rw [x1.cell _ (by simp)]; simp [World.cell?_alloc_new])
  have a5 : ∀ z : Wb (x1.at.alloc (.cells #[.int .u32 2852126720, .bool true, .bool true, .bool true, .int .i64 0, .int .i64 0, .int .i64 0, .int .i64 0, .int .i64 0] 40)), z.at.cell? ⟨w.heap.size, 5, none⟩ = some (.int .i64 0) := fun z => (z.prev _ lt1).trans (by rw [x1.cell _ (by simp)]; simp [World.cell?_alloc_new])
  have b0 : ∀ z : Wb (x1.at.alloc (.cells #[.int .u32 2852126720, .bool true, .bool true, .bool true, .int .i64 0, .int .i64 0, .int .i64 0, .int .i64 0, .int .i64 0] 40)), z.at.cell? ⟨x1.at.heap.size, 0, none⟩ = some (.int .u32 2852126720) := fun z => by rw [z.cell _ (by simp)]; simp [World.cell?_alloc_new]
  have b1 : ∀ z : Wb (x1.at.alloc (.cells #[.int .u32 2852126720, .bool true, .bool true, .bool true, .int .i64 0, .int .i64 0, .int .i64 0, .int .i64 0, .int .i64 0] 40)), z.at.cell? ⟨x1.at.heap.size, 1, none⟩ = some (.bool true) := fun z => by rw [z.cell _ (by simp)]; simp [World.cell?_alloc_new]
  have b2 : ∀ z : Wb (x1.at.alloc (.cells #[.int .u32 2852126720, .bool true, .bool true, .bool true, .int .i64 0, .int .i64 0, .int .i64 0, .int .i64 0, .int .i64 0] 40)), z.at.cell? ⟨x1.at.heap.size, 2, none⟩ = some (.bool true) := fun z => by rw [z.cell _ (by simp)]; simp [World.cell?_alloc_new]
  have b3 : ∀ z : Wb (x1.at.alloc (.cells #[.int .u32 2852126720, .bool true, .bool true, .bool true, .int .i64 0, .int .i64 0, .int .i64 0, .int .i64 0, .int .i64 0] 40)), z.at.cell? ⟨x1.at.heap.size, 3, none⟩ = some (.bool true) := fun z => by rw [z.cell _ (by simp)]; simp [World.cell?_alloc_new]
  have b4 : ∀ z : Wb (x1.at.alloc (.cells #[.int .u32 2852126720, .bool true, .bool true, .bool true, .int .i64 0, .int .i64 0, .int .i64 0, .int .i64 0, .int .i64 0] 40)), z.at.cell? ⟨x1.at.heap.size, 4, none⟩ = some (.int .i64 0) := fun z => by rw [z.cell _ (by simp)]; simp [World.cell?_alloc_new]
  have b5 : ∀ z : Wb (x1.at.alloc (.cells #[.int .u32 2852126720, .bool true, .bool true, .bool true, .int .i64 0, .int .i64 0, .int .i64 0, .int .i64 0, .int .i64 0] 40)), z.at.cell? ⟨x1.at.heap.size, 5, none⟩ = some (.int .i64 0) := fun z => by rw [z.cell _ (by simp)]; simp [World.cell?_alloc_new]
  have b6 : ∀ z : Wb (x1.at.alloc (.cells #[.int .u32 2852126720, .bool true, .bool true, .bool true, .int .i64 0, .int .i64 0, .int .i64 0, .int .i64 0, .int .i64 0] 40)), z.at.cell? ⟨x1.at.heap.size, 6, none⟩ = some (.int .i64 0) := fun z => by rw [z.cell _ (by simp)]; simp [World.cell?_alloc_new]
  have b7 : ∀ z : Wb (x1.at.alloc (.cells #[.int .u32 2852126720, .bool true, .bool true, .bool true, .int .i64 0, .int .i64 0, .int .i64 0, .int .i64 0, .int .i64 0] 40)), z.at.cell? ⟨x1.at.heap.size, 7, none⟩ = some (.int .i64 0) := fun z => by rw [z.cell _ (by simp)]; simp [World.cell?_alloc_new]
  have b8 : ∀ z : Wb (x1.at.alloc (.cells #[.int .u32 2852126720, .bool true, .bool true, .bool true, .int .i64 0, .int .i64 0, .int .i64 0, .int .i64 0, .int .i64 0] 40)), z.at.cell? ⟨x1.at.heap.size, 8, none⟩ = some (.int .i64 0) := fun z => by rw [z.cell _ (by simp)]; simp [World.cell?_alloc_new]
  have KB := Lib.hid (fun (z : Wb (x1.at.alloc (.cells #[.int .u32 2852126720, .bool true, .bool true, .bool true, .int .i64 0, .int .i64 0, .int .i64 0, .int .i64 0, .int .i64 0] 40))) => (((((Below.refl _ _).alloc (Nat.le_refl _) _).trans (x1.bel.mono (by simp))).alloc (by omega) _).trans (z.bel.mono (by simp; omega)) : Below w.heap.size w z.at))
  go_upto_region 5 with fail
  obtain ⟨y0, hy⟩ : ∃ y : Wb (x1.at.alloc (.cells #[.int .u32 2852126720, .bool true, .bool true, .bool true, .int .i64 0, .int .i64 0, .int .i64 0, .int .i64 0, .int .i64 0] 40)), (x1.at.alloc (.cells #[.int .u32 2852126720, .bool true, .bool true, .bool true, .int .i64 0, .int .i64 0, .int .i64 0, .int .i64 0, .int .i64 0] 40)) = y.at := ⟨⟨_, Below.refl _ _⟩, rfl⟩
  rw [hy]
  clear hy
  go_wp2_with fail
  refine (named_no 11 _ _ _ _ _ _ rfl rfl).mono ?_
  rintro e w1 ⟨rfl, q1⟩
  obtain ⟨y3, rfl⟩ := Wb.next q1
  clear q1
  go_wp2
  go_ret2
  refine ⟨ret_t ?_, KB.out y3⟩
  rw [HW.out]
  go_light
  clear KB RI HS HS1 HW a0 a1 a2 a3 a4 a5 b0 b1 b2 b3 b4 b5 b6 b7 b8 e0 e1 e2 e3 e4 e5 e6 e7 e8 k0
  exact encw_11 d n m HBD.out

theorem enc_bd_12 (d n m : Int) (hr : GrI.right ⟨12, d, n, m, 0, 0⟩) : 0 ≤ d ∧ d ≤ 31 ∧ 0 ≤ n ∧ n ≤ 31 ∧ 0 ≤ m ∧ m ≤ 31 := by
  simp [GrI.right, GrI.parts, GrI.nums] at hr
  first | trivial | omega

set_option maxRecDepth 100000 in
set_option maxHeartbeats 6400000 in
theorem xenc_12 (d n m : Int) (w : World) (hs : ShAt w) (hr : GrI.right ⟨12, d, n, m, 0, 0⟩) :
    Calls Tryd.prog 10 #[.agg #[.int .i64 12, .int .i64 d, .int .i64 n, .int .i64 m, .int .i64 0, .int .i64 0]] w fun e w' => e = .returned (.tuple #[.int .u32 (GrI.word ⟨12, d, n, m, 0, 0⟩), .int .i64 0]) ∧ Below w.heap.size w w' := by
  have hb := enc_bd_12 d n m hr
  have HBD := Lib.hid hb
  have RI := Lib.hid (fun w hs => xright_12 d n m 0 0 w hs (by omega) (by omega))
  rw [show GrI.code (decide (GrI.right ⟨12, d, n, m, 0, 0⟩)) = 0 by simp [GrI.code, hr]] at RI
  clear hr
  have HS := Lib.hid hs
  clear hs
  obtain ⟨WW, hWW⟩ : ∃ WW, WW = GrI.word ⟨12, d, n, m, 0, 0⟩ := ⟨_, rfl⟩
  rw [← hWW]
  have HW := Lib.hid hWW
  clear hWW
  go_enter Tryd.func10, Tryd.ntmps10
  go_wp2_with fail
  refine (RI.out _ (HS.out.alloc _)).mono ?_
  rintro e w1 ⟨rfl, b1⟩
  have HS1 := Lib.hid ((HS.out.alloc _).below b1)
  obtain ⟨x1, rfl⟩ := Wb.start b1
  clear b1
  have e0 : x1.at.cell? ⟨0, 108, none⟩ = some (.int .u32 3388997632) := HS1.out 108 (by decide)
  have e1 : x1.at.cell? ⟨0, 109, none⟩ = some (.bool true) := HS1.out 109 (by decide)
  have e2 : x1.at.cell? ⟨0, 110, none⟩ = some (.bool true) := HS1.out 110 (by decide)
  have e3 : x1.at.cell? ⟨0, 111, none⟩ = some (.bool true) := HS1.out 111 (by decide)
  have e4 : x1.at.cell? ⟨0, 112, none⟩ = some (.int .i64 0) := HS1.out 112 (by decide)
  have e5 : x1.at.cell? ⟨0, 113, none⟩ = some (.int .i64 0) := HS1.out 113 (by decide)
  have e6 : x1.at.cell? ⟨0, 114, none⟩ = some (.int .i64 0) := HS1.out 114 (by decide)
  have e7 : x1.at.cell? ⟨0, 115, none⟩ = some (.int .i64 0) := HS1.out 115 (by decide)
  have e8 : x1.at.cell? ⟨0, 116, none⟩ = some (.int .i64 0) := HS1.out 116 (by decide)
  have k0 : x1.at.cell? ⟨w.heap.size, 0, none⟩ = some (.int .i64 12) := by rw [x1.cell _ (by simp)]; simp [World.cell?_alloc_new]
  have lt1 : w.heap.size < x1.at.heap.size := by have := x1.size; simp at this; omega
  have a0 : ∀ z : Wb (x1.at.alloc (.cells #[.int .u32 3388997632, .bool true, .bool true, .bool true, .int .i64 0, .int .i64 0, .int .i64 0, .int .i64 0, .int .i64 0] 40)), z.at.cell? ⟨w.heap.size, 0, none⟩ = some (.int .i64 12) := fun z => (z.prev _ lt1).trans (by rw [x1.cell _ (by simp)]; simp [World.cell?_alloc_new])
  have a1 : ∀ z : Wb (x1.at.alloc (.cells #[.int .u32 3388997632, .bool true, .bool true, .bool true, .int .i64 0, .int .i64 0, .int .i64 0, .int .i64 0, .int .i64 0] 40)), z.at.cell? ⟨w.heap.size, 1, none⟩ = some (.int .i64 d) := fun z => (z.prev _ lt1).trans (by rw [x1.cell _ (by simp)]; simp [World.cell?_alloc_new])
  have a2 : ∀ z : Wb (x1.at.alloc (.cells #[.int .u32 3388997632, .bool true, .bool true, .bool true, .int .i64 0, .int .i64 0, .int .i64 0, .int .i64 0, .int .i64 0] 40)), z.at.cell? ⟨w.heap.size, 2, none⟩ = some (.int .i64 n) := fun z => (z.prev _ lt1).trans (by rw [x1.cell _ (by simp)]; simp [World.cell?_alloc_new])
  have a3 : ∀ z : Wb (x1.at.alloc (.cells #[.int .u32 3388997632, .bool true, .bool true, .bool true, .int .i64 0, .int .i64 0, .int .i64 0, .int .i64 0, .int .i64 0] 40)), z.at.cell? ⟨w.heap.size, 3, none⟩ = some (.int .i64 m) := fun z => (z.prev _ lt1).trans (by rw [x1.cell _ (by simp)]; simp [World.cell?_alloc_new])
  have a4 : ∀ z : Wb (x1.at.alloc (.cells #[.int .u32 3388997632, .bool true, .bool true, .bool true, .int .i64 0, .int .i64 0, .int .i64 0, .int .i64 0, .int .i64 0] 40)), z.at.cell? ⟨w.heap.size, 4, none⟩ = some (.int .i64 0) := fun z => (z.prev _ lt1).trans (by rw [x1.cell _ (by simp)]; simp [World.cell?_alloc_new])
  have a5 : ∀ z : Wb (x1.at.alloc (.cells #[.int .u32 3388997632, .bool true, .bool true, .bool true, .int .i64 0, .int .i64 0, .int .i64 0, .int .i64 0, .int .i64 0] 40)), z.at.cell? ⟨w.heap.size, 5, none⟩ = some (.int .i64 0) := fun z => (z.prev _ lt1).trans (by rw [x1.cell _ (by simp)]; simp [World.cell?_alloc_new])
  have b0 : ∀ z : Wb (x1.at.alloc (.cells #[.int .u32 3388997632, .bool true, .bool true, .bool true, .int .i64 0, .int .i64 0, .int .i64 0, .int .i64 0, .int .i64 0] 40)), z.at.cell? ⟨x1.at.heap.size, 0, none⟩ = some (.int .u32 3388997632) := fun z => by rw [z.cell _ (by simp)]; simp [World.cell?_alloc_new]
  have b1 : ∀ z : Wb (x1.at.alloc (.cells #[.int .u32 3388997632, .bool true, .bool true, .bool true, .int .i64 0, .int .i64 0, .int .i64 0, .int .i64 0, .int .i64 0] 40)), z.at.cell? ⟨x1.at.heap.size, 1, none⟩ = some (.bool true) := fun z => by rw [z.cell _ (by simp)]; simp [World.cell?_alloc_new]
  have b2 : ∀ z : Wb (x1.at.alloc (.cells #[.int .u32 3388997632, .bool true, .bool true, .bool true, .int .i64 0, .int .i64 0, .int .i64 0, .int .i64 0, .int .i64 0] 40)), z.at.cell? ⟨x1.at.heap.size, 2, none⟩ = some (.bool true) := fun z => by rw [z.cell _ (by simp)]; simp [World.cell?_alloc_new]
  have b3 : ∀ z : Wb (x1.at.alloc (.cells #[.int .u32 3388997632, .bool true, .bool true, .bool true, .int .i64 0, .int .i64 0, .int .i64 0, .int .i64 0, .int .i64 0] 40)), z.at.cell? ⟨x1.at.heap.size, 3, none⟩ = some (.bool true) := fun z => by rw [z.cell _ (by simp)]; simp [World.cell?_alloc_new]
  have b4 : ∀ z : Wb (x1.at.alloc (.cells #[.int .u32 3388997632, .bool true, .bool true, .bool true, .int .i64 0, .int .i64 0, .int .i64 0, .int .i64 0, .int .i64 0] 40)), z.at.cell? ⟨x1.at.heap.size, 4, none⟩ = some (.int .i64 0) := fun z => by rw [z.cell _ (by simp)]; simp [World.cell?_alloc_new]
  have b5 : ∀ z : Wb (x1.at.alloc (.cells #[.int .u32 3388997632, .bool true, .bool true, .bool true, .int .i64 0, .int .i64 0, .int .i64 0, .int .i64 0, .int .i64 0] 40)), z.at.cell? ⟨x1.at.heap.size, 5, none⟩ = some (.int .i64 0) := fun z => by rw [z.cell _ (by simp)]; simp [World.cell?_alloc_new]
  have b6 : ∀ z : Wb (x1.at.alloc (.cells #[.int .u32 3388997632, .bool true, .bool true, .bool true, .int .i64 0, .int .i64 0, .int .i64 0, .int .i64 0, .int .i64 0] 40)), z.at.cell? ⟨x1.at.heap.size, 6, none⟩ = some (.int .i64 0) := fun z => by rw [z.cell _ (by simp)]; simp [World.cell?_alloc_new]
  have b7 : ∀ z : Wb (x1.at.alloc (.cells #[.int .u32 3388997632, .bool true, .bool true, .bool true, .int .i64 0, .int .i64 0, .int .i64 0, .int .i64 0, .int .i64 0] 40)), z.at.cell? ⟨x1.at.heap.size, 7, none⟩ = some (.int .i64 0) := fun z => by rw [z.cell _ (by simp)]; simp [World.cell?_alloc_new]
  have b8 : ∀ z : Wb (x1.at.alloc (.cells #[.int .u32 3388997632, .bool true, .bool true, .bool true, .int .i64 0, .int .i64 0, .int .i64 0, .int .i64 0, .int .i64 0] 40)), z.at.cell? ⟨x1.at.heap.size, 8, none⟩ = some (.int .i64 0) := fun z => by rw [z.cell _ (by simp)]; simp [World.cell?_alloc_new]
  have KB := Lib.hid (fun (z : Wb (x1.at.alloc (.cells #[.int .u32 3388997632, .bool true, .bool true, .bool true, .int .i64 0, .int .i64 0, .int .i64 0, .int .i64 0, .int .i64 0] 40))) => (((((Below.refl _ _).alloc (Nat.le_refl _) _).trans (x1.bel.mono (by simp))).alloc (by omega) _).trans (z.bel.mono (by simp; omega)) : Below w.heap.size w z.at))
  go_upto_region 5 with fail
  obtain ⟨y0, hy⟩ : ∃ y : Wb (x1.at.alloc (.cells #[.int .u32 3388997632, .bool true, .bool true, .bool true, .int .i64 0, .int .i64 0, .int .i64 0, .int .i64 0, .int .i64 0] 40)), (x1.at.alloc (.cells #[.int .u32 3388997632, .bool true, .bool true, .bool true, .int .i64 0, .int .i64 0, .int .i64 0, .int .i64 0, .int .i64 0] 40)) = y.at := ⟨⟨_, Below.refl _ _⟩, rfl⟩
  rw [hy]
  clear hy
  go_wp2_with fail
  refine (named_no 12 _ _ _ _ _ _ rfl rfl).mono ?_
  rintro e w1 ⟨rfl, q1⟩
  obtain ⟨y3, rfl⟩ := Wb.next q1
  clear q1
  go_wp2
  go_ret2
  refine ⟨ret_t ?_, KB.out y3⟩
  rw [HW.out]
  go_light
  clear KB RI HS HS1 HW a0 a1 a2 a3 a4 a5 b0 b1 b2 b3 b4 b5 b6 b7 b8 e0 e1 e2 e3 e4 e5 e6 e7 e8 k0
  exact encw_12 d n m HBD.out

end Go.Proofs.YtnehdgapcgbdeaaDoor
