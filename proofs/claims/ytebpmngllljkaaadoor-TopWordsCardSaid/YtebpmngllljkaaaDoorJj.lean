/-
  Layer 3, the code's walks: Encode, operations 1 to 6.
  Layer 3, the code's walks: Encode, operations 7 to 12.
-/
import Derived.Test.YtebpmngllljkaaaDoorJh
import Derived.Test.YtebpmngllljkaaaDoorJe
import Derived.Test.YtebpmngllljkaaaDoorBr
import Derived.Test.YtebpmngllljkaaaDoorIr
set_option linter.unusedSimpArgs false
set_option linter.unusedVariables false
namespace Go.Proofs.YtebpmngllljkaaaDoor
open Go.RowKit

theorem enc_bd_1 (hr : GrI.right ⟨1, 0, 0, 0, 0, 0⟩) : True := by
  simp [GrI.right, GrI.parts, GrI.nums] at hr
  first | trivial | omega

set_option maxRecDepth 100000 in
set_option maxHeartbeats 6400000 in
theorem xenc_1 (w : World) (hs : ShAt w) (hr : GrI.right ⟨1, 0, 0, 0, 0, 0⟩) :
    Calls Tryd.prog 21 #[.agg #[.int .i64 1, .int .i64 0, .int .i64 0, .int .i64 0, .int .i64 0, .int .i64 0]] w fun e w' => e = .returned (.tuple #[.int .u32 (GrI.word ⟨1, 0, 0, 0, 0, 0⟩), .int .i64 0]) ∧ Below w.heap.size w w' := by
  have hb := enc_bd_1 hr
  have HBD := Lib.hid hb
  have RI := Lib.hid (fun w hs => xright_1 0 0 0 0 0 w hs (by omega) (by omega))
  rw [show GrI.code (decide (GrI.right ⟨1, 0, 0, 0, 0, 0⟩)) = 0 by simp [GrI.code, hr]] at RI
  clear hr
  have HS := Lib.hid hs
  clear hs
  obtain ⟨WW, hWW⟩ : ∃ WW, WW = GrI.word ⟨1, 0, 0, 0, 0, 0⟩ := ⟨_, rfl⟩
  rw [← hWW]
  have HW := Lib.hid hWW
  clear hWW
  go_enter Tryd.func21, Tryd.ntmps21
  go_wp2_with fail
  refine (RI.out _ (HS.out.alloc _)).mono ?_
  rintro e w1 ⟨rfl, b1⟩
  have HS1 := Lib.hid ((HS.out.alloc _).below b1)
  obtain ⟨x1, rfl⟩ := Wb.start b1
  clear b1
  obtain ⟨e0, e1, e2, e3, e4, e5, e6, e7, e8⟩ := shape9 HS1.out 9 10 11 12 13 14 15 16 17 (.int .u32 3573751839) (.bool false) (.bool false) (.bool false) (.int .i64 0) (.int .i64 0) (.int .i64 0) (.int .i64 0) (.int .i64 0) (by decide) ⟨rfl, rfl, rfl, rfl, rfl, rfl, rfl, rfl, rfl⟩
  have k0 : x1.at.cell? ⟨w.heap.size, 0, none⟩ = some (.int .i64 1) := by rw [x1.cell _ (by simp)]; simp [World.cell?_alloc_new]
  have lt1 : w.heap.size < x1.at.heap.size := by have := x1.size; simp at this; omega
  obtain ⟨a0, a1, a2, a3, a4, a5⟩ := six_prev x1 (.cells #[.int .u32 3573751839, .bool false, .bool false, .bool false, .int .i64 0, .int .i64 0, .int .i64 0, .int .i64 0, .int .i64 0] 60)
  obtain ⟨b0, b1, b2, b3, b4, b5, b6, b7, b8⟩ := nine_new (x1.at) (.int .u32 3573751839) (.bool false) (.bool false) (.bool false) (.int .i64 0) (.int .i64 0) (.int .i64 0) (.int .i64 0) (.int .i64 0) 60 (x1.at.heap.size) rfl
  have KB := Lib.hid (fun (z : Wb (x1.at.alloc (.cells #[.int .u32 3573751839, .bool false, .bool false, .bool false, .int .i64 0, .int .i64 0, .int .i64 0, .int .i64 0, .int .i64 0] 60))) => (((((Below.refl _ _).alloc (Nat.le_refl _) _).trans (x1.bel.mono (by simp))).alloc (by omega) _).trans (z.bel.mono (by simp; omega)) : Below w.heap.size w z.at))
  go_upto_region 5 with fail
  obtain ⟨y0, hy⟩ : ∃ y : Wb (x1.at.alloc (.cells #[.int .u32 3573751839, .bool false, .bool false, .bool false, .int .i64 0, .int .i64 0, .int .i64 0, .int .i64 0, .int .i64 0] 60)), (x1.at.alloc (.cells #[.int .u32 3573751839, .bool false, .bool false, .bool false, .int .i64 0, .int .i64 0, .int .i64 0, .int .i64 0, .int .i64 0] 60)) = y.at := ⟨⟨_, Below.refl _ _⟩, rfl⟩
  rw [hy]
  clear hy
  go_wp2_with fail
  refine (named_no 1 _ _ _ _ _ _ rfl rfl).mono ?_
  rintro e w1 ⟨rfl, q1⟩
  obtain ⟨y3, rfl⟩ := Wb.next q1
  clear q1
  go_wp2
  go_ret2
  refine ⟨ret_t ?_, KB.out y3⟩
  rw [HW.out]
  go_light
  clear KB RI HS HS1 HW a0 a1 a2 a3 a4 a5 b0 b1 b2 b3 b4 b5 b6 b7 b8 e0 e1 e2 e3 e4 e5 e6 e7 e8 k0
  exact encw_1 HBD.out

theorem enc_bd_2 (d n imm : Int) (hr : GrI.right ⟨2, d, n, 0, imm, 0⟩) : 0 ≤ d ∧ d ≤ 31 ∧ 0 ≤ n ∧ n ≤ 31 ∧ 0 ≤ imm ∧ imm ≤ 32760 ∧ imm % 8 = 0 := by
  simp [GrI.right, GrI.parts, GrI.nums] at hr
  first | trivial | omega

set_option maxRecDepth 100000 in
set_option maxHeartbeats 6400000 in
theorem xenc_2 (d n imm : Int) (w : World) (hs : ShAt w) (hr : GrI.right ⟨2, d, n, 0, imm, 0⟩) :
    Calls Tryd.prog 21 #[.agg #[.int .i64 2, .int .i64 d, .int .i64 n, .int .i64 0, .int .i64 imm, .int .i64 0]] w fun e w' => e = .returned (.tuple #[.int .u32 (GrI.word ⟨2, d, n, 0, imm, 0⟩), .int .i64 0]) ∧ Below w.heap.size w w' := by
  have hb := enc_bd_2 d n imm hr
  have HBD := Lib.hid hb
  have RI := Lib.hid (fun w hs => xright_2 d n 0 imm 0 w hs (by omega) (by omega))
  rw [show GrI.code (decide (GrI.right ⟨2, d, n, 0, imm, 0⟩)) = 0 by simp [GrI.code, hr]] at RI
  clear hr
  have HS := Lib.hid hs
  clear hs
  obtain ⟨WW, hWW⟩ : ∃ WW, WW = GrI.word ⟨2, d, n, 0, imm, 0⟩ := ⟨_, rfl⟩
  rw [← hWW]
  have HW := Lib.hid hWW
  clear hWW
  go_enter Tryd.func21, Tryd.ntmps21
  go_wp2_with fail
  refine (RI.out _ (HS.out.alloc _)).mono ?_
  rintro e w1 ⟨rfl, b1⟩
  have HS1 := Lib.hid ((HS.out.alloc _).below b1)
  obtain ⟨x1, rfl⟩ := Wb.start b1
  clear b1
  obtain ⟨e0, e1, e2, e3, e4, e5, e6, e7, e8⟩ := shape9 HS1.out 18 19 20 21 22 23 24 25 26 (.int .u32 4181721088) (.bool true) (.bool true) (.bool false) (.int .i64 12) (.int .i64 10) (.int .i64 8) (.int .i64 0) (.int .i64 0) (by decide) ⟨rfl, rfl, rfl, rfl, rfl, rfl, rfl, rfl, rfl⟩
  have k0 : x1.at.cell? ⟨w.heap.size, 0, none⟩ = some (.int .i64 2) := by rw [x1.cell _ (by simp)]; simp [World.cell?_alloc_new]
  have lt1 : w.heap.size < x1.at.heap.size := by have := x1.size; simp at this; omega
  obtain ⟨a0, a1, a2, a3, a4, a5⟩ := six_prev x1 (.cells #[.int .u32 4181721088, .bool true, .bool true, .bool false, .int .i64 12, .int .i64 10, .int .i64 8, .int .i64 0, .int .i64 0] 60)
  obtain ⟨b0, b1, b2, b3, b4, b5, b6, b7, b8⟩ := nine_new (x1.at) (.int .u32 4181721088) (.bool true) (.bool true) (.bool false) (.int .i64 12) (.int .i64 10) (.int .i64 8) (.int .i64 0) (.int .i64 0) 60 (x1.at.heap.size) rfl
  have KB := Lib.hid (fun (z : Wb (x1.at.alloc (.cells #[.int .u32 4181721088, .bool true, .bool true, .bool false, .int .i64 12, .int .i64 10, .int .i64 8, .int .i64 0, .int .i64 0] 60))) => (((((Below.refl _ _).alloc (Nat.le_refl _) _).trans (x1.bel.mono (by simp))).alloc (by omega) _).trans (z.bel.mono (by simp; omega)) : Below w.heap.size w z.at))
  go_upto_region 5 with fail
  obtain ⟨y0, hy⟩ : ∃ y : Wb (x1.at.alloc (.cells #[.int .u32 4181721088, .bool true, .bool true, .bool false, .int .i64 12, .int .i64 10, .int .i64 8, .int .i64 0, .int .i64 0] 60)), (x1.at.alloc (.cells #[.int .u32 4181721088, .bool true, .bool true, .bool false, .int .i64 12, .int .i64 10, .int .i64 8, .int .i64 0, .int .i64 0] 60)) = y.at := ⟨⟨_, Below.refl _ _⟩, rfl⟩
  rw [hy]
  clear hy
  go_wp2_with fail
  have j4 : ∀ z : Wb y0.at, z.at.cell? ⟨w.heap.size, 4, none⟩ = some (.int .i64 imm) := y0.lift a4
  have f0 := y0.lift b0
  have f1 := y0.lift b1
  have f2 := y0.lift b2
  have f3 := y0.lift b3
  have f4 := y0.lift b4
  have f5 := y0.lift b5
  have f6 := y0.lift b6
  have f7 := y0.lift b7
  have f8 := y0.lift b8
  refine wp_region_wb (by kernel_rfl) (by kernel_rfl) ?_
  repeat (go_big_quiet_step (first | (go_at_call 43; exact Calls.wb (width_any _ _ _ _ _ _ _ _ _ 12 _ (by decide))) | (go_at_call 42; exact Calls.wb ((get_any _ _ _ _ (by first | omega | exact uw_lo _) (by first | omega | exact uw_hi _)).mono fun e w' h => ⟨h.1, h.2.below _⟩))))
  refine wpQuiet_nil ?_
  rintro _ ⟨y1, rfl⟩
  obtain ⟨y2, hy2⟩ := Wb.next (x := y0) y1.bel
  rw [hy2]
  go_wp2_with fail
  refine (named_no 2 _ _ _ _ _ _ rfl rfl).mono ?_
  rintro e w1 ⟨rfl, q1⟩
  obtain ⟨y3, rfl⟩ := Wb.next q1
  clear q1
  go_wp2
  go_ret2
  refine ⟨ret_t ?_, KB.out y3⟩
  rw [HW.out]
  go_light
  clear KB RI HS HS1 HW a0 a1 a2 a3 a4 a5 b0 b1 b2 b3 b4 b5 b6 b7 b8 e0 e1 e2 e3 e4 e5 e6 e7 e8 k0
  exact encw_2 d n imm HBD.out

theorem enc_bd_3 (d n imm : Int) (hr : GrI.right ⟨3, d, n, 0, imm, 0⟩) : 0 ≤ d ∧ d ≤ 31 ∧ 0 ≤ n ∧ n ≤ 31 ∧ 0 ≤ imm ∧ imm ≤ 32760 ∧ imm % 8 = 0 := by
  simp [GrI.right, GrI.parts, GrI.nums] at hr
  first | trivial | omega

set_option maxRecDepth 100000 in
set_option maxHeartbeats 6400000 in
theorem xenc_3 (d n imm : Int) (w : World) (hs : ShAt w) (hr : GrI.right ⟨3, d, n, 0, imm, 0⟩) :
    Calls Tryd.prog 21 #[.agg #[.int .i64 3, .int .i64 d, .int .i64 n, .int .i64 0, .int .i64 imm, .int .i64 0]] w fun e w' => e = .returned (.tuple #[.int .u32 (GrI.word ⟨3, d, n, 0, imm, 0⟩), .int .i64 0]) ∧ Below w.heap.size w w' := by
  have hb := enc_bd_3 d n imm hr
  have HBD := Lib.hid hb
  have RI := Lib.hid (fun w hs => xright_3 d n 0 imm 0 w hs (by omega) (by omega))
  rw [show GrI.code (decide (GrI.right ⟨3, d, n, 0, imm, 0⟩)) = 0 by simp [GrI.code, hr]] at RI
  clear hr
  have HS := Lib.hid hs
  clear hs
  obtain ⟨WW, hWW⟩ : ∃ WW, WW = GrI.word ⟨3, d, n, 0, imm, 0⟩ := ⟨_, rfl⟩
  rw [← hWW]
  have HW := Lib.hid hWW
  clear hWW
  go_enter Tryd.func21, Tryd.ntmps21
  go_wp2_with fail
  refine (RI.out _ (HS.out.alloc _)).mono ?_
  rintro e w1 ⟨rfl, b1⟩
  have HS1 := Lib.hid ((HS.out.alloc _).below b1)
  obtain ⟨x1, rfl⟩ := Wb.start b1
  clear b1
  obtain ⟨e0, e1, e2, e3, e4, e5, e6, e7, e8⟩ := shape9 HS1.out 27 28 29 30 31 32 33 34 35 (.int .u32 4177526784) (.bool true) (.bool true) (.bool false) (.int .i64 12) (.int .i64 10) (.int .i64 8) (.int .i64 0) (.int .i64 0) (by decide) ⟨rfl, rfl, rfl, rfl, rfl, rfl, rfl, rfl, rfl⟩
  have k0 : x1.at.cell? ⟨w.heap.size, 0, none⟩ = some (.int .i64 3) := by rw [x1.cell _ (by simp)]; simp [World.cell?_alloc_new]
  have lt1 : w.heap.size < x1.at.heap.size := by have := x1.size; simp at this; omega
  obtain ⟨a0, a1, a2, a3, a4, a5⟩ := six_prev x1 (.cells #[.int .u32 4177526784, .bool true, .bool true, .bool false, .int .i64 12, .int .i64 10, .int .i64 8, .int .i64 0, .int .i64 0] 60)
  obtain ⟨b0, b1, b2, b3, b4, b5, b6, b7, b8⟩ := nine_new (x1.at) (.int .u32 4177526784) (.bool true) (.bool true) (.bool false) (.int .i64 12) (.int .i64 10) (.int .i64 8) (.int .i64 0) (.int .i64 0) 60 (x1.at.heap.size) rfl
  have KB := Lib.hid (fun (z : Wb (x1.at.alloc (.cells #[.int .u32 4177526784, .bool true, .bool true, .bool false, .int .i64 12, .int .i64 10, .int .i64 8, .int .i64 0, .int .i64 0] 60))) => (((((Below.refl _ _).alloc (Nat.le_refl _) _).trans (x1.bel.mono (by simp))).alloc (by omega) _).trans (z.bel.mono (by simp; omega)) : Below w.heap.size w z.at))
  go_upto_region 5 with fail
  obtain ⟨y0, hy⟩ : ∃ y : Wb (x1.at.alloc (.cells #[.int .u32 4177526784, .bool true, .bool true, .bool false, .int .i64 12, .int .i64 10, .int .i64 8, .int .i64 0, .int .i64 0] 60)), (x1.at.alloc (.cells #[.int .u32 4177526784, .bool true, .bool true, .bool false, .int .i64 12, .int .i64 10, .int .i64 8, .int .i64 0, .int .i64 0] 60)) = y.at := ⟨⟨_, Below.refl _ _⟩, rfl⟩
  rw [hy]
  clear hy
  go_wp2_with fail
  have j4 : ∀ z : Wb y0.at, z.at.cell? ⟨w.heap.size, 4, none⟩ = some (.int .i64 imm) := y0.lift a4
  have f0 := y0.lift b0
  have f1 := y0.lift b1
  have f2 := y0.lift b2
  have f3 := y0.lift b3
  have f4 := y0.lift b4
  have f5 := y0.lift b5
  have f6 := y0.lift b6
  have f7 := y0.lift b7
  have f8 := y0.lift b8
  refine wp_region_wb (by kernel_rfl) (by kernel_rfl) ?_
  repeat (go_big_quiet_step (first | (go_at_call 43; exact Calls.wb (width_any _ _ _ _ _ _ _ _ _ 12 _ (by decide))) | (go_at_call 42; exact Calls.wb ((get_any _ _ _ _ (by first | omega | exact uw_lo _) (by first | omega | exact uw_hi _)).mono fun e w' h => ⟨h.1, h.2.below _⟩))))
  refine wpQuiet_nil ?_
  rintro _ ⟨y1, rfl⟩
  obtain ⟨y2, hy2⟩ := Wb.next (x := y0) y1.bel
  rw [hy2]
  go_wp2_with fail
  refine (named_no 3 _ _ _ _ _ _ rfl rfl).mono ?_
  rintro e w1 ⟨rfl, q1⟩
  obtain ⟨y3, rfl⟩ := Wb.next q1
  clear q1
  go_wp2
  go_ret2
  refine ⟨ret_t ?_, KB.out y3⟩
  rw [HW.out]
  go_light
  clear KB RI HS HS1 HW a0 a1 a2 a3 a4 a5 b0 b1 b2 b3 b4 b5 b6 b7 b8 e0 e1 e2 e3 e4 e5 e6 e7 e8 k0
  exact encw_3 d n imm HBD.out

theorem enc_bd_4 (d n : Int) (hr : GrI.right ⟨4, d, n, 0, 0, 0⟩) : 0 ≤ d ∧ d ≤ 31 ∧ 0 ≤ n ∧ n ≤ 31 := by
  simp [GrI.right, GrI.parts, GrI.nums] at hr
  first | trivial | omega

set_option maxRecDepth 100000 in
set_option maxHeartbeats 6400000 in
theorem xenc_4 (d n : Int) (w : World) (hs : ShAt w) (hr : GrI.right ⟨4, d, n, 0, 0, 0⟩) :
    Calls Tryd.prog 21 #[.agg #[.int .i64 4, .int .i64 d, .int .i64 n, .int .i64 0, .int .i64 0, .int .i64 0]] w fun e w' => e = .returned (.tuple #[.int .u32 (GrI.word ⟨4, d, n, 0, 0, 0⟩), .int .i64 0]) ∧ Below w.heap.size w w' := by
  have hb := enc_bd_4 d n hr
  have HBD := Lib.hid hb
  have RI := Lib.hid (fun w hs => xright_4 d n 0 0 0 w hs (by omega) (by omega))
  rw [show GrI.code (decide (GrI.right ⟨4, d, n, 0, 0, 0⟩)) = 0 by simp [GrI.code, hr]] at RI
  clear hr
  have HS := Lib.hid hs
  clear hs
  obtain ⟨WW, hWW⟩ : ∃ WW, WW = GrI.word ⟨4, d, n, 0, 0, 0⟩ := ⟨_, rfl⟩
  rw [← hWW]
  have HW := Lib.hid hWW
  clear hWW
  go_enter Tryd.func21, Tryd.ntmps21
  go_wp2_with fail
  refine (RI.out _ (HS.out.alloc _)).mono ?_
  rintro e w1 ⟨rfl, b1⟩
  have HS1 := Lib.hid ((HS.out.alloc _).below b1)
  obtain ⟨x1, rfl⟩ := Wb.start b1
  clear b1
  obtain ⟨e0, e1, e2, e3, e4, e5, e6, e7, e8⟩ := shape9 HS1.out 36 37 38 39 40 41 42 43 44 (.int .u32 3370122240) (.bool true) (.bool true) (.bool false) (.int .i64 0) (.int .i64 0) (.int .i64 0) (.int .i64 0) (.int .i64 0) (by decide) ⟨rfl, rfl, rfl, rfl, rfl, rfl, rfl, rfl, rfl⟩
  have k0 : x1.at.cell? ⟨w.heap.size, 0, none⟩ = some (.int .i64 4) := by rw [x1.cell _ (by simp)]; simp [World.cell?_alloc_new]
  have lt1 : w.heap.size < x1.at.heap.size := by have := x1.size; simp at this; omega
  obtain ⟨a0, a1, a2, a3, a4, a5⟩ := six_prev x1 (.cells #[.int .u32 3370122240, .bool true, .bool true, .bool false, .int .i64 0, .int .i64 0, .int .i64 0, .int .i64 0, .int .i64 0] 60)
  obtain ⟨b0, b1, b2, b3, b4, b5, b6, b7, b8⟩ := nine_new (x1.at) (.int .u32 3370122240) (.bool true) (.bool true) (.bool false) (.int .i64 0) (.int .i64 0) (.int .i64 0) (.int .i64 0) (.int .i64 0) 60 (x1.at.heap.size) rfl
  have KB := Lib.hid (fun (z : Wb (x1.at.alloc (.cells #[.int .u32 3370122240, .bool true, .bool true, .bool false, .int .i64 0, .int .i64 0, .int .i64 0, .int .i64 0, .int .i64 0] 60))) => (((((Below.refl _ _).alloc (Nat.le_refl _) _).trans (x1.bel.mono (by simp))).alloc (by omega) _).trans (z.bel.mono (by simp; omega)) : Below w.heap.size w z.at))
  go_upto_region 5 with fail
  obtain ⟨y0, hy⟩ : ∃ y : Wb (x1.at.alloc (.cells #[.int .u32 3370122240, .bool true, .bool true, .bool false, .int .i64 0, .int .i64 0, .int .i64 0, .int .i64 0, .int .i64 0] 60)), (x1.at.alloc (.cells #[.int .u32 3370122240, .bool true, .bool true, .bool false, .int .i64 0, .int .i64 0, .int .i64 0, .int .i64 0, .int .i64 0] 60)) = y.at := ⟨⟨_, Below.refl _ _⟩, rfl⟩
  rw [hy]
  clear hy
  go_wp2_with fail
  refine (named_no 4 _ _ _ _ _ _ rfl rfl).mono ?_
  rintro e w1 ⟨rfl, q1⟩
  obtain ⟨y3, rfl⟩ := Wb.next q1
  clear q1
  go_wp2
  go_ret2
  refine ⟨ret_t ?_, KB.out y3⟩
  rw [HW.out]
  go_light
  clear KB RI HS HS1 HW a0 a1 a2 a3 a4 a5 b0 b1 b2 b3 b4 b5 b6 b7 b8 e0 e1 e2 e3 e4 e5 e6 e7 e8 k0
  exact encw_4 d n HBD.out

theorem enc_bd_5 (d n : Int) (hr : GrI.right ⟨5, d, n, 0, 0, 0⟩) : 0 ≤ d ∧ d ≤ 31 ∧ 0 ≤ n ∧ n ≤ 31 := by
  simp [GrI.right, GrI.parts, GrI.nums] at hr
  first | trivial | omega

set_option maxRecDepth 100000 in
set_option maxHeartbeats 6400000 in
theorem xenc_5 (d n : Int) (w : World) (hs : ShAt w) (hr : GrI.right ⟨5, d, n, 0, 0, 0⟩) :
    Calls Tryd.prog 21 #[.agg #[.int .i64 5, .int .i64 d, .int .i64 n, .int .i64 0, .int .i64 0, .int .i64 0]] w fun e w' => e = .returned (.tuple #[.int .u32 (GrI.word ⟨5, d, n, 0, 0, 0⟩), .int .i64 0]) ∧ Below w.heap.size w w' := by
  have hb := enc_bd_5 d n hr
  have HBD := Lib.hid hb
  have RI := Lib.hid (fun w hs => xright_5 d n 0 0 0 w hs (by omega) (by omega))
  rw [show GrI.code (decide (GrI.right ⟨5, d, n, 0, 0, 0⟩)) = 0 by simp [GrI.code, hr]] at RI
  clear hr
  have HS := Lib.hid hs
  clear hs
  obtain ⟨WW, hWW⟩ : ∃ WW, WW = GrI.word ⟨5, d, n, 0, 0, 0⟩ := ⟨_, rfl⟩
  rw [← hWW]
  have HW := Lib.hid hWW
  clear hWW
  go_enter Tryd.func21, Tryd.ntmps21
  go_wp2_with fail
  refine (RI.out _ (HS.out.alloc _)).mono ?_
  rintro e w1 ⟨rfl, b1⟩
  have HS1 := Lib.hid ((HS.out.alloc _).below b1)
  obtain ⟨x1, rfl⟩ := Wb.start b1
  clear b1
  obtain ⟨e0, e1, e2, e3, e4, e5, e6, e7, e8⟩ := shape9 HS1.out 45 46 47 48 49 50 51 52 53 (.int .u32 3365927936) (.bool true) (.bool true) (.bool false) (.int .i64 0) (.int .i64 0) (.int .i64 0) (.int .i64 0) (.int .i64 0) (by decide) ⟨rfl, rfl, rfl, rfl, rfl, rfl, rfl, rfl, rfl⟩
  have k0 : x1.at.cell? ⟨w.heap.size, 0, none⟩ = some (.int .i64 5) := by rw [x1.cell _ (by simp)]; simp [World.cell?_alloc_new]
  have lt1 : w.heap.size < x1.at.heap.size := by have := x1.size; simp at this; omega
  obtain ⟨a0, a1, a2, a3, a4, a5⟩ := six_prev x1 (.cells #[.int .u32 3365927936, .bool true, .bool true, .bool false, .int .i64 0, .int .i64 0, .int .i64 0, .int .i64 0, .int .i64 0] 60)
  obtain ⟨b0, b1, b2, b3, b4, b5, b6, b7, b8⟩ := nine_new (x1.at) (.int .u32 3365927936) (.bool true) (.bool true) (.bool false) (.int .i64 0) (.int .i64 0) (.int .i64 0) (.int .i64 0) (.int .i64 0) 60 (x1.at.heap.size) rfl
  have KB := Lib.hid (fun (z : Wb (x1.at.alloc (.cells #[.int .u32 3365927936, .bool true, .bool true, .bool false, .int .i64 0, .int .i64 0, .int .i64 0, .int .i64 0, .int .i64 0] 60))) => (((((Below.refl _ _).alloc (Nat.le_refl _) _).trans (x1.bel.mono (by simp))).alloc (by omega) _).trans (z.bel.mono (by simp; omega)) : Below w.heap.size w z.at))
  go_upto_region 5 with fail
  obtain ⟨y0, hy⟩ : ∃ y : Wb (x1.at.alloc (.cells #[.int .u32 3365927936, .bool true, .bool true, .bool false, .int .i64 0, .int .i64 0, .int .i64 0, .int .i64 0, .int .i64 0] 60)), (x1.at.alloc (.cells #[.int .u32 3365927936, .bool true, .bool true, .bool false, .int .i64 0, .int .i64 0, .int .i64 0, .int .i64 0, .int .i64 0] 60)) = y.at := ⟨⟨_, Below.refl _ _⟩, rfl⟩
  rw [hy]
  clear hy
  go_wp2_with fail
  refine (named_no 5 _ _ _ _ _ _ rfl rfl).mono ?_
  rintro e w1 ⟨rfl, q1⟩
  obtain ⟨y3, rfl⟩ := Wb.next q1
  clear q1
  go_wp2
  go_ret2
  refine ⟨ret_t ?_, KB.out y3⟩
  rw [HW.out]
  go_light
  clear KB RI HS HS1 HW a0 a1 a2 a3 a4 a5 b0 b1 b2 b3 b4 b5 b6 b7 b8 e0 e1 e2 e3 e4 e5 e6 e7 e8 k0
  exact encw_5 d n HBD.out

theorem enc_bd_6 (d imm kind : Int) (hr : GrI.right ⟨6, d, 0, 0, imm, kind⟩) : 0 ≤ d ∧ d ≤ 31 ∧ 0 ≤ imm ∧ imm ≤ 65535 ∧ 0 ≤ kind ∧ kind ≤ 3 := by
  simp [GrI.right, GrI.parts, GrI.nums] at hr
  first | trivial | omega

set_option maxRecDepth 100000 in
set_option maxHeartbeats 6400000 in
theorem xenc_6 (d imm kind : Int) (w : World) (hs : ShAt w) (hr : GrI.right ⟨6, d, 0, 0, imm, kind⟩) :
    Calls Tryd.prog 21 #[.agg #[.int .i64 6, .int .i64 d, .int .i64 0, .int .i64 0, .int .i64 imm, .int .i64 kind]] w fun e w' => e = .returned (.tuple #[.int .u32 (GrI.word ⟨6, d, 0, 0, imm, kind⟩), .int .i64 0]) ∧ Below w.heap.size w w' := by
  have hb := enc_bd_6 d imm kind hr
  have HBD := Lib.hid hb
  have RI := Lib.hid (fun w hs => xright_6 d 0 0 imm kind w hs (by omega) (by omega))
  rw [show GrI.code (decide (GrI.right ⟨6, d, 0, 0, imm, kind⟩)) = 0 by simp [GrI.code, hr]] at RI
  clear hr
  have HS := Lib.hid hs
  clear hs
  obtain ⟨WW, hWW⟩ : ∃ WW, WW = GrI.word ⟨6, d, 0, 0, imm, kind⟩ := ⟨_, rfl⟩
  rw [← hWW]
  have HW := Lib.hid hWW
  clear hWW
  go_enter Tryd.func21, Tryd.ntmps21
  go_wp2_with fail
  refine (RI.out _ (HS.out.alloc _)).mono ?_
  rintro e w1 ⟨rfl, b1⟩
  have HS1 := Lib.hid ((HS.out.alloc _).below b1)
  obtain ⟨x1, rfl⟩ := Wb.start b1
  clear b1
  obtain ⟨e0, e1, e2, e3, e4, e5, e6, e7, e8⟩ := shape9 HS1.out 54 55 56 57 58 59 60 61 62 (.int .u32 3531603968) (.bool true) (.bool false) (.bool false) (.int .i64 16) (.int .i64 5) (.int .i64 1) (.int .i64 4) (.int .i64 21) (by decide) ⟨rfl, rfl, rfl, rfl, rfl, rfl, rfl, rfl, rfl⟩
  have k0 : x1.at.cell? ⟨w.heap.size, 0, none⟩ = some (.int .i64 6) := by rw [x1.cell _ (by simp)]; simp [World.cell?_alloc_new]
  have lt1 : w.heap.size < x1.at.heap.size := by have := x1.size; simp at this; omega
  obtain ⟨a0, a1, a2, a3, a4, a5⟩ := six_prev x1 (.cells #[.int .u32 3531603968, .bool true, .bool false, .bool false, .int .i64 16, .int .i64 5, .int .i64 1, .int .i64 4, .int .i64 21] 60)
  obtain ⟨b0, b1, b2, b3, b4, b5, b6, b7, b8⟩ := nine_new (x1.at) (.int .u32 3531603968) (.bool true) (.bool false) (.bool false) (.int .i64 16) (.int .i64 5) (.int .i64 1) (.int .i64 4) (.int .i64 21) 60 (x1.at.heap.size) rfl
  have KB := Lib.hid (fun (z : Wb (x1.at.alloc (.cells #[.int .u32 3531603968, .bool true, .bool false, .bool false, .int .i64 16, .int .i64 5, .int .i64 1, .int .i64 4, .int .i64 21] 60))) => (((((Below.refl _ _).alloc (Nat.le_refl _) _).trans (x1.bel.mono (by simp))).alloc (by omega) _).trans (z.bel.mono (by simp; omega)) : Below w.heap.size w z.at))
  go_upto_region 5 with fail
  obtain ⟨y0, hy⟩ : ∃ y : Wb (x1.at.alloc (.cells #[.int .u32 3531603968, .bool true, .bool false, .bool false, .int .i64 16, .int .i64 5, .int .i64 1, .int .i64 4, .int .i64 21] 60)), (x1.at.alloc (.cells #[.int .u32 3531603968, .bool true, .bool false, .bool false, .int .i64 16, .int .i64 5, .int .i64 1, .int .i64 4, .int .i64 21] 60)) = y.at := ⟨⟨_, Below.refl _ _⟩, rfl⟩
  rw [hy]
  clear hy
  go_wp2_with fail
  have j4 : ∀ z : Wb y0.at, z.at.cell? ⟨w.heap.size, 4, none⟩ = some (.int .i64 imm) := y0.lift a4
  have f0 := y0.lift b0
  have f1 := y0.lift b1
  have f2 := y0.lift b2
  have f3 := y0.lift b3
  have f4 := y0.lift b4
  have f5 := y0.lift b5
  have f6 := y0.lift b6
  have f7 := y0.lift b7
  have f8 := y0.lift b8
  refine wp_region_wb (by kernel_rfl) (by kernel_rfl) ?_
  repeat (go_big_quiet_step (first | (go_at_call 43; exact Calls.wb (width_any _ _ _ _ _ _ _ _ _ 16 _ (by decide))) | (go_at_call 42; exact Calls.wb ((get_any _ _ _ _ (by first | omega | exact uw_lo _) (by first | omega | exact uw_hi _)).mono fun e w' h => ⟨h.1, h.2.below _⟩))))
  refine wpQuiet_nil ?_
  rintro _ ⟨y1, rfl⟩
  obtain ⟨y2, hy2⟩ := Wb.next (x := y0) y1.bel
  rw [hy2]
  go_wp2_with fail
  refine (named_no 6 _ _ _ _ _ _ rfl rfl).mono ?_
  rintro e w1 ⟨rfl, q1⟩
  obtain ⟨y3, rfl⟩ := Wb.next q1
  clear q1
  go_wp2
  go_ret2
  refine ⟨ret_t ?_, KB.out y3⟩
  rw [HW.out]
  go_light
  clear KB RI HS HS1 HW a0 a1 a2 a3 a4 a5 b0 b1 b2 b3 b4 b5 b6 b7 b8 e0 e1 e2 e3 e4 e5 e6 e7 e8 k0
  exact encw_6 d imm kind HBD.out

end Go.Proofs.YtebpmngllljkaaaDoor

namespace Go.Proofs.YtebpmngllljkaaaDoor
open Go.RowKit

theorem enc_bd_7 (d n imm : Int) (hr : GrI.right ⟨7, d, n, 0, imm, 0⟩) : 0 ≤ d ∧ d ≤ 31 ∧ 0 ≤ n ∧ n ≤ 31 ∧ 0 ≤ imm ∧ imm ≤ 4095 := by
  simp [GrI.right, GrI.parts, GrI.nums] at hr
  first | trivial | omega

set_option maxRecDepth 100000 in
set_option maxHeartbeats 6400000 in
theorem xenc_7 (d n imm : Int) (w : World) (hs : ShAt w) (hr : GrI.right ⟨7, d, n, 0, imm, 0⟩) :
    Calls Tryd.prog 21 #[.agg #[.int .i64 7, .int .i64 d, .int .i64 n, .int .i64 0, .int .i64 imm, .int .i64 0]] w fun e w' => e = .returned (.tuple #[.int .u32 (GrI.word ⟨7, d, n, 0, imm, 0⟩), .int .i64 0]) ∧ Below w.heap.size w w' := by
  have hb := enc_bd_7 d n imm hr
  have HBD := Lib.hid hb
  have RI := Lib.hid (fun w hs => xright_7 d n 0 imm 0 w hs (by omega) (by omega))
  rw [show GrI.code (decide (GrI.right ⟨7, d, n, 0, imm, 0⟩)) = 0 by simp [GrI.code, hr]] at RI
  clear hr
  have HS := Lib.hid hs
  clear hs
  obtain ⟨WW, hWW⟩ : ∃ WW, WW = GrI.word ⟨7, d, n, 0, imm, 0⟩ := ⟨_, rfl⟩
  rw [← hWW]
  have HW := Lib.hid hWW
  clear hWW
  go_enter Tryd.func21, Tryd.ntmps21
  go_wp2_with fail
  refine (RI.out _ (HS.out.alloc _)).mono ?_
  rintro e w1 ⟨rfl, b1⟩
  have HS1 := Lib.hid ((HS.out.alloc _).below b1)
  obtain ⟨x1, rfl⟩ := Wb.start b1
  clear b1
  obtain ⟨e0, e1, e2, e3, e4, e5, e6, e7, e8⟩ := shape9 HS1.out 63 64 65 66 67 68 69 70 71 (.int .u32 2432696320) (.bool true) (.bool true) (.bool false) (.int .i64 12) (.int .i64 10) (.int .i64 1) (.int .i64 0) (.int .i64 0) (by decide) ⟨rfl, rfl, rfl, rfl, rfl, rfl, rfl, rfl, rfl⟩
  have k0 : x1.at.cell? ⟨w.heap.size, 0, none⟩ = some (.int .i64 7) := by rw [x1.cell _ (by simp)]; simp [World.cell?_alloc_new]
  have lt1 : w.heap.size < x1.at.heap.size := by have := x1.size; simp at this; omega
  obtain ⟨a0, a1, a2, a3, a4, a5⟩ := six_prev x1 (.cells #[.int .u32 2432696320, .bool true, .bool true, .bool false, .int .i64 12, .int .i64 10, .int .i64 1, .int .i64 0, .int .i64 0] 60)
  obtain ⟨b0, b1, b2, b3, b4, b5, b6, b7, b8⟩ := nine_new (x1.at) (.int .u32 2432696320) (.bool true) (.bool true) (.bool false) (.int .i64 12) (.int .i64 10) (.int .i64 1) (.int .i64 0) (.int .i64 0) 60 (x1.at.heap.size) rfl
  have KB := Lib.hid (fun (z : Wb (x1.at.alloc (.cells #[.int .u32 2432696320, .bool true, .bool true, .bool false, .int .i64 12, .int .i64 10, .int .i64 1, .int .i64 0, .int .i64 0] 60))) => (((((Below.refl _ _).alloc (Nat.le_refl _) _).trans (x1.bel.mono (by simp))).alloc (by omega) _).trans (z.bel.mono (by simp; omega)) : Below w.heap.size w z.at))
  go_upto_region 5 with fail
  obtain ⟨y0, hy⟩ : ∃ y : Wb (x1.at.alloc (.cells #[.int .u32 2432696320, .bool true, .bool true, .bool false, .int .i64 12, .int .i64 10, .int .i64 1, .int .i64 0, .int .i64 0] 60)), (x1.at.alloc (.cells #[.int .u32 2432696320, .bool true, .bool true, .bool false, .int .i64 12, .int .i64 10, .int .i64 1, .int .i64 0, .int .i64 0] 60)) = y.at := ⟨⟨_, Below.refl _ _⟩, rfl⟩
  rw [hy]
  clear hy
  go_wp2_with fail
  have j4 : ∀ z : Wb y0.at, z.at.cell? ⟨w.heap.size, 4, none⟩ = some (.int .i64 imm) := y0.lift a4
  have f0 := y0.lift b0
  have f1 := y0.lift b1
  have f2 := y0.lift b2
  have f3 := y0.lift b3
  have f4 := y0.lift b4
  have f5 := y0.lift b5
  have f6 := y0.lift b6
  have f7 := y0.lift b7
  have f8 := y0.lift b8
  refine wp_region_wb (by kernel_rfl) (by kernel_rfl) ?_
  repeat (go_big_quiet_step (first | (go_at_call 43; exact Calls.wb (width_any _ _ _ _ _ _ _ _ _ 12 _ (by decide))) | (go_at_call 42; exact Calls.wb ((get_any _ _ _ _ (by first | omega | exact uw_lo _) (by first | omega | exact uw_hi _)).mono fun e w' h => ⟨h.1, h.2.below _⟩))))
  refine wpQuiet_nil ?_
  rintro _ ⟨y1, rfl⟩
  obtain ⟨y2, hy2⟩ := Wb.next (x := y0) y1.bel
  rw [hy2]
  go_wp2_with fail
  refine (named_no 7 _ _ _ _ _ _ rfl rfl).mono ?_
  rintro e w1 ⟨rfl, q1⟩
  obtain ⟨y3, rfl⟩ := Wb.next q1
  clear q1
  go_wp2
  go_ret2
  refine ⟨ret_t ?_, KB.out y3⟩
  rw [HW.out]
  go_light
  clear KB RI HS HS1 HW a0 a1 a2 a3 a4 a5 b0 b1 b2 b3 b4 b5 b6 b7 b8 e0 e1 e2 e3 e4 e5 e6 e7 e8 k0
  exact encw_7 d n imm HBD.out

theorem enc_bd_8 (d n m : Int) (hr : GrI.right ⟨8, d, n, m, 0, 0⟩) : 0 ≤ d ∧ d ≤ 31 ∧ 0 ≤ n ∧ n ≤ 31 ∧ 0 ≤ m ∧ m ≤ 31 := by
  simp [GrI.right, GrI.parts, GrI.nums] at hr
  first | trivial | omega

set_option maxRecDepth 100000 in
set_option maxHeartbeats 6400000 in
theorem xenc_8 (d n m : Int) (w : World) (hs : ShAt w) (hr : GrI.right ⟨8, d, n, m, 0, 0⟩) :
    Calls Tryd.prog 21 #[.agg #[.int .i64 8, .int .i64 d, .int .i64 n, .int .i64 m, .int .i64 0, .int .i64 0]] w fun e w' => e = .returned (.tuple #[.int .u32 (GrI.word ⟨8, d, n, m, 0, 0⟩), .int .i64 0]) ∧ Below w.heap.size w w' := by
  have hb := enc_bd_8 d n m hr
  have HBD := Lib.hid hb
  have RI := Lib.hid (fun w hs => xright_8 d n m 0 0 w hs (by omega) (by omega))
  rw [show GrI.code (decide (GrI.right ⟨8, d, n, m, 0, 0⟩)) = 0 by simp [GrI.code, hr]] at RI
  clear hr
  have HS := Lib.hid hs
  clear hs
  obtain ⟨WW, hWW⟩ : ∃ WW, WW = GrI.word ⟨8, d, n, m, 0, 0⟩ := ⟨_, rfl⟩
  rw [← hWW]
  have HW := Lib.hid hWW
  clear hWW
  go_enter Tryd.func21, Tryd.ntmps21
  go_wp2_with fail
  refine (RI.out _ (HS.out.alloc _)).mono ?_
  rintro e w1 ⟨rfl, b1⟩
  have HS1 := Lib.hid ((HS.out.alloc _).below b1)
  obtain ⟨x1, rfl⟩ := Wb.start b1
  clear b1
  obtain ⟨e0, e1, e2, e3, e4, e5, e6, e7, e8⟩ := shape9 HS1.out 72 73 74 75 76 77 78 79 80 (.int .u32 2332033024) (.bool true) (.bool true) (.bool true) (.int .i64 0) (.int .i64 0) (.int .i64 0) (.int .i64 0) (.int .i64 0) (by decide) ⟨rfl, rfl, rfl, rfl, rfl, rfl, rfl, rfl, rfl⟩
  have k0 : x1.at.cell? ⟨w.heap.size, 0, none⟩ = some (.int .i64 8) := by rw [x1.cell _ (by simp)]; simp [World.cell?_alloc_new]
  have lt1 : w.heap.size < x1.at.heap.size := by have := x1.size; simp at this; omega
  obtain ⟨a0, a1, a2, a3, a4, a5⟩ := six_prev x1 (.cells #[.int .u32 2332033024, .bool true, .bool true, .bool true, .int .i64 0, .int .i64 0, .int .i64 0, .int .i64 0, .int .i64 0] 60)
  obtain ⟨b0, b1, b2, b3, b4, b5, b6, b7, b8⟩ := nine_new (x1.at) (.int .u32 2332033024) (.bool true) (.bool true) (.bool true) (.int .i64 0) (.int .i64 0) (.int .i64 0) (.int .i64 0) (.int .i64 0) 60 (x1.at.heap.size) rfl
  have KB := Lib.hid (fun (z : Wb (x1.at.alloc (.cells #[.int .u32 2332033024, .bool true, .bool true, .bool true, .int .i64 0, .int .i64 0, .int .i64 0, .int .i64 0, .int .i64 0] 60))) => (((((Below.refl _ _).alloc (Nat.le_refl _) _).trans (x1.bel.mono (by simp))).alloc (by omega) _).trans (z.bel.mono (by simp; omega)) : Below w.heap.size w z.at))
  go_upto_region 5 with fail
  obtain ⟨y0, hy⟩ : ∃ y : Wb (x1.at.alloc (.cells #[.int .u32 2332033024, .bool true, .bool true, .bool true, .int .i64 0, .int .i64 0, .int .i64 0, .int .i64 0, .int .i64 0] 60)), (x1.at.alloc (.cells #[.int .u32 2332033024, .bool true, .bool true, .bool true, .int .i64 0, .int .i64 0, .int .i64 0, .int .i64 0, .int .i64 0] 60)) = y.at := ⟨⟨_, Below.refl _ _⟩, rfl⟩
  rw [hy]
  clear hy
  go_wp2_with fail
  refine (named_no 8 _ _ _ _ _ _ rfl rfl).mono ?_
  rintro e w1 ⟨rfl, q1⟩
  obtain ⟨y3, rfl⟩ := Wb.next q1
  clear q1
  go_wp2
  go_ret2
  refine ⟨ret_t ?_, KB.out y3⟩
  rw [HW.out]
  go_light
  clear KB RI HS HS1 HW a0 a1 a2 a3 a4 a5 b0 b1 b2 b3 b4 b5 b6 b7 b8 e0 e1 e2 e3 e4 e5 e6 e7 e8 k0
  exact encw_8 d n m HBD.out

theorem enc_bd_9 (d n m : Int) (hr : GrI.right ⟨9, d, n, m, 0, 0⟩) : 0 ≤ d ∧ d ≤ 31 ∧ 0 ≤ n ∧ n ≤ 31 ∧ 0 ≤ m ∧ m ≤ 31 := by
  simp [GrI.right, GrI.parts, GrI.nums] at hr
  first | trivial | omega

set_option maxRecDepth 100000 in
set_option maxHeartbeats 6400000 in
theorem xenc_9 (d n m : Int) (w : World) (hs : ShAt w) (hr : GrI.right ⟨9, d, n, m, 0, 0⟩) :
    Calls Tryd.prog 21 #[.agg #[.int .i64 9, .int .i64 d, .int .i64 n, .int .i64 m, .int .i64 0, .int .i64 0]] w fun e w' => e = .returned (.tuple #[.int .u32 (GrI.word ⟨9, d, n, m, 0, 0⟩), .int .i64 0]) ∧ Below w.heap.size w w' := by
  have hb := enc_bd_9 d n m hr
  have HBD := Lib.hid hb
  have RI := Lib.hid (fun w hs => xright_9 d n m 0 0 w hs (by omega) (by omega))
  rw [show GrI.code (decide (GrI.right ⟨9, d, n, m, 0, 0⟩)) = 0 by simp [GrI.code, hr]] at RI
  clear hr
  have HS := Lib.hid hs
  clear hs
  obtain ⟨WW, hWW⟩ : ∃ WW, WW = GrI.word ⟨9, d, n, m, 0, 0⟩ := ⟨_, rfl⟩
  rw [← hWW]
  have HW := Lib.hid hWW
  clear hWW
  go_enter Tryd.func21, Tryd.ntmps21
  go_wp2_with fail
  refine (RI.out _ (HS.out.alloc _)).mono ?_
  rintro e w1 ⟨rfl, b1⟩
  have HS1 := Lib.hid ((HS.out.alloc _).below b1)
  obtain ⟨x1, rfl⟩ := Wb.start b1
  clear b1
  obtain ⟨e0, e1, e2, e3, e4, e5, e6, e7, e8⟩ := shape9 HS1.out 81 82 83 84 85 86 87 88 89 (.int .u32 3405774848) (.bool true) (.bool true) (.bool true) (.int .i64 0) (.int .i64 0) (.int .i64 0) (.int .i64 0) (.int .i64 0) (by decide) ⟨rfl, rfl, rfl, rfl, rfl, rfl, rfl, rfl, rfl⟩
  have k0 : x1.at.cell? ⟨w.heap.size, 0, none⟩ = some (.int .i64 9) := by rw [x1.cell _ (by simp)]; simp [World.cell?_alloc_new]
  have lt1 : w.heap.size < x1.at.heap.size := by have := x1.size; simp at this; omega
  obtain ⟨a0, a1, a2, a3, a4, a5⟩ := six_prev x1 (.cells #[.int .u32 3405774848, .bool true, .bool true, .bool true, .int .i64 0, .int .i64 0, .int .i64 0, .int .i64 0, .int .i64 0] 60)
  obtain ⟨b0, b1, b2, b3, b4, b5, b6, b7, b8⟩ := nine_new (x1.at) (.int .u32 3405774848) (.bool true) (.bool true) (.bool true) (.int .i64 0) (.int .i64 0) (.int .i64 0) (.int .i64 0) (.int .i64 0) 60 (x1.at.heap.size) rfl
  have KB := Lib.hid (fun (z : Wb (x1.at.alloc (.cells #[.int .u32 3405774848, .bool true, .bool true, .bool true, .int .i64 0, .int .i64 0, .int .i64 0, .int .i64 0, .int .i64 0] 60))) => (((((Below.refl _ _).alloc (Nat.le_refl _) _).trans (x1.bel.mono (by simp))).alloc (by omega) _).trans (z.bel.mono (by simp; omega)) : Below w.heap.size w z.at))
  go_upto_region 5 with fail
  obtain ⟨y0, hy⟩ : ∃ y : Wb (x1.at.alloc (.cells #[.int .u32 3405774848, .bool true, .bool true, .bool true, .int .i64 0, .int .i64 0, .int .i64 0, .int .i64 0, .int .i64 0] 60)), (x1.at.alloc (.cells #[.int .u32 3405774848, .bool true, .bool true, .bool true, .int .i64 0, .int .i64 0, .int .i64 0, .int .i64 0, .int .i64 0] 60)) = y.at := ⟨⟨_, Below.refl _ _⟩, rfl⟩
  rw [hy]
  clear hy
  go_wp2_with fail
  refine (named_no 9 _ _ _ _ _ _ rfl rfl).mono ?_
  rintro e w1 ⟨rfl, q1⟩
  obtain ⟨y3, rfl⟩ := Wb.next q1
  clear q1
  go_wp2
  go_ret2
  refine ⟨ret_t ?_, KB.out y3⟩
  rw [HW.out]
  go_light
  clear KB RI HS HS1 HW a0 a1 a2 a3 a4 a5 b0 b1 b2 b3 b4 b5 b6 b7 b8 e0 e1 e2 e3 e4 e5 e6 e7 e8 k0
  exact encw_9 d n m HBD.out

theorem enc_bd_10 (d n m : Int) (hr : GrI.right ⟨10, d, n, m, 0, 0⟩) : 0 ≤ d ∧ d ≤ 31 ∧ 0 ≤ n ∧ n ≤ 31 ∧ 0 ≤ m ∧ m ≤ 31 := by
  simp [GrI.right, GrI.parts, GrI.nums] at hr
  first | trivial | omega

set_option maxRecDepth 100000 in
set_option maxHeartbeats 6400000 in
theorem xenc_10 (d n m : Int) (w : World) (hs : ShAt w) (hr : GrI.right ⟨10, d, n, m, 0, 0⟩) :
    Calls Tryd.prog 21 #[.agg #[.int .i64 10, .int .i64 d, .int .i64 n, .int .i64 m, .int .i64 0, .int .i64 0]] w fun e w' => e = .returned (.tuple #[.int .u32 (GrI.word ⟨10, d, n, m, 0, 0⟩), .int .i64 0]) ∧ Below w.heap.size w w' := by
  have hb := enc_bd_10 d n m hr
  have HBD := Lib.hid hb
  have RI := Lib.hid (fun w hs => xright_10 d n m 0 0 w hs (by omega) (by omega))
  rw [show GrI.code (decide (GrI.right ⟨10, d, n, m, 0, 0⟩)) = 0 by simp [GrI.code, hr]] at RI
  clear hr
  have HS := Lib.hid hs
  clear hs
  obtain ⟨WW, hWW⟩ : ∃ WW, WW = GrI.word ⟨10, d, n, m, 0, 0⟩ := ⟨_, rfl⟩
  rw [← hWW]
  have HW := Lib.hid hWW
  clear hWW
  go_enter Tryd.func21, Tryd.ntmps21
  go_wp2_with fail
  refine (RI.out _ (HS.out.alloc _)).mono ?_
  rintro e w1 ⟨rfl, b1⟩
  have HS1 := Lib.hid ((HS.out.alloc _).below b1)
  obtain ⟨x1, rfl⟩ := Wb.start b1
  clear b1
  obtain ⟨e0, e1, e2, e3, e4, e5, e6, e7, e8⟩ := shape9 HS1.out 90 91 92 93 94 95 96 97 98 (.int .u32 2315255808) (.bool true) (.bool true) (.bool true) (.int .i64 0) (.int .i64 0) (.int .i64 0) (.int .i64 0) (.int .i64 0) (by decide) ⟨rfl, rfl, rfl, rfl, rfl, rfl, rfl, rfl, rfl⟩
  have k0 : x1.at.cell? ⟨w.heap.size, 0, none⟩ = some (.int .i64 10) := by rw [x1.cell _ (by simp)]; simp [World.cell?_alloc_new]
  have lt1 : w.heap.size < x1.at.heap.size := by have := x1.size; simp at this; omega
  obtain ⟨a0, a1, a2, a3, a4, a5⟩ := six_prev x1 (.cells #[.int .u32 2315255808, .bool true, .bool true, .bool true, .int .i64 0, .int .i64 0, .int .i64 0, .int .i64 0, .int .i64 0] 60)
  obtain ⟨b0, b1, b2, b3, b4, b5, b6, b7, b8⟩ := nine_new (x1.at) (.int .u32 2315255808) (.bool true) (.bool true) (.bool true) (.int .i64 0) (.int .i64 0) (.int .i64 0) (.int .i64 0) (.int .i64 0) 60 (x1.at.heap.size) rfl
  have KB := Lib.hid (fun (z : Wb (x1.at.alloc (.cells #[.int .u32 2315255808, .bool true, .bool true, .bool true, .int .i64 0, .int .i64 0, .int .i64 0, .int .i64 0, .int .i64 0] 60))) => (((((Below.refl _ _).alloc (Nat.le_refl _) _).trans (x1.bel.mono (by simp))).alloc (by omega) _).trans (z.bel.mono (by simp; omega)) : Below w.heap.size w z.at))
  go_upto_region 5 with fail
  obtain ⟨y0, hy⟩ : ∃ y : Wb (x1.at.alloc (.cells #[.int .u32 2315255808, .bool true, .bool true, .bool true, .int .i64 0, .int .i64 0, .int .i64 0, .int .i64 0, .int .i64 0] 60)), (x1.at.alloc (.cells #[.int .u32 2315255808, .bool true, .bool true, .bool true, .int .i64 0, .int .i64 0, .int .i64 0, .int .i64 0, .int .i64 0] 60)) = y.at := ⟨⟨_, Below.refl _ _⟩, rfl⟩
  rw [hy]
  clear hy
  go_wp2_with fail
  refine (named_no 10 _ _ _ _ _ _ rfl rfl).mono ?_
  rintro e w1 ⟨rfl, q1⟩
  obtain ⟨y3, rfl⟩ := Wb.next q1
  clear q1
  go_wp2
  go_ret2
  refine ⟨ret_t ?_, KB.out y3⟩
  rw [HW.out]
  go_light
  clear KB RI HS HS1 HW a0 a1 a2 a3 a4 a5 b0 b1 b2 b3 b4 b5 b6 b7 b8 e0 e1 e2 e3 e4 e5 e6 e7 e8 k0
  exact encw_10 d n m HBD.out

theorem enc_bd_11 (d n m : Int) (hr : GrI.right ⟨11, d, n, m, 0, 0⟩) : 0 ≤ d ∧ d ≤ 31 ∧ 0 ≤ n ∧ n ≤ 31 ∧ 0 ≤ m ∧ m ≤ 31 := by
  simp [GrI.right, GrI.parts, GrI.nums] at hr
  first | trivial | omega

set_option maxRecDepth 100000 in
set_option maxHeartbeats 6400000 in
theorem xenc_11 (d n m : Int) (w : World) (hs : ShAt w) (hr : GrI.right ⟨11, d, n, m, 0, 0⟩) :
    Calls Tryd.prog 21 #[.agg #[.int .i64 11, .int .i64 d, .int .i64 n, .int .i64 m, .int .i64 0, .int .i64 0]] w fun e w' => e = .returned (.tuple #[.int .u32 (GrI.word ⟨11, d, n, m, 0, 0⟩), .int .i64 0]) ∧ Below w.heap.size w w' := by
  have hb := enc_bd_11 d n m hr
  have HBD := Lib.hid hb
  have RI := Lib.hid (fun w hs => xright_11 d n m 0 0 w hs (by omega) (by omega))
  rw [show GrI.code (decide (GrI.right ⟨11, d, n, m, 0, 0⟩)) = 0 by simp [GrI.code, hr]] at RI
  clear hr
  have HS := Lib.hid hs
  clear hs
  obtain ⟨WW, hWW⟩ : ∃ WW, WW = GrI.word ⟨11, d, n, m, 0, 0⟩ := ⟨_, rfl⟩
  rw [← hWW]
  have HW := Lib.hid hWW
  clear hWW
  go_enter Tryd.func21, Tryd.ntmps21
  go_wp2_with fail
  refine (RI.out _ (HS.out.alloc _)).mono ?_
  rintro e w1 ⟨rfl, b1⟩
  have HS1 := Lib.hid ((HS.out.alloc _).below b1)
  obtain ⟨x1, rfl⟩ := Wb.start b1
  clear b1
  obtain ⟨e0, e1, e2, e3, e4, e5, e6, e7, e8⟩ := shape9 HS1.out 99 100 101 102 103 104 105 106 107 (.int .u32 2852126720) (.bool true) (.bool true) (.bool true) (.int .i64 0) (.int .i64 0) (.int .i64 0) (.int .i64 0) (.int .i64 0) (by decide) ⟨rfl, rfl, rfl, rfl, rfl, rfl, rfl, rfl, rfl⟩
  have k0 : x1.at.cell? ⟨w.heap.size, 0, none⟩ = some (.int .i64 11) := by rw [x1.cell _ (by simp)]; simp [World.cell?_alloc_new]
  have lt1 : w.heap.size < x1.at.heap.size := by have := x1.size; simp at this; omega
  obtain ⟨a0, a1, a2, a3, a4, a5⟩ := six_prev x1 (.cells #[.int .u32 2852126720, .bool true, .bool true, .bool true, .int .i64 0, .int .i64 0, .int .i64 0, .int .i64 0, .int .i64 0] 60)
  obtain ⟨b0, b1, b2, b3, b4, b5, b6, b7, b8⟩ := nine_new (x1.at) (.int .u32 2852126720) (.bool true) (.bool true) (.bool true) (.int .i64 0) (.int .i64 0) (.int .i64 0) (.int .i64 0) (.int .i64 0) 60 (x1.at.heap.size) rfl
  have KB := Lib.hid (fun (z : Wb (x1.at.alloc (.cells #[.int .u32 2852126720, .bool true, .bool true, .bool true, .int .i64 0, .int .i64 0, .int .i64 0, .int .i64 0, .int .i64 0] 60))) => (((((Below.refl _ _).alloc (Nat.le_refl _) _).trans (x1.bel.mono (by simp))).alloc (by omega) _).trans (z.bel.mono (by simp; omega)) : Below w.heap.size w z.at))
  go_upto_region 5 with fail
  obtain ⟨y0, hy⟩ : ∃ y : Wb (x1.at.alloc (.cells #[.int .u32 2852126720, .bool true, .bool true, .bool true, .int .i64 0, .int .i64 0, .int .i64 0, .int .i64 0, .int .i64 0] 60)), (x1.at.alloc (.cells #[.int .u32 2852126720, .bool true, .bool true, .bool true, .int .i64 0, .int .i64 0, .int .i64 0, .int .i64 0, .int .i64 0] 60)) = y.at := ⟨⟨_, Below.refl _ _⟩, rfl⟩
  rw [hy]
  clear hy
  go_wp2_with fail
  refine (named_no 11 _ _ _ _ _ _ rfl rfl).mono ?_
  rintro e w1 ⟨rfl, q1⟩
  obtain ⟨y3, rfl⟩ := Wb.next q1
  clear q1
  go_wp2
  go_ret2
  refine ⟨ret_t ?_, KB.out y3⟩
  rw [HW.out]
  go_light
  clear KB RI HS HS1 HW a0 a1 a2 a3 a4 a5 b0 b1 b2 b3 b4 b5 b6 b7 b8 e0 e1 e2 e3 e4 e5 e6 e7 e8 k0
  exact encw_11 d n m HBD.out

theorem enc_bd_12 (d n m : Int) (hr : GrI.right ⟨12, d, n, m, 0, 0⟩) : 0 ≤ d ∧ d ≤ 31 ∧ 0 ≤ n ∧ n ≤ 31 ∧ 0 ≤ m ∧ m ≤ 31 := by
  simp [GrI.right, GrI.parts, GrI.nums] at hr
  first | trivial | omega

set_option maxRecDepth 100000 in
set_option maxHeartbeats 6400000 in
theorem xenc_12 (d n m : Int) (w : World) (hs : ShAt w) (hr : GrI.right ⟨12, d, n, m, 0, 0⟩) :
    Calls Tryd.prog 21 #[.agg #[.int .i64 12, .int .i64 d, .int .i64 n, .int .i64 m, .int .i64 0, .int .i64 0]] w fun e w' => e = .returned (.tuple #[.int .u32 (GrI.word ⟨12, d, n, m, 0, 0⟩), .int .i64 0]) ∧ Below w.heap.size w w' := by
  have hb := enc_bd_12 d n m hr
  have HBD := Lib.hid hb
  have RI := Lib.hid (fun w hs => xright_12 d n m 0 0 w hs (by omega) (by omega))
  rw [show GrI.code (decide (GrI.right ⟨12, d, n, m, 0, 0⟩)) = 0 by simp [GrI.code, hr]] at RI
  clear hr
  have HS := Lib.hid hs
  clear hs
  obtain ⟨WW, hWW⟩ : ∃ WW, WW = GrI.word ⟨12, d, n, m, 0, 0⟩ := ⟨_, rfl⟩
  rw [← hWW]
  have HW := Lib.hid hWW
  clear hWW
  go_enter Tryd.func21, Tryd.ntmps21
  go_wp2_with fail
  refine (RI.out _ (HS.out.alloc _)).mono ?_
  rintro e w1 ⟨rfl, b1⟩
  have HS1 := Lib.hid ((HS.out.alloc _).below b1)
  obtain ⟨x1, rfl⟩ := Wb.start b1
  clear b1
  obtain ⟨e0, e1, e2, e3, e4, e5, e6, e7, e8⟩ := shape9 HS1.out 108 109 110 111 112 113 114 115 116 (.int .u32 3388997632) (.bool true) (.bool true) (.bool true) (.int .i64 0) (.int .i64 0) (.int .i64 0) (.int .i64 0) (.int .i64 0) (by decide) ⟨rfl, rfl, rfl, rfl, rfl, rfl, rfl, rfl, rfl⟩
  have k0 : x1.at.cell? ⟨w.heap.size, 0, none⟩ = some (.int .i64 12) := by rw [x1.cell _ (by simp)]; simp [World.cell?_alloc_new]
  have lt1 : w.heap.size < x1.at.heap.size := by have := x1.size; simp at this; omega
  obtain ⟨a0, a1, a2, a3, a4, a5⟩ := six_prev x1 (.cells #[.int .u32 3388997632, .bool true, .bool true, .bool true, .int .i64 0, .int .i64 0, .int .i64 0, .int .i64 0, .int .i64 0] 60)
  obtain ⟨b0, b1, b2, b3, b4, b5, b6, b7, b8⟩ := nine_new (x1.at) (.int .u32 3388997632) (.bool true) (.bool true) (.bool true) (.int .i64 0) (.int .i64 0) (.int .i64 0) (.int .i64 0) (.int .i64 0) 60 (x1.at.heap.size) rfl
  have KB := Lib.hid (fun (z : Wb (x1.at.alloc (.cells #[.int .u32 3388997632, .bool true, .bool true, .bool true, .int .i64 0, .int .i64 0, .int .i64 0, .int .i64 0, .int .i64 0] 60))) => (((((Below.refl _ _).alloc (Nat.le_refl _) _).trans (x1.bel.mono (by simp))).alloc (by omega) _).trans (z.bel.mono (by simp; omega)) : Below w.heap.size w z.at))
  go_upto_region 5 with fail
  obtain ⟨y0, hy⟩ : ∃ y : Wb (x1.at.alloc (.cells #[.int .u32 3388997632, .bool true, .bool true, .bool true, .int .i64 0, .int .i64 0, .int .i64 0, .int .i64 0, .int .i64 0] 60)), (x1.at.alloc (.cells #[.int .u32 3388997632, .bool true, .bool true, .bool true, .int .i64 0, .int .i64 0, .int .i64 0, .int .i64 0, .int .i64 0] 60)) = y.at := ⟨⟨_, Below.refl _ _⟩, rfl⟩
  rw [hy]
  clear hy
  go_wp2_with fail
  refine (named_no 12 _ _ _ _ _ _ rfl rfl).mono ?_
  rintro e w1 ⟨rfl, q1⟩
  obtain ⟨y3, rfl⟩ := Wb.next q1
  clear q1
  go_wp2
  go_ret2
  refine ⟨ret_t ?_, KB.out y3⟩
  rw [HW.out]
  go_light
  clear KB RI HS HS1 HW a0 a1 a2 a3 a4 a5 b0 b1 b2 b3 b4 b5 b6 b7 b8 e0 e1 e2 e3 e4 e5 e6 e7 e8 k0
  exact encw_12 d n m HBD.out

end Go.Proofs.YtebpmngllljkaaaDoor
