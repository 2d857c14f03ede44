/-
  Layer 3, the code's walks: Encode, operations 13 to 18.
  Layer 3, the code's walks: Encode, operations 19 to 23.
-/
import Derived.Test.YtebpmngllljkaaaDoorJh
import Derived.Test.YtebpmngllljkaaaDoorJg
import Derived.Test.YtebpmngllljkaaaDoorBr
import Derived.Test.YtebpmngllljkaaaDoorIr
set_option linter.unusedSimpArgs false
set_option linter.unusedVariables false
namespace Go.Proofs.YtebpmngllljkaaaDoor
open Go.RowKit

theorem enc_bd_13 (d n m : Int) (hr : GrI.right ⟨13, d, n, m, 0, 0⟩) : 0 ≤ d ∧ d ≤ 31 ∧ 0 ≤ n ∧ n ≤ 31 ∧ 0 ≤ m ∧ m ≤ 31 := by
  simp [GrI.right, GrI.parts, GrI.nums] at hr
  first | trivial | omega

set_option maxRecDepth 100000 in
set_option maxHeartbeats 6400000 in
theorem xenc_13 (d n m : Int) (w : World) (hs : ShAt w) (hr : GrI.right ⟨13, d, n, m, 0, 0⟩) :
    Calls Tryd.prog 21 #[.agg #[.int .i64 13, .int .i64 d, .int .i64 n, .int .i64 m, .int .i64 0, .int .i64 0]] w fun e w' => e = .returned (.tuple #[.int .u32 (GrI.word ⟨13, d, n, m, 0, 0⟩), .int .i64 0]) ∧ Below w.heap.size w w' := by
  have hb := enc_bd_13 d n m hr
  have HBD := Lib.hid hb
  have RI := Lib.hid (fun w hs => xright_13 d n m 0 0 w hs (by omega) (by omega))
  rw [show GrI.code (decide (GrI.right ⟨13, d, n, m, 0, 0⟩)) = 0 by simp [GrI.code, hr]] at RI
  clear hr
  have HS := Lib.hid hs
  clear hs
  obtain ⟨WW, hWW⟩ : ∃ WW, WW = GrI.word ⟨13, d, n, m, 0, 0⟩ := ⟨_, rfl⟩
  rw [← hWW]
  have HW := Lib.hid hWW
  clear hWW
  go_enter Tryd.func21, Tryd.ntmps21
  go_wp2_with fail
  refine (RI.out _ (HS.out.alloc _)).mono ?_
  rintro e w1 ⟨rfl, b1⟩
  have HS1 := Lib.hid ((HS.out.alloc _).below b1)
  obtain ⟨x1, rfl⟩ := Wb.start b1
  clear b1
  obtain ⟨e0, e1, e2, e3, e4, e5, e6, e7, e8⟩ := shape9 HS1.out 117 118 119 120 121 122 123 124 125 (.int .u32 3942645760) (.bool true) (.bool true) (.bool true) (.int .i64 0) (.int .i64 0) (.int .i64 0) (.int .i64 0) (.int .i64 0) (by decide) ⟨rfl, rfl, rfl, rfl, rfl, rfl, rfl, rfl, rfl⟩
  have k0 : x1.at.cell? ⟨w.heap.size, 0, none⟩ = some (.int .i64 13) := by rw [x1.cell _ (by simp)]; simp [World.cell?_alloc_new]
  have lt1 : w.heap.size < x1.at.heap.size := by have := x1.size; simp at this; omega
  obtain ⟨a0, a1, a2, a3, a4, a5⟩ := six_prev x1 (.cells #[.int .u32 3942645760, .bool true, .bool true, .bool true, .int .i64 0, .int .i64 0, .int .i64 0, .int .i64 0, .int .i64 0] 60)
  obtain ⟨b0, b1, b2, b3, b4, b5, b6, b7, b8⟩ := nine_new (x1.at) (.int .u32 3942645760) (.bool true) (.bool true) (.bool true) (.int .i64 0) (.int .i64 0) (.int .i64 0) (.int .i64 0) (.int .i64 0) 60 (x1.at.heap.size) rfl
  have KB := Lib.hid (fun (z : Wb (x1.at.alloc (.cells #[.int .u32 3942645760, .bool true, .bool true, .bool true, .int .i64 0, .int .i64 0, .int .i64 0, .int .i64 0, .int .i64 0] 60))) => (((((Below.refl _ _).alloc (Nat.le_refl _) _).trans (x1.bel.mono (by simp))).alloc (by omega) _).trans (z.bel.mono (by simp; omega)) : Below w.heap.size w z.at))
  go_upto_region 5 with fail
  obtain ⟨y0, hy⟩ : ∃ y : Wb (x1.at.alloc (.cells #[.int .u32 3942645760, .bool true, .bool true, .bool true, .int .i64 0, .int .i64 0, .int .i64 0, .int .i64 0, .int .i64 0] 60)), (x1.at.alloc (.cells #[.int .u32 3942645760, .bool true, .bool true, .bool true, .int .i64 0, .int .i64 0, .int .i64 0, .int .i64 0, .int .i64 0] 60)) = y.at := ⟨⟨_, Below.refl _ _⟩, rfl⟩
  rw [hy]
  clear hy
  go_wp2_with fail
  refine (named_no 13 _ _ _ _ _ _ rfl rfl).mono ?_
  rintro e w1 ⟨rfl, q1⟩
  obtain ⟨y3, rfl⟩ := Wb.next q1
  clear q1
  go_wp2
  go_ret2
  refine ⟨ret_t ?_, KB.out y3⟩
  rw [HW.out]
  go_light
  clear KB RI HS HS1 HW a0 a1 a2 a3 a4 a5 b0 b1 b2 b3 b4 b5 b6 b7 b8 e0 e1 e2 e3 e4 e5 e6 e7 e8 k0
  exact encw_13 d n m HBD.out

theorem enc_bd_14 (imm : Int) (hr : GrI.right ⟨14, 0, 0, 0, imm, 0⟩) : -33554432 ≤ imm ∧ imm ≤ 33554431 := by
  simp [GrI.right, GrI.parts, GrI.nums] at hr
  first | trivial | omega

set_option maxRecDepth 100000 in
set_option maxHeartbeats 6400000 in
theorem xenc_14 (imm : Int) (w : World) (hs : ShAt w) (hr : GrI.right ⟨14, 0, 0, 0, imm, 0⟩) :
    Calls Tryd.prog 21 #[.agg #[.int .i64 14, .int .i64 0, .int .i64 0, .int .i64 0, .int .i64 imm, .int .i64 0]] w fun e w' => e = .returned (.tuple #[.int .u32 (GrI.word ⟨14, 0, 0, 0, imm, 0⟩), .int .i64 0]) ∧ Below w.heap.size w w' := by
  have hb := enc_bd_14 imm hr
  have HBD := Lib.hid hb
  have RI := Lib.hid (fun w hs => xright_14 0 0 0 imm 0 w hs (by omega) (by omega))
  rw [show GrI.code (decide (GrI.right ⟨14, 0, 0, 0, imm, 0⟩)) = 0 by simp [GrI.code, hr]] at RI
  clear hr
  have HS := Lib.hid hs
  clear hs
  obtain ⟨WW, hWW⟩ : ∃ WW, WW = GrI.word ⟨14, 0, 0, 0, imm, 0⟩ := ⟨_, rfl⟩
  rw [← hWW]
  have HW := Lib.hid hWW
  clear hWW
  go_enter Tryd.func21, Tryd.ntmps21
  go_wp2_with fail
  refine (RI.out _ (HS.out.alloc _)).mono ?_
  rintro e w1 ⟨rfl, b1⟩
  have HS1 := Lib.hid ((HS.out.alloc _).below b1)
  obtain ⟨x1, rfl⟩ := Wb.start b1
  clear b1
  obtain ⟨e0, e1, e2, e3, e4, e5, e6, e7, e8⟩ := shape9 HS1.out 126 127 128 129 130 131 132 133 134 (.int .u32 335544320) (.bool false) (.bool false) (.bool false) (.int .i64 (-26)) (.int .i64 0) (.int .i64 1) (.int .i64 0) (.int .i64 0) (by decide) ⟨rfl, rfl, rfl, rfl, rfl, rfl, rfl, rfl, rfl⟩
  have k0 : x1.at.cell? ⟨w.heap.size, 0, none⟩ = some (.int .i64 14) := by rw [x1.cell _ (by simp)]; simp [World.cell?_alloc_new]
  have lt1 : w.heap.size < x1.at.heap.size := by have := x1.size; simp at this; omega
  obtain ⟨a0, a1, a2, a3, a4, a5⟩ := six_prev x1 (.cells #[.int .u32 335544320, .bool false, .bool false, .bool false, .int .i64 (-26), .int .i64 0, .int .i64 1, .int .i64 0, .int .i64 0] 60)
  obtain ⟨b0, b1, b2, b3, b4, b5, b6, b7, b8⟩ := nine_new (x1.at) (.int .u32 335544320) (.bool false) (.bool false) (.bool false) (.int .i64 (-26)) (.int .i64 0) (.int .i64 1) (.int .i64 0) (.int .i64 0) 60 (x1.at.heap.size) rfl
  have KB := Lib.hid (fun (z : Wb (x1.at.alloc (.cells #[.int .u32 335544320, .bool false, .bool false, .bool false, .int .i64 (-26), .int .i64 0, .int .i64 1, .int .i64 0, .int .i64 0] 60))) => (((((Below.refl _ _).alloc (Nat.le_refl _) _).trans (x1.bel.mono (by simp))).alloc (by omega) _).trans (z.bel.mono (by simp; omega)) : Below w.heap.size w z.at))
  go_upto_region 5 with fail
  obtain ⟨y0, hy⟩ : ∃ y : Wb (x1.at.alloc (.cells #[.int .u32 335544320, .bool false, .bool false, .bool false, .int .i64 (-26), .int .i64 0, .int .i64 1, .int .i64 0, .int .i64 0] 60)), (x1.at.alloc (.cells #[.int .u32 335544320, .bool false, .bool false, .bool false, .int .i64 (-26), .int .i64 0, .int .i64 1, .int .i64 0, .int .i64 0] 60)) = y.at := ⟨⟨_, Below.refl _ _⟩, rfl⟩
  rw [hy]
  clear hy
  go_wp2_with fail
  have j4 : ∀ z : Wb y0.at, z.at.cell? ⟨w.heap.size, 4, none⟩ = some (.int .i64 imm) := y0.lift a4
  have f0 := y0.lift b0
  have f1 := y0.lift b1
  have f2 := y0.lift b2
  have f3 := y0.lift b3
  have f4 := y0.lift b4
  have f5 := y0.lift b5
  have f6 := y0.lift b6
  have f7 := y0.lift b7
  have f8 := y0.lift b8
  refine wp_region_wb (by kernel_rfl) (by kernel_rfl) ?_
  repeat (go_big_quiet_step (first | (go_at_call 43; exact Calls.wb (width_any _ _ _ _ _ _ _ _ _ 26 _ (by decide))) | (go_at_call 42; exact Calls.wb ((get_any _ _ _ _ (by first | omega | exact uw_lo _) (by first | omega | exact uw_hi _)).mono fun e w' h => ⟨h.1, h.2.below _⟩))))
  refine wpQuiet_nil ?_
  rintro _ ⟨y1, rfl⟩
  obtain ⟨y2, hy2⟩ := Wb.next (x := y0) y1.bel
  rw [hy2]
  go_wp2_with fail
  refine (named_no 14 _ _ _ _ _ _ rfl rfl).mono ?_
  rintro e w1 ⟨rfl, q1⟩
  obtain ⟨y3, rfl⟩ := Wb.next q1
  clear q1
  go_wp2
  go_ret2
  refine ⟨ret_t ?_, KB.out y3⟩
  rw [HW.out]
  go_light
  clear KB RI HS HS1 HW a0 a1 a2 a3 a4 a5 b0 b1 b2 b3 b4 b5 b6 b7 b8 e0 e1 e2 e3 e4 e5 e6 e7 e8 k0
  exact encw_14 imm HBD.out

theorem enc_bd_15 (d imm : Int) (hr : GrI.right ⟨15, d, 0, 0, imm, 0⟩) : 0 ≤ d ∧ d ≤ 31 ∧ -262144 ≤ imm ∧ imm ≤ 262143 := by
  simp [GrI.right, GrI.parts, GrI.nums] at hr
  first | trivial | omega

set_option maxRecDepth 100000 in
set_option maxHeartbeats 6400000 in
theorem xenc_15 (d imm : Int) (w : World) (hs : ShAt w) (hr : GrI.right ⟨15, d, 0, 0, imm, 0⟩) :
    Calls Tryd.prog 21 #[.agg #[.int .i64 15, .int .i64 d, .int .i64 0, .int .i64 0, .int .i64 imm, .int .i64 0]] w fun e w' => e = .returned (.tuple #[.int .u32 (GrI.word ⟨15, d, 0, 0, imm, 0⟩), .int .i64 0]) ∧ Below w.heap.size w w' := by
  have hb := enc_bd_15 d imm hr
  have HBD := Lib.hid hb
  have RI := Lib.hid (fun w hs => xright_15 d 0 0 imm 0 w hs (by omega) (by omega))
  rw [show GrI.code (decide (GrI.right ⟨15, d, 0, 0, imm, 0⟩)) = 0 by simp [GrI.code, hr]] at RI
  clear hr
  have HS := Lib.hid hs
  clear hs
  obtain ⟨WW, hWW⟩ : ∃ WW, WW = GrI.word ⟨15, d, 0, 0, imm, 0⟩ := ⟨_, rfl⟩
  rw [← hWW]
  have HW := Lib.hid hWW
  clear hWW
  go_enter Tryd.func21, Tryd.ntmps21
  go_wp2_with fail
  refine (RI.out _ (HS.out.alloc _)).mono ?_
  rintro e w1 ⟨rfl, b1⟩
  have HS1 := Lib.hid ((HS.out.alloc _).below b1)
  obtain ⟨x1, rfl⟩ := Wb.start b1
  clear b1
  obtain ⟨e0, e1, e2, e3, e4, e5, e6, e7, e8⟩ := shape9 HS1.out 135 136 137 138 139 140 141 142 143 (.int .u32 3019898880) (.bool true) (.bool false) (.bool false) (.int .i64 (-19)) (.int .i64 5) (.int .i64 1) (.int .i64 0) (.int .i64 0) (by decide) ⟨rfl, rfl, rfl, rfl, rfl, rfl, rfl, rfl, rfl⟩
  have k0 : x1.at.cell? ⟨w.heap.size, 0, none⟩ = some (.int .i64 15) := by rw [x1.cell _ (by simp)]; simp [World.cell?_alloc_new]
  have lt1 : w.heap.size < x1.at.heap.size := by have := x1.size; simp at this; omega
  obtain ⟨a0, a1, a2, a3, a4, a5⟩ := six_prev x1 (.cells #[.int .u32 3019898880, .bool true, .bool false, .bool false, .int .i64 (-19), .int .i64 5, .int .i64 1, .int .i64 0, .int .i64 0] 60)
  obtain ⟨b0, b1, b2, b3, b4, b5, b6, b7, b8⟩ := nine_new (x1.at) (.int .u32 3019898880) (.bool true) (.bool false) (.bool false) (.int .i64 (-19)) (.int .i64 5) (.int .i64 1) (.int .i64 0) (.int .i64 0) 60 (x1.at.heap.size) rfl
  have KB := Lib.hid (fun (z : Wb (x1.at.alloc (.cells #[.int .u32 3019898880, .bool true, .bool false, .bool false, .int .i64 (-19), .int .i64 5, .int .i64 1, .int .i64 0, .int .i64 0] 60))) => (((((Below.refl _ _).alloc (Nat.le_refl _) _).trans (x1.bel.mono (by simp))).alloc (by omega) _).trans (z.bel.mono (by simp; omega)) : Below w.heap.size w z.at))
  go_upto_region 5 with fail
  obtain ⟨y0, hy⟩ : ∃ y : Wb (x1.at.alloc (.cells #[.int .u32 3019898880, .bool true, .bool false, .bool false, .int .i64 (-19), .int .i64 5, .int .i64 1, .int .i64 0, .int .i64 0] 60)), (x1.at.alloc (.cells #[.int .u32 3019898880, .bool true, .bool false, .bool false, .int .i64 (-19), .int .i64 5, .int .i64 1, .int .i64 0, .int .i64 0] 60)) = y.at := ⟨⟨_, Below.refl _ _⟩, rfl⟩
  rw [hy]
  clear hy
  go_wp2_with fail
  have j4 : ∀ z : Wb y0.at, z.at.cell? ⟨w.heap.size, 4, none⟩ = some (.int .i64 imm) := y0.lift a4
  have f0 := y0.lift b0
  have f1 := y0.lift b1
  have f2 := y0.lift b2
  have f3 := y0.lift b3
  have f4 := y0.lift b4
  have f5 := y0.lift b5
  have f6 := y0.lift b6
  have f7 := y0.lift b7
  have f8 := y0.lift b8
  refine wp_region_wb (by kernel_rfl) (by kernel_rfl) ?_
  repeat (go_big_quiet_step (first | (go_at_call 43; exact Calls.wb (width_any _ _ _ _ _ _ _ _ _ 19 _ (by decide))) | (go_at_call 42; exact Calls.wb ((get_any _ _ _ _ (by first | omega | exact uw_lo _) (by first | omega | exact uw_hi _)).mono fun e w' h => ⟨h.1, h.2.below _⟩))))
  refine wpQuiet_nil ?_
  rintro _ ⟨y1, rfl⟩
  obtain ⟨y2, hy2⟩ := Wb.next (x := y0) y1.bel
  rw [hy2]
  go_wp2_with fail
  refine (named_no 15 _ _ _ _ _ _ rfl rfl).mono ?_
  rintro e w1 ⟨rfl, q1⟩
  obtain ⟨y3, rfl⟩ := Wb.next q1
  clear q1
  go_wp2
  go_ret2
  refine ⟨ret_t ?_, KB.out y3⟩
  rw [HW.out]
  go_light
  clear KB RI HS HS1 HW a0 a1 a2 a3 a4 a5 b0 b1 b2 b3 b4 b5 b6 b7 b8 e0 e1 e2 e3 e4 e5 e6 e7 e8 k0
  exact encw_15 d imm HBD.out

theorem enc_bd_16 (d imm : Int) (hr : GrI.right ⟨16, d, 0, 0, imm, 0⟩) : 0 ≤ d ∧ d ≤ 31 ∧ -262144 ≤ imm ∧ imm ≤ 262143 := by
  simp [GrI.right, GrI.parts, GrI.nums] at hr
  first | trivial | omega

set_option maxRecDepth 100000 in
set_option maxHeartbeats 6400000 in
theorem xenc_16 (d imm : Int) (w : World) (hs : ShAt w) (hr : GrI.right ⟨16, d, 0, 0, imm, 0⟩) :
    Calls Tryd.prog 21 #[.agg #[.int .i64 16, .int .i64 d, .int .i64 0, .int .i64 0, .int .i64 imm, .int .i64 0]] w fun e w' => e = .returned (.tuple #[.int .u32 (GrI.word ⟨16, d, 0, 0, imm, 0⟩), .int .i64 0]) ∧ Below w.heap.size w w' := by
  have hb := enc_bd_16 d imm hr
  have HBD := Lib.hid hb
  have RI := Lib.hid (fun w hs => xright_16 d 0 0 imm 0 w hs (by omega) (by omega))
  rw [show GrI.code (decide (GrI.right ⟨16, d, 0, 0, imm, 0⟩)) = 0 by simp [GrI.code, hr]] at RI
  clear hr
  have HS := Lib.hid hs
  clear hs
  obtain ⟨WW, hWW⟩ : ∃ WW, WW = GrI.word ⟨16, d, 0, 0, imm, 0⟩ := ⟨_, rfl⟩
  rw [← hWW]
  have HW := Lib.hid hWW
  clear hWW
  go_enter Tryd.func21, Tryd.ntmps21
  go_wp2_with fail
  refine (RI.out _ (HS.out.alloc _)).mono ?_
  rintro e w1 ⟨rfl, b1⟩
  have HS1 := Lib.hid ((HS.out.alloc _).below b1)
  obtain ⟨x1, rfl⟩ := Wb.start b1
  clear b1
  obtain ⟨e0, e1, e2, e3, e4, e5, e6, e7, e8⟩ := shape9 HS1.out 144 145 146 147 148 149 150 151 152 (.int .u32 3036676096) (.bool true) (.bool false) (.bool false) (.int .i64 (-19)) (.int .i64 5) (.int .i64 1) (.int .i64 0) (.int .i64 0) (by decide) ⟨rfl, rfl, rfl, rfl, rfl, rfl, rfl, rfl, rfl⟩
  have k0 : x1.at.cell? ⟨w.heap.size, 0, none⟩ = some (.int .i64 16) := by rw [x1.cell _ (by simp)]; simp [World.cell?_alloc_new]
  have lt1 : w.heap.size < x1.at.heap.size := by have := x1.size; simp at this; omega
  obtain ⟨a0, a1, a2, a3, a4, a5⟩ := six_prev x1 (.cells #[.int .u32 3036676096, .bool true, .bool false, .bool false, .int .i64 (-19), .int .i64 5, .int .i64 1, .int .i64 0, .int .i64 0] 60)
  obtain ⟨b0, b1, b2, b3, b4, b5, b6, b7, b8⟩ := nine_new (x1.at) (.int .u32 3036676096) (.bool true) (.bool false) (.bool false) (.int .i64 (-19)) (.int .i64 5) (.int .i64 1) (.int .i64 0) (.int .i64 0) 60 (x1.at.heap.size) rfl
  have KB := Lib.hid (fun (z : Wb (x1.at.alloc (.cells #[.int .u32 3036676096, .bool true, .bool false, .bool false, .int .i64 (-19), .int .i64 5, .int .i64 1, .int .i64 0, .int .i64 0] 60))) => (((((Below.refl _ _).alloc (Nat.le_refl _) _).trans (x1.bel.mono (by simp))).alloc (by omega) _).trans (z.bel.mono (by simp; omega)) : Below w.heap.size w z.at))
  go_upto_region 5 with fail
  obtain ⟨y0, hy⟩ : ∃ y : Wb (x1.at.alloc (.cells #[.int .u32 3036676096, .bool true, .bool false, .bool false, .int .i64 (-19), .int .i64 5, .int .i64 1, .int .i64 0, .int .i64 0] 60)), (x1.at.alloc (.cells #[.int .u32 3036676096, .bool true, .bool false, .bool false, .int .i64 (-19), .int .i64 5, .int .i64 1, .int .i64 0, .int .i64 0] 60)) = y.at := ⟨⟨_, Below.refl _ _⟩, rfl⟩
  rw [hy]
  clear hy
  go_wp2_with fail
  have j4 : ∀ z : Wb y0.at, z.at.cell? ⟨w.heap.size, 4, none⟩ = some (.int .i64 imm) := y0.lift a4
  have f0 := y0.lift b0
  have f1 := y0.lift b1
  have f2 := y0.lift b2
  have f3 := y0.lift b3
  have f4 := y0.lift b4
  have f5 := y0.lift b5
  have f6 := y0.lift b6
  have f7 := y0.lift b7
  have f8 := y0.lift b8
  refine wp_region_wb (by kernel_rfl) (by kernel_rfl) ?_
  repeat (go_big_quiet_step (first | (go_at_call 43; exact Calls.wb (width_any _ _ _ _ _ _ _ _ _ 19 _ (by decide))) | (go_at_call 42; exact Calls.wb ((get_any _ _ _ _ (by first | omega | exact uw_lo _) (by first | omega | exact uw_hi _)).mono fun e w' h => ⟨h.1, h.2.below _⟩))))
  refine wpQuiet_nil ?_
  rintro _ ⟨y1, rfl⟩
  obtain ⟨y2, hy2⟩ := Wb.next (x := y0) y1.bel
  rw [hy2]
  go_wp2_with fail
  refine (named_no 16 _ _ _ _ _ _ rfl rfl).mono ?_
  rintro e w1 ⟨rfl, q1⟩
  obtain ⟨y3, rfl⟩ := Wb.next q1
  clear q1
  go_wp2
  go_ret2
  refine ⟨ret_t ?_, KB.out y3⟩
  rw [HW.out]
  go_light
  clear KB RI HS HS1 HW a0 a1 a2 a3 a4 a5 b0 b1 b2 b3 b4 b5 b6 b7 b8 e0 e1 e2 e3 e4 e5 e6 e7 e8 k0
  exact encw_16 d imm HBD.out

theorem enc_bd_17 (imm kind : Int) (hr : GrI.right ⟨17, 0, 0, 0, imm, kind⟩) : -262144 ≤ imm ∧ imm ≤ 262143 ∧ 0 ≤ kind ∧ kind ≤ 1 := by
  simp [GrI.right, GrI.parts, GrI.nums] at hr
  first | trivial | omega

set_option maxRecDepth 100000 in
set_option maxHeartbeats 6400000 in
theorem xenc_17 (imm kind : Int) (w : World) (hs : ShAt w) (hr : GrI.right ⟨17, 0, 0, 0, imm, kind⟩) :
    Calls Tryd.prog 21 #[.agg #[.int .i64 17, .int .i64 0, .int .i64 0, .int .i64 0, .int .i64 imm, .int .i64 kind]] w fun e w' => e = .returned (.tuple #[.int .u32 (GrI.word ⟨17, 0, 0, 0, imm, kind⟩), .int .i64 0]) ∧ Below w.heap.size w w' := by
  have hb := enc_bd_17 imm kind hr
  have HBD := Lib.hid hb
  have RI := Lib.hid (fun w hs => xright_17 0 0 0 imm kind w hs (by omega) (by omega))
  rw [show GrI.code (decide (GrI.right ⟨17, 0, 0, 0, imm, kind⟩)) = 0 by simp [GrI.code, hr]] at RI
  clear hr
  have HS := Lib.hid hs
  clear hs
  obtain ⟨WW, hWW⟩ : ∃ WW, WW = GrI.word ⟨17, 0, 0, 0, imm, kind⟩ := ⟨_, rfl⟩
  rw [← hWW]
  have HW := Lib.hid hWW
  clear hWW
  go_enter Tryd.func21, Tryd.ntmps21
  go_wp2_with fail
  refine (RI.out _ (HS.out.alloc _)).mono ?_
  rintro e w1 ⟨rfl, b1⟩
  have HS1 := Lib.hid ((HS.out.alloc _).below b1)
  obtain ⟨x1, rfl⟩ := Wb.start b1
  clear b1
  obtain ⟨e0, e1, e2, e3, e4, e5, e6, e7, e8⟩ := shape9 HS1.out 153 154 155 156 157 158 159 160 161 (.int .u32 1409286144) (.bool false) (.bool false) (.bool false) (.int .i64 (-19)) (.int .i64 5) (.int .i64 1) (.int .i64 2) (.int .i64 0) (by decide) ⟨rfl, rfl, rfl, rfl, rfl, rfl, rfl, rfl, rfl⟩
  have k0 : x1.at.cell? ⟨w.heap.size, 0, none⟩ = some (.int .i64 17) := by rw [x1.cell _ (by simp)]; simp [World.cell?_alloc_new]
  have lt1 : w.heap.size < x1.at.heap.size := by have := x1.size; simp at this; omega
  obtain ⟨a0, a1, a2, a3, a4, a5⟩ := six_prev x1 (.cells #[.int .u32 1409286144, .bool false, .bool false, .bool false, .int .i64 (-19), .int .i64 5, .int .i64 1, .int .i64 2, .int .i64 0] 60)
  obtain ⟨b0, b1, b2, b3, b4, b5, b6, b7, b8⟩ := nine_new (x1.at) (.int .u32 1409286144) (.bool false) (.bool false) (.bool false) (.int .i64 (-19)) (.int .i64 5) (.int .i64 1) (.int .i64 2) (.int .i64 0) 60 (x1.at.heap.size) rfl
  have KB := Lib.hid (fun (z : Wb (x1.at.alloc (.cells #[.int .u32 1409286144, .bool false, .bool false, .bool false, .int .i64 (-19), .int .i64 5, .int .i64 1, .int .i64 2, .int .i64 0] 60))) => (((((Below.refl _ _).alloc (Nat.le_refl _) _).trans (x1.bel.mono (by simp))).alloc (by omega) _).trans (z.bel.mono (by simp; omega)) : Below w.heap.size w z.at))
  go_upto_region 5 with fail
  obtain ⟨y0, hy⟩ : ∃ y : Wb (x1.at.alloc (.cells #[.int .u32 1409286144, .bool false, .bool false, .bool false, .int .i64 (-19), .int .i64 5, .int .i64 1, .int .i64 2, .int .i64 0] 60)), (x1.at.alloc (.cells #[.int .u32 1409286144, .bool false, .bool false, .bool false, .int .i64 (-19), .int .i64 5, .int .i64 1, .int .i64 2, .int .i64 0] 60)) = y.at := ⟨⟨_, Below.refl _ _⟩, rfl⟩
  rw [hy]
  clear hy
  go_wp2_with fail
  have j4 : ∀ z : Wb y0.at, z.at.cell? ⟨w.heap.size, 4, none⟩ = some (.int .i64 imm) := y0.lift a4
  have f0 := y0.lift b0
  have f1 := y0.lift b1
  have f2 := y0.lift b2
  have f3 := y0.lift b3
  have f4 := y0.lift b4
  have f5 := y0.lift b5
  have f6 := y0.lift b6
  have f7 := y0.lift b7
  have f8 := y0.lift b8
  refine wp_region_wb (by kernel_rfl) (by kernel_rfl) ?_
  repeat (go_big_quiet_step (first | (go_at_call 43; exact Calls.wb (width_any _ _ _ _ _ _ _ _ _ 19 _ (by decide))) | (go_at_call 42; exact Calls.wb ((get_any _ _ _ _ (by first | omega | exact uw_lo _) (by first | omega | exact uw_hi _)).mono fun e w' h => ⟨h.1, h.2.below _⟩))))
  refine wpQuiet_nil ?_
  rintro _ ⟨y1, rfl⟩
  obtain ⟨y2, hy2⟩ := Wb.next (x := y0) y1.bel
  rw [hy2]
  go_wp2_with fail
  refine (named_no 17 _ _ _ _ _ _ rfl rfl).mono ?_
  rintro e w1 ⟨rfl, q1⟩
  obtain ⟨y3, rfl⟩ := Wb.next q1
  clear q1
  go_wp2
  go_ret2
  refine ⟨ret_t ?_, KB.out y3⟩
  rw [HW.out]
  go_light
  clear KB RI HS HS1 HW a0 a1 a2 a3 a4 a5 b0 b1 b2 b3 b4 b5 b6 b7 b8 e0 e1 e2 e3 e4 e5 e6 e7 e8 k0
  exact encw_17 imm kind HBD.out

theorem enc_bd_18 (kind : Int) (hr : GrI.right ⟨18, 0, 0, 0, 0, kind⟩) : 9 ≤ kind ∧ kind ≤ 15 := by
  simp [GrI.right, GrI.parts, GrI.nums] at hr
  first | trivial | omega

set_option maxRecDepth 100000 in
set_option maxHeartbeats 6400000 in
theorem xenc_18 (kind : Int) (w : World) (hs : ShAt w) (hr : GrI.right ⟨18, 0, 0, 0, 0, kind⟩) :
    Calls Tryd.prog 21 #[.agg #[.int .i64 18, .int .i64 0, .int .i64 0, .int .i64 0, .int .i64 0, .int .i64 kind]] w fun e w' => e = .returned (.tuple #[.int .u32 (GrI.word ⟨18, 0, 0, 0, 0, kind⟩), .int .i64 0]) ∧ Below w.heap.size w w' := by
  have hb := enc_bd_18 kind hr
  have HBD := Lib.hid hb
  have RI := Lib.hid (fun w hs => xright_18 0 0 0 0 kind w hs (by omega) (by omega))
  rw [show GrI.code (decide (GrI.right ⟨18, 0, 0, 0, 0, kind⟩)) = 0 by simp [GrI.code, hr]] at RI
  clear hr
  have HS := Lib.hid hs
  clear hs
  obtain ⟨WW, hWW⟩ : ∃ WW, WW = GrI.word ⟨18, 0, 0, 0, 0, kind⟩ := ⟨_, rfl⟩
  rw [← hWW]
  have HW := Lib.hid hWW
  clear hWW
  go_enter Tryd.func21, Tryd.ntmps21
  go_wp2_with fail
  refine (RI.out _ (HS.out.alloc _)).mono ?_
  rintro e w1 ⟨rfl, b1⟩
  have HS1 := Lib.hid ((HS.out.alloc _).below b1)
  obtain ⟨x1, rfl⟩ := Wb.start b1
  clear b1
  obtain ⟨e0, e1, e2, e3, e4, e5, e6, e7, e8⟩ := shape9 HS1.out 162 163 164 165 166 167 168 169 170 (.int .u32 3573756095) (.bool false) (.bool false) (.bool false) (.int .i64 0) (.int .i64 0) (.int .i64 0) (.int .i64 16) (.int .i64 8) (by decide) ⟨rfl, rfl, rfl, rfl, rfl, rfl, rfl, rfl, rfl⟩
  have k0 : x1.at.cell? ⟨w.heap.size, 0, none⟩ = some (.int .i64 18) := by rw [x1.cell _ (by simp)]; simp [World.cell?_alloc_new]
  have lt1 : w.heap.size < x1.at.heap.size := by have := x1.size; simp at this; omega
  obtain ⟨a0, a1, a2, a3, a4, a5⟩ := six_prev x1 (.cells #[.int .u32 3573756095, .bool false, .bool false, .bool false, .int .i64 0, .int .i64 0, .int .i64 0, .int .i64 16, .int .i64 8] 60)
  obtain ⟨b0, b1, b2, b3, b4, b5, b6, b7, b8⟩ := nine_new (x1.at) (.int .u32 3573756095) (.bool false) (.bool false) (.bool false) (.int .i64 0) (.int .i64 0) (.int .i64 0) (.int .i64 16) (.int .i64 8) 60 (x1.at.heap.size) rfl
  have KB := Lib.hid (fun (z : Wb (x1.at.alloc (.cells #[.int .u32 3573756095, .bool false, .bool false, .bool false, .int .i64 0, .int .i64 0, .int .i64 0, .int .i64 16, .int .i64 8] 60))) => (((((Below.refl _ _).alloc (Nat.le_refl _) _).trans (x1.bel.mono (by simp))).alloc (by omega) _).trans (z.bel.mono (by simp; omega)) : Below w.heap.size w z.at))
  go_upto_region 5 with fail
  obtain ⟨y0, hy⟩ : ∃ y : Wb (x1.at.alloc (.cells #[.int .u32 3573756095, .bool false, .bool false, .bool false, .int .i64 0, .int .i64 0, .int .i64 0, .int .i64 16, .int .i64 8] 60)), (x1.at.alloc (.cells #[.int .u32 3573756095, .bool false, .bool false, .bool false, .int .i64 0, .int .i64 0, .int .i64 0, .int .i64 16, .int .i64 8] 60)) = y.at := ⟨⟨_, Below.refl _ _⟩, rfl⟩
  rw [hy]
  clear hy
  go_wp2_with fail
  refine (named_no 18 _ _ _ _ _ _ rfl rfl).mono ?_
  rintro e w1 ⟨rfl, q1⟩
  obtain ⟨y3, rfl⟩ := Wb.next q1
  clear q1
  go_wp2
  go_ret2
  refine ⟨ret_t ?_, KB.out y3⟩
  rw [HW.out]
  go_light
  clear KB RI HS HS1 HW a0 a1 a2 a3 a4 a5 b0 b1 b2 b3 b4 b5 b6 b7 b8 e0 e1 e2 e3 e4 e5 e6 e7 e8 k0
  exact encw_18 kind HBD.out

end Go.Proofs.YtebpmngllljkaaaDoor

namespace Go.Proofs.YtebpmngllljkaaaDoor
open Go.RowKit

theorem enc_bd_19 (kind : Int) (hr : GrI.right ⟨19, 0, 0, 0, 0, kind⟩) : 9 ≤ kind ∧ kind ≤ 15 := by
  simp [GrI.right, GrI.parts, GrI.nums] at hr
  first | trivial | omega

set_option maxRecDepth 100000 in
set_option maxHeartbeats 6400000 in
theorem xenc_19 (kind : Int) (w : World) (hs : ShAt w) (hr : GrI.right ⟨19, 0, 0, 0, 0, kind⟩) :
    Calls Tryd.prog 21 #[.agg #[.int .i64 19, .int .i64 0, .int .i64 0, .int .i64 0, .int .i64 0, .int .i64 kind]] w fun e w' => e = .returned (.tuple #[.int .u32 (GrI.word ⟨19, 0, 0, 0, 0, kind⟩), .int .i64 0]) ∧ Below w.heap.size w w' := by
  have hb := enc_bd_19 kind hr
  have HBD := Lib.hid hb
  have RI := Lib.hid (fun w hs => xright_19 0 0 0 0 kind w hs (by omega) (by omega))
  rw [show GrI.code (decide (GrI.right ⟨19, 0, 0, 0, 0, kind⟩)) = 0 by simp [GrI.code, hr]] at RI
  clear hr
  have HS := Lib.hid hs
  clear hs
  obtain ⟨WW, hWW⟩ : ∃ WW, WW = GrI.word ⟨19, 0, 0, 0, 0, kind⟩ := ⟨_, rfl⟩
  rw [← hWW]
  have HW := Lib.hid hWW
  clear hWW
  go_enter Tryd.func21, Tryd.ntmps21
  go_wp2_with fail
  refine (RI.out _ (HS.out.alloc _)).mono ?_
  rintro e w1 ⟨rfl, b1⟩
  have HS1 := Lib.hid ((HS.out.alloc _).below b1)
  obtain ⟨x1, rfl⟩ := Wb.start b1
  clear b1
  obtain ⟨e0, e1, e2, e3, e4, e5, e6, e7, e8⟩ := shape9 HS1.out 171 172 173 174 175 176 177 178 179 (.int .u32 3573756063) (.bool false) (.bool false) (.bool false) (.int .i64 0) (.int .i64 0) (.int .i64 0) (.int .i64 16) (.int .i64 8) (by decide) ⟨rfl, rfl, rfl, rfl, rfl, rfl, rfl, rfl, rfl⟩
  have k0 : x1.at.cell? ⟨w.heap.size, 0, none⟩ = some (.int .i64 19) := by rw [x1.cell _ (by simp)]; simp [World.cell?_alloc_new]
  have lt1 : w.heap.size < x1.at.heap.size := by have := x1.size; simp at this; omega
  obtain ⟨a0, a1, a2, a3, a4, a5⟩ := six_prev x1 (.cells #[.int .u32 3573756063, .bool false, .bool false, .bool false, .int .i64 0, .int .i64 0, .int .i64 0, .int .i64 16, .int .i64 8] 60)
  obtain ⟨b0, b1, b2, b3, b4, b5, b6, b7, b8⟩ := nine_new (x1.at) (.int .u32 3573756063) (.bool false) (.bool false) (.bool false) (.int .i64 0) (.int .i64 0) (.int .i64 0) (.int .i64 16) (.int .i64 8) 60 (x1.at.heap.size) rfl
  have KB := Lib.hid (fun (z : Wb (x1.at.alloc (.cells #[.int .u32 3573756063, .bool false, .bool false, .bool false, .int .i64 0, .int .i64 0, .int .i64 0, .int .i64 16, .int .i64 8] 60))) => (((((Below.refl _ _).alloc (Nat.le_refl _) _).trans (x1.bel.mono (by simp))).alloc (by omega) _).trans (z.bel.mono (by simp; omega)) : Below w.heap.size w z.at))
  go_upto_region 5 with fail
  obtain ⟨y0, hy⟩ : ∃ y : Wb (x1.at.alloc (.cells #[.int .u32 3573756063, .bool false, .bool false, .bool false, .int .i64 0, .int .i64 0, .int .i64 0, .int .i64 16, .int .i64 8] 60)), (x1.at.alloc (.cells #[.int .u32 3573756063, .bool false, .bool false, .bool false, .int .i64 0, .int .i64 0, .int .i64 0, .int .i64 16, .int .i64 8] 60)) = y.at := ⟨⟨_, Below.refl _ _⟩, rfl⟩
  rw [hy]
  clear hy
  go_wp2_with fail
  refine (named_no 19 _ _ _ _ _ _ rfl rfl).mono ?_
  rintro e w1 ⟨rfl, q1⟩
  obtain ⟨y3, rfl⟩ := Wb.next q1
  clear q1
  go_wp2
  go_ret2
  refine ⟨ret_t ?_, KB.out y3⟩
  rw [HW.out]
  go_light
  clear KB RI HS HS1 HW a0 a1 a2 a3 a4 a5 b0 b1 b2 b3 b4 b5 b6 b7 b8 e0 e1 e2 e3 e4 e5 e6 e7 e8 k0
  exact encw_19 kind HBD.out

theorem enc_bd_20 (hr : GrI.right ⟨20, 0, 0, 0, 0, 0⟩) : True := by
  simp [GrI.right, GrI.parts, GrI.nums] at hr
  first | trivial | omega

set_option maxRecDepth 100000 in
set_option maxHeartbeats 6400000 in
theorem xenc_20 (w : World) (hs : ShAt w) (hr : GrI.right ⟨20, 0, 0, 0, 0, 0⟩) :
    Calls Tryd.prog 21 #[.agg #[.int .i64 20, .int .i64 0, .int .i64 0, .int .i64 0, .int .i64 0, .int .i64 0]] w fun e w' => e = .returned (.tuple #[.int .u32 (GrI.word ⟨20, 0, 0, 0, 0, 0⟩), .int .i64 0]) ∧ Below w.heap.size w w' := by
  have hb := enc_bd_20 hr
  have HBD := Lib.hid hb
  have RI := Lib.hid (fun w hs => xright_20 0 0 0 0 0 w hs (by omega) (by omega))
  rw [show GrI.code (decide (GrI.right ⟨20, 0, 0, 0, 0, 0⟩)) = 0 by simp [GrI.code, hr]] at RI
  clear hr
  have HS := Lib.hid hs
  clear hs
  obtain ⟨WW, hWW⟩ : ∃ WW, WW = GrI.word ⟨20, 0, 0, 0, 0, 0⟩ := ⟨_, rfl⟩
  rw [← hWW]
  have HW := Lib.hid hWW
  clear hWW
  go_enter Tryd.func21, Tryd.ntmps21
  go_wp2_with fail
  refine (RI.out _ (HS.out.alloc _)).mono ?_
  rintro e w1 ⟨rfl, b1⟩
  have HS1 := Lib.hid ((HS.out.alloc _).below b1)
  obtain ⟨x1, rfl⟩ := Wb.start b1
  clear b1
  obtain ⟨e0, e1, e2, e3, e4, e5, e6, e7, e8⟩ := shape9 HS1.out 180 181 182 183 184 185 186 187 188 (.int .u32 3573759967) (.bool false) (.bool false) (.bool false) (.int .i64 0) (.int .i64 0) (.int .i64 0) (.int .i64 0) (.int .i64 0) (by decide) ⟨rfl, rfl, rfl, rfl, rfl, rfl, rfl, rfl, rfl⟩
  have k0 : x1.at.cell? ⟨w.heap.size, 0, none⟩ = some (.int .i64 20) := by rw [x1.cell _ (by simp)]; simp [World.cell?_alloc_new]
  have lt1 : w.heap.size < x1.at.heap.size := by have := x1.size; simp at this; omega
  obtain ⟨a0, a1, a2, a3, a4, a5⟩ := six_prev x1 (.cells #[.int .u32 3573759967, .bool false, .bool false, .bool false, .int .i64 0, .int .i64 0, .int .i64 0, .int .i64 0, .int .i64 0] 60)
  obtain ⟨b0, b1, b2, b3, b4, b5, b6, b7, b8⟩ := nine_new (x1.at) (.int .u32 3573759967) (.bool false) (.bool false) (.bool false) (.int .i64 0) (.int .i64 0) (.int .i64 0) (.int .i64 0) (.int .i64 0) 60 (x1.at.heap.size) rfl
  have KB := Lib.hid (fun (z : Wb (x1.at.alloc (.cells #[.int .u32 3573759967, .bool false, .bool false, .bool false, .int .i64 0, .int .i64 0, .int .i64 0, .int .i64 0, .int .i64 0] 60))) => (((((Below.refl _ _).alloc (Nat.le_refl _) _).trans (x1.bel.mono (by simp))).alloc (by omega) _).trans (z.bel.mono (by simp; omega)) : Below w.heap.size w z.at))
  go_upto_region 5 with fail
  obtain ⟨y0, hy⟩ : ∃ y : Wb (x1.at.alloc (.cells #[.int .u32 3573759967, .bool false, .bool false, .bool false, .int .i64 0, .int .i64 0, .int .i64 0, .int .i64 0, .int .i64 0] 60)), (x1.at.alloc (.cells #[.int .u32 3573759967, .bool false, .bool false, .bool false, .int .i64 0, .int .i64 0, .int .i64 0, .int .i64 0, .int .i64 0] 60)) = y.at := ⟨⟨_, Below.refl _ _⟩, rfl⟩
  rw [hy]
  clear hy
  go_wp2_with fail
  refine (named_no 20 _ _ _ _ _ _ rfl rfl).mono ?_
  rintro e w1 ⟨rfl, q1⟩
  obtain ⟨y3, rfl⟩ := Wb.next q1
  clear q1
  go_wp2
  go_ret2
  refine ⟨ret_t ?_, KB.out y3⟩
  rw [HW.out]
  go_light
  clear KB RI HS HS1 HW a0 a1 a2 a3 a4 a5 b0 b1 b2 b3 b4 b5 b6 b7 b8 e0 e1 e2 e3 e4 e5 e6 e7 e8 k0
  exact encw_20 HBD.out

theorem enc_bd_21 (d kind : Int) (hr : GrI.right ⟨21, d, 0, 0, 0, kind⟩) : 0 ≤ d ∧ d ≤ 31 ∧ 0 ≤ kind ∧ kind ≤ 7 := by
  simp [GrI.right, GrI.parts, GrI.nums] at hr
  first | trivial | omega

set_option maxRecDepth 100000 in
set_option maxHeartbeats 6400000 in
theorem xenc_21 (d kind : Int) (w : World) (hs : ShAt w) (hr : GrI.right ⟨21, d, 0, 0, 0, kind⟩) :
    Calls Tryd.prog 21 #[.agg #[.int .i64 21, .int .i64 d, .int .i64 0, .int .i64 0, .int .i64 0, .int .i64 kind]] w fun e w' => e = .returned (.tuple #[.int .u32 (GrI.word ⟨21, d, 0, 0, 0, kind⟩), .int .i64 0]) ∧ Below w.heap.size w w' := by
  have hb := enc_bd_21 d kind hr
  have HBD := Lib.hid hb
  have hk : kind = 0 ∨ kind = 1 ∨ kind = 2 ∨ kind = 3 ∨ kind = 4 ∨ kind = 5 ∨ kind = 6 ∨ kind = 7 := by omega
  rcases hk with rfl | rfl | rfl | rfl | rfl | rfl | rfl | rfl
  · have RI := Lib.hid (fun w hs => xright_21 d 0 0 0 0 w hs (by omega) (by omega))
    rw [show GrI.code (decide (GrI.right ⟨21, d, 0, 0, 0, 0⟩)) = 0 by simp [GrI.code, hr]] at RI
    clear hr
    have HS := Lib.hid hs
    clear hs
    obtain ⟨WW, hWW⟩ : ∃ WW, WW = GrI.word ⟨21, d, 0, 0, 0, 0⟩ := ⟨_, rfl⟩
    rw [← hWW]
    have HW := Lib.hid hWW
    clear hWW
    go_enter Tryd.func21, Tryd.ntmps21
    go_wp2_with fail
    refine (RI.out _ (HS.out.alloc _)).mono ?_
    rintro e w1 ⟨rfl, b1⟩
    have HS1 := Lib.hid ((HS.out.alloc _).below b1)
    obtain ⟨x1, rfl⟩ := Wb.start b1
    clear b1
    obtain ⟨e0, e1, e2, e3, e4, e5, e6, e7, e8⟩ := shape9 HS1.out 189 190 191 192 193 194 195 196 197 (.int .u32 3574104832) (.bool true) (.bool false) (.bool false) (.int .i64 0) (.int .i64 0) (.int .i64 0) (.int .i64 8) (.int .i64 0) (by decide) ⟨rfl, rfl, rfl, rfl, rfl, rfl, rfl, rfl, rfl⟩
    have k0 : x1.at.cell? ⟨w.heap.size, 0, none⟩ = some (.int .i64 21) := by rw [x1.cell _ (by simp)]; simp [World.cell?_alloc_new]
    have lt1 : w.heap.size < x1.at.heap.size := by have := x1.size; simp at this; omega
    obtain ⟨a0, a1, a2, a3, a4, a5⟩ := six_prev x1 (.cells #[.int .u32 3574104832, .bool true, .bool false, .bool false, .int .i64 0, .int .i64 0, .int .i64 0, .int .i64 8, .int .i64 0] 60)
    obtain ⟨b0, b1, b2, b3, b4, b5, b6, b7, b8⟩ := nine_new (x1.at) (.int .u32 3574104832) (.bool true) (.bool false) (.bool false) (.int .i64 0) (.int .i64 0) (.int .i64 0) (.int .i64 8) (.int .i64 0) 60 (x1.at.heap.size) rfl
    have KB := Lib.hid (fun (z : Wb (x1.at.alloc (.cells #[.int .u32 3574104832, .bool true, .bool false, .bool false, .int .i64 0, .int .i64 0, .int .i64 0, .int .i64 8, .int .i64 0] 60))) => (((((Below.refl _ _).alloc (Nat.le_refl _) _).trans (x1.bel.mono (by simp))).alloc (by omega) _).trans (z.bel.mono (by simp; omega)) : Below w.heap.size w z.at))
    go_upto_region 5 with fail
    obtain ⟨y0, hy⟩ : ∃ y : Wb (x1.at.alloc (.cells #[.int .u32 3574104832, .bool true, .bool false, .bool false, .int .i64 0, .int .i64 0, .int .i64 0, .int .i64 8, .int .i64 0] 60)), (x1.at.alloc (.cells #[.int .u32 3574104832, .bool true, .bool false, .bool false, .int .i64 0, .int .i64 0, .int .i64 0, .int .i64 8, .int .i64 0] 60)) = y.at := ⟨⟨_, Below.refl _ _⟩, rfl⟩
    rw [hy]
    clear hy
    go_wp2_with fail
    refine (named_tlbi _ _ _ _ _ 0 _ (by decide)).mono ?_
    rintro e w1 ⟨rfl, q1⟩
    obtain ⟨y3, rfl⟩ := Wb.next q1
    clear q1
    go_wp2
    go_ret2
    refine ⟨ret_t ?_, KB.out y3⟩
    rw [HW.out]
    go_light
    clear KB RI HS HS1 HW a0 a1 a2 a3 a4 a5 b0 b1 b2 b3 b4 b5 b6 b7 b8 e0 e1 e2 e3 e4 e5 e6 e7 e8 k0
    exact encw_21_0 d 0 (by have := HBD.out; omega)
  · have RI := Lib.hid (fun w hs => xright_21 d 0 0 0 1 w hs (by omega) (by omega))
    rw [show GrI.code (decide (GrI.right ⟨21, d, 0, 0, 0, 1⟩)) = 0 by simp [GrI.code, hr]] at RI
    clear hr
    have HS := Lib.hid hs
    clear hs
    obtain ⟨WW, hWW⟩ : ∃ WW, WW = GrI.word ⟨21, d, 0, 0, 0, 1⟩ := ⟨_, rfl⟩
    rw [← hWW]
    have HW := Lib.hid hWW
    clear hWW
    go_enter Tryd.func21, Tryd.ntmps21
    go_wp2_with fail
    refine (RI.out _ (HS.out.alloc _)).mono ?_
    rintro e w1 ⟨rfl, b1⟩
    have HS1 := Lib.hid ((HS.out.alloc _).below b1)
    obtain ⟨x1, rfl⟩ := Wb.start b1
    clear b1
    obtain ⟨e0, e1, e2, e3, e4, e5, e6, e7, e8⟩ := shape9 HS1.out 189 190 191 192 193 194 195 196 197 (.int .u32 3574104832) (.bool true) (.bool false) (.bool false) (.int .i64 0) (.int .i64 0) (.int .i64 0) (.int .i64 8) (.int .i64 0) (by decide) ⟨rfl, rfl, rfl, rfl, rfl, rfl, rfl, rfl, rfl⟩
    have k0 : x1.at.cell? ⟨w.heap.size, 0, none⟩ = some (.int .i64 21) := by rw [x1.cell _ (by simp)]; simp [World.cell?_alloc_new]
    have lt1 : w.heap.size < x1.at.heap.size := by have := x1.size; simp at this; omega
    obtain ⟨a0, a1, a2, a3, a4, a5⟩ := six_prev x1 (.cells #[.int .u32 3574104832, .bool true, .bool false, .bool false, .int .i64 0, .int .i64 0, .int .i64 0, .int .i64 8, .int .i64 0] 60)
    obtain ⟨b0, b1, b2, b3, b4, b5, b6, b7, b8⟩ := nine_new (x1.at) (.int .u32 3574104832) (.bool true) (.bool false) (.bool false) (.int .i64 0) (.int .i64 0) (.int .i64 0) (.int .i64 8) (.int .i64 0) 60 (x1.at.heap.size) rfl
    have KB := Lib.hid (fun (z : Wb (x1.at.alloc (.cells #[.int .u32 3574104832, .bool true, .bool false, .bool false, .int .i64 0, .int .i64 0, .int .i64 0, .int .i64 8, .int .i64 0] 60))) => (((((Below.refl _ _).alloc (Nat.le_refl _) _).trans (x1.bel.mono (by simp))).alloc (by omega) _).trans (z.bel.mono (by simp; omega)) : Below w.heap.size w z.at))
    go_upto_region 5 with fail
    obtain ⟨y0, hy⟩ : ∃ y : Wb (x1.at.alloc (.cells #[.int .u32 3574104832, .bool true, .bool false, .bool false, .int .i64 0, .int .i64 0, .int .i64 0, .int .i64 8, .int .i64 0] 60)), (x1.at.alloc (.cells #[.int .u32 3574104832, .bool true, .bool false, .bool false, .int .i64 0, .int .i64 0, .int .i64 0, .int .i64 8, .int .i64 0] 60)) = y.at := ⟨⟨_, Below.refl _ _⟩, rfl⟩
    rw [hy]
    clear hy
    go_wp2_with fail
    refine (named_tlbi _ _ _ _ _ 32 _ (by decide)).mono ?_
    rintro e w1 ⟨rfl, q1⟩
    obtain ⟨y3, rfl⟩ := Wb.next q1
    clear q1
    go_wp2
    go_ret2
    refine ⟨ret_t ?_, KB.out y3⟩
    rw [HW.out]
    go_light
    clear KB RI HS HS1 HW a0 a1 a2 a3 a4 a5 b0 b1 b2 b3 b4 b5 b6 b7 b8 e0 e1 e2 e3 e4 e5 e6 e7 e8 k0
    exact encw_21_1 d 1 (by have := HBD.out; omega)
  · have RI := Lib.hid (fun w hs => xright_21 d 0 0 0 2 w hs (by omega) (by omega))
    rw [show GrI.code (decide (GrI.right ⟨21, d, 0, 0, 0, 2⟩)) = 0 by simp [GrI.code, hr]] at RI
    clear hr
    have HS := Lib.hid hs
    clear hs
    obtain ⟨WW, hWW⟩ : ∃ WW, WW = GrI.word ⟨21, d, 0, 0, 0, 2⟩ := ⟨_, rfl⟩
    rw [← hWW]
    have HW := Lib.hid hWW
    clear hWW
    go_enter Tryd.func21, Tryd.ntmps21
    go_wp2_with fail
    refine (RI.out _ (HS.out.alloc _)).mono ?_
    rintro e w1 ⟨rfl, b1⟩
    have HS1 := Lib.hid ((HS.out.alloc _).below b1)
    obtain ⟨x1, rfl⟩ := Wb.start b1
    clear b1
    obtain ⟨e0, e1, e2, e3, e4, e5, e6, e7, e8⟩ := shape9 HS1.out 189 190 191 192 193 194 195 196 197 (.int .u32 3574104832) (.bool true) (.bool false) (.bool false) (.int .i64 0) (.int .i64 0) (.int .i64 0) (.int .i64 8) (.int .i64 0) (by decide) ⟨rfl, rfl, rfl, rfl, rfl, rfl, rfl, rfl, rfl⟩
    have k0 : x1.at.cell? ⟨w.heap.size, 0, none⟩ = some (.int .i64 21) := by rw [x1.cell _ (by simp)]; simp [World.cell?_alloc_new]
    have lt1 : w.heap.size < x1.at.heap.size := by have := x1.size; simp at this; omega
    obtain ⟨a0, a1, a2, a3, a4, a5⟩ := six_prev x1 (.cells #[.int .u32 3574104832, .bool true, .bool false, .bool false, .int .i64 0, .int .i64 0, .int .i64 0, .int .i64 8, .int .i64 0] 60)
    obtain ⟨b0, b1, b2, b3, b4, b5, b6, b7, b8⟩ := nine_new (x1.at) (.int .u32 3574104832) (.bool true) (.bool false) (.bool false) (.int .i64 0) (.int .i64 0) (.int .i64 0) (.int .i64 8) (.int .i64 0) 60 (x1.at.heap.size) rfl
    have KB := Lib.hid (fun (z : Wb (x1.at.alloc (.cells #[.int .u32 3574104832, .bool true, .bool false, .bool false, .int .i64 0, .int .i64 0, .int .i64 0, .int .i64 8, .int .i64 0] 60))) => (((((Below.refl _ _).alloc (Nat.le_refl _) _).trans (x1.bel.mono (by simp))).alloc (by omega) _).trans (z.bel.mono (by simp; omega)) : Below w.heap.size w z.at))
    go_upto_region 5 with fail
    obtain ⟨y0, hy⟩ : ∃ y : Wb (x1.at.alloc (.cells #[.int .u32 3574104832, .bool true, .bool false, .bool false, .int .i64 0, .int .i64 0, .int .i64 0, .int .i64 8, .int .i64 0] 60)), (x1.at.alloc (.cells #[.int .u32 3574104832, .bool true, .bool false, .bool false, .int .i64 0, .int .i64 0, .int .i64 0, .int .i64 8, .int .i64 0] 60)) = y.at := ⟨⟨_, Below.refl _ _⟩, rfl⟩
    rw [hy]
    clear hy
    go_wp2_with fail
    refine (named_tlbi _ _ _ _ _ 96 _ (by decide)).mono ?_
    rintro e w1 ⟨rfl, q1⟩
    obtain ⟨y3, rfl⟩ := Wb.next q1
    clear q1
    go_wp2
    go_ret2
    refine ⟨ret_t ?_, KB.out y3⟩
    rw [HW.out]
    go_light
    clear KB RI HS HS1 HW a0 a1 a2 a3 a4 a5 b0 b1 b2 b3 b4 b5 b6 b7 b8 e0 e1 e2 e3 e4 e5 e6 e7 e8 k0
    exact encw_21_2 d 2 (by have := HBD.out; omega)
  · have RI := Lib.hid (fun w hs => xright_21 d 0 0 0 3 w hs (by omega) (by omega))
    rw [show GrI.code (decide (GrI.right ⟨21, d, 0, 0, 0, 3⟩)) = 0 by simp [GrI.code, hr]] at RI
    clear hr
    have HS := Lib.hid hs
    clear hs
    obtain ⟨WW, hWW⟩ : ∃ WW, WW = GrI.word ⟨21, d, 0, 0, 0, 3⟩ := ⟨_, rfl⟩
    rw [← hWW]
    have HW := Lib.hid hWW
    clear hWW
    go_enter Tryd.func21, Tryd.ntmps21
    go_wp2_with fail
    refine (RI.out _ (HS.out.alloc _)).mono ?_
    rintro e w1 ⟨rfl, b1⟩
    have HS1 := Lib.hid ((HS.out.alloc _).below b1)
    obtain ⟨x1, rfl⟩ := Wb.start b1
    clear b1
    obtain ⟨e0, e1, e2, e3, e4, e5, e6, e7, e8⟩ := shape9 HS1.out 189 190 191 192 193 194 195 196 197 (.int .u32 3574104832) (.bool true) (.bool false) (.bool false) (.int .i64 0) (.int .i64 0) (.int .i64 0) (.int .i64 8) (.int .i64 0) (by decide) ⟨rfl, rfl, rfl, rfl, rfl, rfl, rfl, rfl, rfl⟩
    have k0 : x1.at.cell? ⟨w.heap.size, 0, none⟩ = some (.int .i64 21) := by rw [x1.cell _ (by simp)]; simp [World.cell?_alloc_new]
    have lt1 : w.heap.size < x1.at.heap.size := by have := x1.size; simp at this; omega
    obtain ⟨a0, a1, a2, a3, a4, a5⟩ := six_prev x1 (.cells #[.int .u32 3574104832, .bool true, .bool false, .bool false, .int .i64 0, .int .i64 0, .int .i64 0, .int .i64 8, .int .i64 0] 60)
    obtain ⟨b0, b1, b2, b3, b4, b5, b6, b7, b8⟩ := nine_new (x1.at) (.int .u32 3574104832) (.bool true) (.bool false) (.bool false) (.int .i64 0) (.int .i64 0) (.int .i64 0) (.int .i64 8) (.int .i64 0) 60 (x1.at.heap.size) rfl
    have KB := Lib.hid (fun (z : Wb (x1.at.alloc (.cells #[.int .u32 3574104832, .bool true, .bool false, .bool false, .int .i64 0, .int .i64 0, .int .i64 0, .int .i64 8, .int .i64 0] 60))) => (((((Below.refl _ _).alloc (Nat.le_refl _) _).trans (x1.bel.mono (by simp))).alloc (by omega) _).trans (z.bel.mono (by simp; omega)) : Below w.heap.size w z.at))
    go_upto_region 5 with fail
    obtain ⟨y0, hy⟩ : ∃ y : Wb (x1.at.alloc (.cells #[.int .u32 3574104832, .bool true, .bool false, .bool false, .int .i64 0, .int .i64 0, .int .i64 0, .int .i64 8, .int .i64 0] 60)), (x1.at.alloc (.cells #[.int .u32 3574104832, .bool true, .bool false, .bool false, .int .i64 0, .int .i64 0, .int .i64 0, .int .i64 8, .int .i64 0] 60)) = y.at := ⟨⟨_, Below.refl _ _⟩, rfl⟩
    rw [hy]
    clear hy
    go_wp2_with fail
    refine (named_tlbi _ _ _ _ _ 64 _ (by decide)).mono ?_
    rintro e w1 ⟨rfl, q1⟩
    obtain ⟨y3, rfl⟩ := Wb.next q1
    clear q1
    go_wp2
    go_ret2
    refine ⟨ret_t ?_, KB.out y3⟩
    rw [HW.out]
    go_light
    clear KB RI HS HS1 HW a0 a1 a2 a3 a4 a5 b0 b1 b2 b3 b4 b5 b6 b7 b8 e0 e1 e2 e3 e4 e5 e6 e7 e8 k0
    exact encw_21_3 d 3 (by have := HBD.out; omega)
  · have RI := Lib.hid (fun w hs => xright_21 d 0 0 0 4 w hs (by omega) (by omega))
    rw [show GrI.code (decide (GrI.right ⟨21, d, 0, 0, 0, 4⟩)) = 0 by simp [GrI.code, hr]] at RI
    clear hr
    have HS := Lib.hid hs
    clear hs
    obtain ⟨WW, hWW⟩ : ∃ WW, WW = GrI.word ⟨21, d, 0, 0, 0, 4⟩ := ⟨_, rfl⟩
    rw [← hWW]
    have HW := Lib.hid hWW
    clear hWW
    go_enter Tryd.func21, Tryd.ntmps21
    go_wp2_with fail
    refine (RI.out _ (HS.out.alloc _)).mono ?_
    rintro e w1 ⟨rfl, b1⟩
    have HS1 := Lib.hid ((HS.out.alloc _).below b1)
    obtain ⟨x1, rfl⟩ := Wb.start b1
    clear b1
    obtain ⟨e0, e1, e2, e3, e4, e5, e6, e7, e8⟩ := shape9 HS1.out 189 190 191 192 193 194 195 196 197 (.int .u32 3574104832) (.bool true) (.bool false) (.bool false) (.int .i64 0) (.int .i64 0) (.int .i64 0) (.int .i64 8) (.int .i64 0) (by decide) ⟨rfl, rfl, rfl, rfl, rfl, rfl, rfl, rfl, rfl⟩
    have k0 : x1.at.cell? ⟨w.heap.size, 0, none⟩ = some (.int .i64 21) := by rw [x1.cell _ (by simp)]; simp [World.cell?_alloc_new]
    have lt1 : w.heap.size < x1.at.heap.size := by have := x1.size; simp at this; omega
    obtain ⟨a0, a1, a2, a3, a4, a5⟩ := six_prev x1 (.cells #[.int .u32 3574104832, .bool true, .bool false, .bool false, .int .i64 0, .int .i64 0, .int .i64 0, .int .i64 8, .int .i64 0] 60)
    obtain ⟨b0, b1, b2, b3, b4, b5, b6, b7, b8⟩ := nine_new (x1.at) (.int .u32 3574104832) (.bool true) (.bool false) (.bool false) (.int .i64 0) (.int .i64 0) (.int .i64 0) (.int .i64 8) (.int .i64 0) 60 (x1.at.heap.size) rfl
    have KB := Lib.hid (fun (z : Wb (x1.at.alloc (.cells #[.int .u32 3574104832, .bool true, .bool false, .bool false, .int .i64 0, .int .i64 0, .int .i64 0, .int .i64 8, .int .i64 0] 60))) => (((((Below.refl _ _).alloc (Nat.le_refl _) _).trans (x1.bel.mono (by simp))).alloc (by omega) _).trans (z.bel.mono (by simp; omega)) : Below w.heap.size w z.at))
    go_upto_region 5 with fail
    obtain ⟨y0, hy⟩ : ∃ y : Wb (x1.at.alloc (.cells #[.int .u32 3574104832, .bool true, .bool false, .bool false, .int .i64 0, .int .i64 0, .int .i64 0, .int .i64 8, .int .i64 0] 60)), (x1.at.alloc (.cells #[.int .u32 3574104832, .bool true, .bool false, .bool false, .int .i64 0, .int .i64 0, .int .i64 0, .int .i64 8, .int .i64 0] 60)) = y.at := ⟨⟨_, Below.refl _ _⟩, rfl⟩
    rw [hy]
    clear hy
    go_wp2_with fail
    refine (named_tlbi _ _ _ _ _ 1024 _ (by decide)).mono ?_
    rintro e w1 ⟨rfl, q1⟩
    obtain ⟨y3, rfl⟩ := Wb.next q1
    clear q1
    go_wp2
    go_ret2
    refine ⟨ret_t ?_, KB.out y3⟩
    rw [HW.out]
    go_light
    clear KB RI HS HS1 HW a0 a1 a2 a3 a4 a5 b0 b1 b2 b3 b4 b5 b6 b7 b8 e0 e1 e2 e3 e4 e5 e6 e7 e8 k0
    exact encw_21_4 d 4 (by have := HBD.out; omega)
  · have RI := Lib.hid (fun w hs => xright_21 d 0 0 0 5 w hs (by omega) (by omega))
    rw [show GrI.code (decide (GrI.right ⟨21, d, 0, 0, 0, 5⟩)) = 0 by simp [GrI.code, hr]] at RI
    clear hr
    have HS := Lib.hid hs
    clear hs
    obtain ⟨WW, hWW⟩ : ∃ WW, WW = GrI.word ⟨21, d, 0, 0, 0, 5⟩ := ⟨_, rfl⟩
    rw [← hWW]
    have HW := Lib.hid hWW
    clear hWW
    go_enter Tryd.func21, Tryd.ntmps21
    go_wp2_with fail
    refine (RI.out _ (HS.out.alloc _)).mono ?_
    rintro e w1 ⟨rfl, b1⟩
    have HS1 := Lib.hid ((HS.out.alloc _).below b1)
    obtain ⟨x1, rfl⟩ := Wb.start b1
    clear b1
    obtain ⟨e0, e1, e2, e3, e4, e5, e6, e7, e8⟩ := shape9 HS1.out 189 190 191 192 193 194 195 196 197 (.int .u32 3574104832) (.bool true) (.bool false) (.bool false) (.int .i64 0) (.int .i64 0) (.int .i64 0) (.int .i64 8) (.int .i64 0) (by decide) ⟨rfl, rfl, rfl, rfl, rfl, rfl, rfl, rfl, rfl⟩
    have k0 : x1.at.cell? ⟨w.heap.size, 0, none⟩ = some (.int .i64 21) := by rw [x1.cell _ (by simp)]; simp [World.cell?_alloc_new]
    have lt1 : w.heap.size < x1.at.heap.size := by have := x1.size; simp at this; omega
    obtain ⟨a0, a1, a2, a3, a4, a5⟩ := six_prev x1 (.cells #[.int .u32 3574104832, .bool true, .bool false, .bool false, .int .i64 0, .int .i64 0, .int .i64 0, .int .i64 8, .int .i64 0] 60)
    obtain ⟨b0, b1, b2, b3, b4, b5, b6, b7, b8⟩ := nine_new (x1.at) (.int .u32 3574104832) (.bool true) (.bool false) (.bool false) (.int .i64 0) (.int .i64 0) (.int .i64 0) (.int .i64 8) (.int .i64 0) 60 (x1.at.heap.size) rfl
    have KB := Lib.hid (fun (z : Wb (x1.at.alloc (.cells #[.int .u32 3574104832, .bool true, .bool false, .bool false, .int .i64 0, .int .i64 0, .int .i64 0, .int .i64 8, .int .i64 0] 60))) => (((((Below.refl _ _).alloc (Nat.le_refl _) _).trans (x1.bel.mono (by simp))).alloc (by omega) _).trans (z.bel.mono (by simp; omega)) : Below w.heap.size w z.at))
    go_upto_region 5 with fail
    obtain ⟨y0, hy⟩ : ∃ y : Wb (x1.at.alloc (.cells #[.int .u32 3574104832, .bool true, .bool false, .bool false, .int .i64 0, .int .i64 0, .int .i64 0, .int .i64 8, .int .i64 0] 60)), (x1.at.alloc (.cells #[.int .u32 3574104832, .bool true, .bool false, .bool false, .int .i64 0, .int .i64 0, .int .i64 0, .int .i64 8, .int .i64 0] 60)) = y.at := ⟨⟨_, Below.refl _ _⟩, rfl⟩
    rw [hy]
    clear hy
    go_wp2_with fail
    refine (named_tlbi _ _ _ _ _ 1056 _ (by decide)).mono ?_
    rintro e w1 ⟨rfl, q1⟩
    obtain ⟨y3, rfl⟩ := Wb.next q1
    clear q1
    go_wp2
    go_ret2
    refine ⟨ret_t ?_, KB.out y3⟩
    rw [HW.out]
    go_light
    clear KB RI HS HS1 HW a0 a1 a2 a3 a4 a5 b0 b1 b2 b3 b4 b5 b6 b7 b8 e0 e1 e2 e3 e4 e5 e6 e7 e8 k0
    exact encw_21_5 d 5 (by have := HBD.out; omega)
  · have RI := Lib.hid (fun w hs => xright_21 d 0 0 0 6 w hs (by omega) (by omega))
    rw [show GrI.code (decide (GrI.right ⟨21, d, 0, 0, 0, 6⟩)) = 0 by simp [GrI.code, hr]] at RI
    clear hr
    have HS := Lib.hid hs
    clear hs
    obtain ⟨WW, hWW⟩ : ∃ WW, WW = GrI.word ⟨21, d, 0, 0, 0, 6⟩ := ⟨_, rfl⟩
    rw [← hWW]
    have HW := Lib.hid hWW
    clear hWW
    go_enter Tryd.func21, Tryd.ntmps21
    go_wp2_with fail
    refine (RI.out _ (HS.out.alloc _)).mono ?_
    rintro e w1 ⟨rfl, b1⟩
    have HS1 := Lib.hid ((HS.out.alloc _).below b1)
    obtain ⟨x1, rfl⟩ := Wb.start b1
    clear b1
    obtain ⟨e0, e1, e2, e3, e4, e5, e6, e7, e8⟩ := shape9 HS1.out 189 190 191 192 193 194 195 196 197 (.int .u32 3574104832) (.bool true) (.bool false) (.bool false) (.int .i64 0) (.int .i64 0) (.int .i64 0) (.int .i64 8) (.int .i64 0) (by decide) ⟨rfl, rfl, rfl, rfl, rfl, rfl, rfl, rfl, rfl⟩
    have k0 : x1.at.cell? ⟨w.heap.size, 0, none⟩ = some (.int .i64 21) := by rw [x1.cell _ (by simp)]; simp [World.cell?_alloc_new]
    have lt1 : w.heap.size < x1.at.heap.size := by have := x1.size; simp at this; omega
    obtain ⟨a0, a1, a2, a3, a4, a5⟩ := six_prev x1 (.cells #[.int .u32 3574104832, .bool true, .bool false, .bool false, .int .i64 0, .int .i64 0, .int .i64 0, .int .i64 8, .int .i64 0] 60)
    obtain ⟨b0, b1, b2, b3, b4, b5, b6, b7, b8⟩ := nine_new (x1.at) (.int .u32 3574104832) (.bool true) (.bool false) (.bool false) (.int .i64 0) (.int .i64 0) (.int .i64 0) (.int .i64 8) (.int .i64 0) 60 (x1.at.heap.size) rfl
    have KB := Lib.hid (fun (z : Wb (x1.at.alloc (.cells #[.int .u32 3574104832, .bool true, .bool false, .bool false, .int .i64 0, .int .i64 0, .int .i64 0, .int .i64 8, .int .i64 0] 60))) => (((((Below.refl _ _).alloc (Nat.le_refl _) _).trans (x1.bel.mono (by simp))).alloc (by omega) _).trans (z.bel.mono (by simp; omega)) : Below w.heap.size w z.at))
    go_upto_region 5 with fail
    obtain ⟨y0, hy⟩ : ∃ y : Wb (x1.at.alloc (.cells #[.int .u32 3574104832, .bool true, .bool false, .bool false, .int .i64 0, .int .i64 0, .int .i64 0, .int .i64 8, .int .i64 0] 60)), (x1.at.alloc (.cells #[.int .u32 3574104832, .bool true, .bool false, .bool false, .int .i64 0, .int .i64 0, .int .i64 0, .int .i64 8, .int .i64 0] 60)) = y.at := ⟨⟨_, Below.refl _ _⟩, rfl⟩
    rw [hy]
    clear hy
    go_wp2_with fail
    refine (named_tlbi _ _ _ _ _ 1120 _ (by decide)).mono ?_
    rintro e w1 ⟨rfl, q1⟩
    obtain ⟨y3, rfl⟩ := Wb.next q1
    clear q1
    go_wp2
    go_ret2
    refine ⟨ret_t ?_, KB.out y3⟩
    rw [HW.out]
    go_light
    clear KB RI HS HS1 HW a0 a1 a2 a3 a4 a5 b0 b1 b2 b3 b4 b5 b6 b7 b8 e0 e1 e2 e3 e4 e5 e6 e7 e8 k0
    exact encw_21_6 d 6 (by have := HBD.out; omega)
  · have RI := Lib.hid (fun w hs => xright_21 d 0 0 0 7 w hs (by omega) (by omega))
    rw [show GrI.code (decide (GrI.right ⟨21, d, 0, 0, 0, 7⟩)) = 0 by simp [GrI.code, hr]] at RI
    clear hr
    have HS := Lib.hid hs
    clear hs
    obtain ⟨WW, hWW⟩ : ∃ WW, WW = GrI.word ⟨21, d, 0, 0, 0, 7⟩ := ⟨_, rfl⟩
    rw [← hWW]
    have HW := Lib.hid hWW
    clear hWW
    go_enter Tryd.func21, Tryd.ntmps21
    go_wp2_with fail
    refine (RI.out _ (HS.out.alloc _)).mono ?_
    rintro e w1 ⟨rfl, b1⟩
    have HS1 := Lib.hid ((HS.out.alloc _).below b1)
    obtain ⟨x1, rfl⟩ := Wb.start b1
    clear b1
    obtain ⟨e0, e1, e2, e3, e4, e5, e6, e7, e8⟩ := shape9 HS1.out 189 190 191 192 193 194 195 196 197 (.int .u32 3574104832) (.bool true) (.bool false) (.bool false) (.int .i64 0) (.int .i64 0) (.int .i64 0) (.int .i64 8) (.int .i64 0) (by decide) ⟨rfl, rfl, rfl, rfl, rfl, rfl, rfl, rfl, rfl⟩
    have k0 : x1.at.cell? ⟨w.heap.size, 0, none⟩ = some (.int .i64 21) := by rw [x1.cell _ (by simp)]; simp [World.cell?_alloc_new]
    have lt1 : w.heap.size < x1.at.heap.size := by have := x1.size; simp at this; omega
    obtain ⟨a0, a1, a2, a3, a4, a5⟩ := six_prev x1 (.cells #[.int .u32 3574104832, .bool true, .bool false, .bool false, .int .i64 0, .int .i64 0, .int .i64 0, .int .i64 8, .int .i64 0] 60)
    obtain ⟨b0, b1, b2, b3, b4, b5, b6, b7, b8⟩ := nine_new (x1.at) (.int .u32 3574104832) (.bool true) (.bool false) (.bool false) (.int .i64 0) (.int .i64 0) (.int .i64 0) (.int .i64 8) (.int .i64 0) 60 (x1.at.heap.size) rfl
    have KB := Lib.hid (fun (z : Wb (x1.at.alloc (.cells #[.int .u32 3574104832, .bool true, .bool false, .bool false, .int .i64 0, .int .i64 0, .int .i64 0, .int .i64 8, .int .i64 0] 60))) => (((((Below.refl _ _).alloc (Nat.le_refl _) _).trans (x1.bel.mono (by simp))).alloc (by omega) _).trans (z.bel.mono (by simp; omega)) : Below w.heap.size w z.at))
    go_upto_region 5 with fail
    obtain ⟨y0, hy⟩ : ∃ y : Wb (x1.at.alloc (.cells #[.int .u32 3574104832, .bool true, .bool false, .bool false, .int .i64 0, .int .i64 0, .int .i64 0, .int .i64 8, .int .i64 0] 60)), (x1.at.alloc (.cells #[.int .u32 3574104832, .bool true, .bool false, .bool false, .int .i64 0, .int .i64 0, .int .i64 0, .int .i64 8, .int .i64 0] 60)) = y.at := ⟨⟨_, Below.refl _ _⟩, rfl⟩
    rw [hy]
    clear hy
    go_wp2_with fail
    refine (named_tlbi _ _ _ _ _ 1088 _ (by decide)).mono ?_
    rintro e w1 ⟨rfl, q1⟩
    obtain ⟨y3, rfl⟩ := Wb.next q1
    clear q1
    go_wp2
    go_ret2
    refine ⟨ret_t ?_, KB.out y3⟩
    rw [HW.out]
    go_light
    clear KB RI HS HS1 HW a0 a1 a2 a3 a4 a5 b0 b1 b2 b3 b4 b5 b6 b7 b8 e0 e1 e2 e3 e4 e5 e6 e7 e8 k0
    exact encw_21_7 d 7 (by have := HBD.out; omega)

theorem enc_bd_22 (hr : GrI.right ⟨22, 0, 0, 0, 0, 0⟩) : True := by
  simp [GrI.right, GrI.parts, GrI.nums] at hr
  first | trivial | omega

set_option maxRecDepth 100000 in
set_option maxHeartbeats 6400000 in
theorem xenc_22 (w : World) (hs : ShAt w) (hr : GrI.right ⟨22, 0, 0, 0, 0, 0⟩) :
    Calls Tryd.prog 21 #[.agg #[.int .i64 22, .int .i64 0, .int .i64 0, .int .i64 0, .int .i64 0, .int .i64 0]] w fun e w' => e = .returned (.tuple #[.int .u32 (GrI.word ⟨22, 0, 0, 0, 0, 0⟩), .int .i64 0]) ∧ Below w.heap.size w w' := by
  have hb := enc_bd_22 hr
  have HBD := Lib.hid hb
  have RI := Lib.hid (fun w hs => xright_22 0 0 0 0 0 w hs (by omega) (by omega))
  rw [show GrI.code (decide (GrI.right ⟨22, 0, 0, 0, 0, 0⟩)) = 0 by simp [GrI.code, hr]] at RI
  clear hr
  have HS := Lib.hid hs
  clear hs
  obtain ⟨WW, hWW⟩ : ∃ WW, WW = GrI.word ⟨22, 0, 0, 0, 0, 0⟩ := ⟨_, rfl⟩
  rw [← hWW]
  have HW := Lib.hid hWW
  clear hWW
  go_enter Tryd.func21, Tryd.ntmps21
  go_wp2_with fail
  refine (RI.out _ (HS.out.alloc _)).mono ?_
  rintro e w1 ⟨rfl, b1⟩
  have HS1 := Lib.hid ((HS.out.alloc _).below b1)
  obtain ⟨x1, rfl⟩ := Wb.start b1
  clear b1
  obtain ⟨e0, e1, e2, e3, e4, e5, e6, e7, e8⟩ := shape9 HS1.out 198 199 200 201 202 203 204 205 206 (.int .u32 3600745440) (.bool false) (.bool false) (.bool false) (.int .i64 0) (.int .i64 0) (.int .i64 0) (.int .i64 0) (.int .i64 0) (by decide) ⟨rfl, rfl, rfl, rfl, rfl, rfl, rfl, rfl, rfl⟩
  have k0 : x1.at.cell? ⟨w.heap.size, 0, none⟩ = some (.int .i64 22) := by rw [x1.cell _ (by simp)]; simp [World.cell?_alloc_new]
  have lt1 : w.heap.size < x1.at.heap.size := by have := x1.size; simp at this; omega
  obtain ⟨a0, a1, a2, a3, a4, a5⟩ := six_prev x1 (.cells #[.int .u32 3600745440, .bool false, .bool false, .bool false, .int .i64 0, .int .i64 0, .int .i64 0, .int .i64 0, .int .i64 0] 60)
  obtain ⟨b0, b1, b2, b3, b4, b5, b6, b7, b8⟩ := nine_new (x1.at) (.int .u32 3600745440) (.bool false) (.bool false) (.bool false) (.int .i64 0) (.int .i64 0) (.int .i64 0) (.int .i64 0) (.int .i64 0) 60 (x1.at.heap.size) rfl
  have KB := Lib.hid (fun (z : Wb (x1.at.alloc (.cells #[.int .u32 3600745440, .bool false, .bool false, .bool false, .int .i64 0, .int .i64 0, .int .i64 0, .int .i64 0, .int .i64 0] 60))) => (((((Below.refl _ _).alloc (Nat.le_refl _) _).trans (x1.bel.mono (by simp))).alloc (by omega) _).trans (z.bel.mono (by simp; omega)) : Below w.heap.size w z.at))
  go_upto_region 5 with fail
  obtain ⟨y0, hy⟩ : ∃ y : Wb (x1.at.alloc (.cells #[.int .u32 3600745440, .bool false, .bool false, .bool false, .int .i64 0, .int .i64 0, .int .i64 0, .int .i64 0, .int .i64 0] 60)), (x1.at.alloc (.cells #[.int .u32 3600745440, .bool false, .bool false, .bool false, .int .i64 0, .int .i64 0, .int .i64 0, .int .i64 0, .int .i64 0] 60)) = y.at := ⟨⟨_, Below.refl _ _⟩, rfl⟩
  rw [hy]
  clear hy
  go_wp2_with fail
  refine (named_no 22 _ _ _ _ _ _ rfl rfl).mono ?_
  rintro e w1 ⟨rfl, q1⟩
  obtain ⟨y3, rfl⟩ := Wb.next q1
  clear q1
  go_wp2
  go_ret2
  refine ⟨ret_t ?_, KB.out y3⟩
  rw [HW.out]
  go_light
  clear KB RI HS HS1 HW a0 a1 a2 a3 a4 a5 b0 b1 b2 b3 b4 b5 b6 b7 b8 e0 e1 e2 e3 e4 e5 e6 e7 e8 k0
  exact encw_22 HBD.out

theorem enc_bd_23 (d kind : Int) (hr : GrI.right ⟨23, d, 0, 0, 0, kind⟩) : 0 ≤ d ∧ d ≤ 31 ∧ 0 ≤ kind ∧ kind ≤ 2 := by
  simp [GrI.right, GrI.parts, GrI.nums] at hr
  first | trivial | omega

set_option maxRecDepth 100000 in
set_option maxHeartbeats 6400000 in
theorem xenc_23 (d kind : Int) (w : World) (hs : ShAt w) (hr : GrI.right ⟨23, d, 0, 0, 0, kind⟩) :
    Calls Tryd.prog 21 #[.agg #[.int .i64 23, .int .i64 d, .int .i64 0, .int .i64 0, .int .i64 0, .int .i64 kind]] w fun e w' => e = .returned (.tuple #[.int .u32 (GrI.word ⟨23, d, 0, 0, 0, kind⟩), .int .i64 0]) ∧ Below w.heap.size w w' := by
  have hb := enc_bd_23 d kind hr
  have HBD := Lib.hid hb
  have hk : kind = 0 ∨ kind = 1 ∨ kind = 2 := by omega
  rcases hk with rfl | rfl | rfl
  · have RI := Lib.hid (fun w hs => xright_23 d 0 0 0 0 w hs (by omega) (by omega))
    rw [show GrI.code (decide (GrI.right ⟨23, d, 0, 0, 0, 0⟩)) = 0 by simp [GrI.code, hr]] at RI
    clear hr
    have HS := Lib.hid hs
    clear hs
    obtain ⟨WW, hWW⟩ : ∃ WW, WW = GrI.word ⟨23, d, 0, 0, 0, 0⟩ := ⟨_, rfl⟩
    rw [← hWW]
    have HW := Lib.hid hWW
    clear hWW
    go_enter Tryd.func21, Tryd.ntmps21
    go_wp2_with fail
    refine (RI.out _ (HS.out.alloc _)).mono ?_
    rintro e w1 ⟨rfl, b1⟩
    have HS1 := Lib.hid ((HS.out.alloc _).below b1)
    obtain ⟨x1, rfl⟩ := Wb.start b1
    clear b1
    obtain ⟨e0, e1, e2, e3, e4, e5, e6, e7, e8⟩ := shape9 HS1.out 207 208 209 210 211 212 213 214 215 (.int .u32 3577217024) (.bool true) (.bool false) (.bool false) (.int .i64 0) (.int .i64 0) (.int .i64 0) (.int .i64 3) (.int .i64 0) (by decide) ⟨rfl, rfl, rfl, rfl, rfl, rfl, rfl, rfl, rfl⟩
    have k0 : x1.at.cell? ⟨w.heap.size, 0, none⟩ = some (.int .i64 23) := by rw [x1.cell _ (by simp)]; simp [World.cell?_alloc_new]
    have lt1 : w.heap.size < x1.at.heap.size := by have := x1.size; simp at this; omega
    obtain ⟨a0, a1, a2, a3, a4, a5⟩ := six_prev x1 (.cells #[.int .u32 3577217024, .bool true, .bool false, .bool false, .int .i64 0, .int .i64 0, .int .i64 0, .int .i64 3, .int .i64 0] 60)
    obtain ⟨b0, b1, b2, b3, b4, b5, b6, b7, b8⟩ := nine_new (x1.at) (.int .u32 3577217024) (.bool true) (.bool false) (.bool false) (.int .i64 0) (.int .i64 0) (.int .i64 0) (.int .i64 3) (.int .i64 0) 60 (x1.at.heap.size) rfl
    have KB := Lib.hid (fun (z : Wb (x1.at.alloc (.cells #[.int .u32 3577217024, .bool true, .bool false, .bool false, .int .i64 0, .int .i64 0, .int .i64 0, .int .i64 3, .int .i64 0] 60))) => (((((Below.refl _ _).alloc (Nat.le_refl _) _).trans (x1.bel.mono (by simp))).alloc (by omega) _).trans (z.bel.mono (by simp; omega)) : Below w.heap.size w z.at))
    go_upto_region 5 with fail
    obtain ⟨y0, hy⟩ : ∃ y : Wb (x1.at.alloc (.cells #[.int .u32 3577217024, .bool true, .bool false, .bool false, .int .i64 0, .int .i64 0, .int .i64 0, .int .i64 3, .int .i64 0] 60)), (x1.at.alloc (.cells #[.int .u32 3577217024, .bool true, .bool false, .bool false, .int .i64 0, .int .i64 0, .int .i64 0, .int .i64 3, .int .i64 0] 60)) = y.at := ⟨⟨_, Below.refl _ _⟩, rfl⟩
    rw [hy]
    clear hy
    go_wp2_with fail
    refine (named_mrs _ _ _ _ _ 20992 _ (by decide)).mono ?_
    rintro e w1 ⟨rfl, q1⟩
    obtain ⟨y3, rfl⟩ := Wb.next q1
    clear q1
    go_wp2
    go_ret2
    refine ⟨ret_t ?_, KB.out y3⟩
    rw [HW.out]
    go_light
    clear KB RI HS HS1 HW a0 a1 a2 a3 a4 a5 b0 b1 b2 b3 b4 b5 b6 b7 b8 e0 e1 e2 e3 e4 e5 e6 e7 e8 k0
    exact encw_23_0 d 0 (by have := HBD.out; omega)
  · have RI := Lib.hid (fun w hs => xright_23 d 0 0 0 1 w hs (by omega) (by omega))
    rw [show GrI.code (decide (GrI.right ⟨23, d, 0, 0, 0, 1⟩)) = 0 by simp [GrI.code, hr]] at RI
    clear hr
    have HS := Lib.hid hs
    clear hs
    obtain ⟨WW, hWW⟩ : ∃ WW, WW = GrI.word ⟨23, d, 0, 0, 0, 1⟩ := ⟨_, rfl⟩
    rw [← hWW]
    have HW := Lib.hid hWW
    clear hWW
    go_enter Tryd.func21, Tryd.ntmps21
    go_wp2_with fail
    refine (RI.out _ (HS.out.alloc _)).mono ?_
    rintro e w1 ⟨rfl, b1⟩
    have HS1 := Lib.hid ((HS.out.alloc _).below b1)
    obtain ⟨x1, rfl⟩ := Wb.start b1
    clear b1
    obtain ⟨e0, e1, e2, e3, e4, e5, e6, e7, e8⟩ := shape9 HS1.out 207 208 209 210 211 212 213 214 215 (.int .u32 3577217024) (.bool true) (.bool false) (.bool false) (.int .i64 0) (.int .i64 0) (.int .i64 0) (.int .i64 3) (.int .i64 0) (by decide) ⟨rfl, rfl, rfl, rfl, rfl, rfl, rfl, rfl, rfl⟩
    have k0 : x1.at.cell? ⟨w.heap.size, 0, none⟩ = some (.int .i64 23) := by rw [x1.cell _ (by simp)]; simp [World.cell?_alloc_new]
    have lt1 : w.heap.size < x1.at.heap.size := by have := x1.size; simp at this; omega
    obtain ⟨a0, a1, a2, a3, a4, a5⟩ := six_prev x1 (.cells #[.int .u32 3577217024, .bool true, .bool false, .bool false, .int .i64 0, .int .i64 0, .int .i64 0, .int .i64 3, .int .i64 0] 60)
    obtain ⟨b0, b1, b2, b3, b4, b5, b6, b7, b8⟩ := nine_new (x1.at) (.int .u32 3577217024) (.bool true) (.bool false) (.bool false) (.int .i64 0) (.int .i64 0) (.int .i64 0) (.int .i64 3) (.int .i64 0) 60 (x1.at.heap.size) rfl
    have KB := Lib.hid (fun (z : Wb (x1.at.alloc (.cells #[.int .u32 3577217024, .bool true, .bool false, .bool false, .int .i64 0, .int .i64 0, .int .i64 0, .int .i64 3, .int .i64 0] 60))) => (((((Below.refl _ _).alloc (Nat.le_refl _) _).trans (x1.bel.mono (by simp))).alloc (by omega) _).trans (z.bel.mono (by simp; omega)) : Below w.heap.size w z.at))
    go_upto_region 5 with fail
    obtain ⟨y0, hy⟩ : ∃ y : Wb (x1.at.alloc (.cells #[.int .u32 3577217024, .bool true, .bool false, .bool false, .int .i64 0, .int .i64 0, .int .i64 0, .int .i64 3, .int .i64 0] 60)), (x1.at.alloc (.cells #[.int .u32 3577217024, .bool true, .bool false, .bool false, .int .i64 0, .int .i64 0, .int .i64 0, .int .i64 3, .int .i64 0] 60)) = y.at := ⟨⟨_, Below.refl _ _⟩, rfl⟩
    rw [hy]
    clear hy
    go_wp2_with fail
    refine (named_mrs _ _ _ _ _ 24576 _ (by decide)).mono ?_
    rintro e w1 ⟨rfl, q1⟩
    obtain ⟨y3, rfl⟩ := Wb.next q1
    clear q1
    go_wp2
    go_ret2
    refine ⟨ret_t ?_, KB.out y3⟩
    rw [HW.out]
    go_light
    clear KB RI HS HS1 HW a0 a1 a2 a3 a4 a5 b0 b1 b2 b3 b4 b5 b6 b7 b8 e0 e1 e2 e3 e4 e5 e6 e7 e8 k0
    exact encw_23_1 d 1 (by have := HBD.out; omega)
  · have RI := Lib.hid (fun w hs => xright_23 d 0 0 0 2 w hs (by omega) (by omega))
    rw [show GrI.code (decide (GrI.right ⟨23, d, 0, 0, 0, 2⟩)) = 0 by simp [GrI.code, hr]] at RI
    clear hr
    have HS := Lib.hid hs
    clear hs
    obtain ⟨WW, hWW⟩ : ∃ WW, WW = GrI.word ⟨23, d, 0, 0, 0, 2⟩ := ⟨_, rfl⟩
    rw [← hWW]
    have HW := Lib.hid hWW
    clear hWW
    go_enter Tryd.func21, Tryd.ntmps21
    go_wp2_with fail
    refine (RI.out _ (HS.out.alloc _)).mono ?_
    rintro e w1 ⟨rfl, b1⟩
    have HS1 := Lib.hid ((HS.out.alloc _).below b1)
    obtain ⟨x1, rfl⟩ := Wb.start b1
    clear b1
    obtain ⟨e0, e1, e2, e3, e4, e5, e6, e7, e8⟩ := shape9 HS1.out 207 208 209 210 211 212 213 214 215 (.int .u32 3577217024) (.bool true) (.bool false) (.bool false) (.int .i64 0) (.int .i64 0) (.int .i64 0) (.int .i64 3) (.int .i64 0) (by decide) ⟨rfl, rfl, rfl, rfl, rfl, rfl, rfl, rfl, rfl⟩
    have k0 : x1.at.cell? ⟨w.heap.size, 0, none⟩ = some (.int .i64 23) := by rw [x1.cell _ (by simp)]; simp [World.cell?_alloc_new]
    have lt1 : w.heap.size < x1.at.heap.size := by have := x1.size; simp at this; omega
    obtain ⟨a0, a1, a2, a3, a4, a5⟩ := six_prev x1 (.cells #[.int .u32 3577217024, .bool true, .bool false, .bool false, .int .i64 0, .int .i64 0, .int .i64 0, .int .i64 3, .int .i64 0] 60)
    obtain ⟨b0, b1, b2, b3, b4, b5, b6, b7, b8⟩ := nine_new (x1.at) (.int .u32 3577217024) (.bool true) (.bool false) (.bool false) (.int .i64 0) (.int .i64 0) (.int .i64 0) (.int .i64 3) (.int .i64 0) 60 (x1.at.heap.size) rfl
    have KB := Lib.hid (fun (z : Wb (x1.at.alloc (.cells #[.int .u32 3577217024, .bool true, .bool false, .bool false, .int .i64 0, .int .i64 0, .int .i64 0, .int .i64 3, .int .i64 0] 60))) => (((((Below.refl _ _).alloc (Nat.le_refl _) _).trans (x1.bel.mono (by simp))).alloc (by omega) _).trans (z.bel.mono (by simp; omega)) : Below w.heap.size w z.at))
    go_upto_region 5 with fail
    obtain ⟨y0, hy⟩ : ∃ y : Wb (x1.at.alloc (.cells #[.int .u32 3577217024, .bool true, .bool false, .bool false, .int .i64 0, .int .i64 0, .int .i64 0, .int .i64 3, .int .i64 0] 60)), (x1.at.alloc (.cells #[.int .u32 3577217024, .bool true, .bool false, .bool false, .int .i64 0, .int .i64 0, .int .i64 0, .int .i64 3, .int .i64 0] 60)) = y.at := ⟨⟨_, Below.refl _ _⟩, rfl⟩
    rw [hy]
    clear hy
    go_wp2_with fail
    refine (named_mrs _ _ _ _ _ 16416 _ (by decide)).mono ?_
    rintro e w1 ⟨rfl, q1⟩
    obtain ⟨y3, rfl⟩ := Wb.next q1
    clear q1
    go_wp2
    go_ret2
    refine ⟨ret_t ?_, KB.out y3⟩
    rw [HW.out]
    go_light
    clear KB RI HS HS1 HW a0 a1 a2 a3 a4 a5 b0 b1 b2 b3 b4 b5 b6 b7 b8 e0 e1 e2 e3 e4 e5 e6 e7 e8 k0
    exact encw_23_2 d 2 (by have := HBD.out; omega)

end Go.Proofs.YtebpmngllljkaaaDoor
