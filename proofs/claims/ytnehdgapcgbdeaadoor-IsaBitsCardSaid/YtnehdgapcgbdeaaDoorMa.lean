/-
  Layer 3, the walks: the page's own Word: at, rest, Word.
-/
import Derived.Test.YtnehdgapcgbdeaaDoorRz
import Derived.Test.YtnehdgapcgbdeaaDoorFw
import Derived.Deep.QuietTactic
import Derived.BigQuiet
import Derived.LoopTactic
set_option linter.unusedSimpArgs false
set_option linter.unusedVariables false
namespace GrI
theorem right_bd {op d n m imm kind : Int} (h : right ⟨op, d, n, m, imm, kind⟩) : 0 ≤ d ∧ d ≤ 31 ∧ 0 ≤ n ∧ n ≤ 31 ∧ 0 ≤ m ∧ m ≤ 31 :=
  ⟨h.2.2.1, h.2.2.2.1, h.2.2.2.2.1, h.2.2.2.2.2.1, h.2.2.2.2.2.2.1, h.2.2.2.2.2.2.2.1⟩
end GrI
namespace Go.Proofs.YtnehdgapcgbdeaaDoor
open Go.RowKit
theorem ret_i {a b : Int} (h : a = b) : Ending.returned (.int .i64 a) = .returned (.int .i64 b) := by rw [h]

set_option maxHeartbeats 800000 in
theorem at_12_10 (n : Int) (w : World) (h0 : 0 ≤ n) (h1 : n < 4096) :
    Calls Tryd.prog 25 #[.int .i64 n, .int .i64 12, .int .i64 10] w fun e w' => e = .returned (.int .i64 (n % 4096 * 1024)) ∧ w = w' := by
  go_enter Tryd.func25, Tryd.ntmps25
  go_wp2
  go_loop [7] (fun m => ∃ v : Int, 0 ≤ v ∧ v < 4096 ∧ m = .int .i64 v ∧ v % 4096 = n % 4096) (fun m => (-(intOf m)).toNat)
  case atStart => exact ⟨n, h0, h1, rfl, rfl⟩
  case round =>
    obtain ⟨v, v0, v1, rfl, hv⟩ := hrel
    have HV := Lib.hid hv
    clear hv h0 h1
    by_cases c : v < 0
    · go_wp2
      go_round
      case rel => exact ⟨v + 4096, by omega, by omega, rfl, by rw [← HV.out]; omega⟩
      case measure => simp [intOf]; omega
    · go_wp2
      go_ret
      exact ⟨ret_i (by have := HV.out; omega), rfl⟩

set_option maxHeartbeats 800000 in
theorem at_2_21 (n : Int) (w : World) (h0 : 0 ≤ n) (h1 : n < 4) :
    Calls Tryd.prog 25 #[.int .i64 n, .int .i64 2, .int .i64 21] w fun e w' => e = .returned (.int .i64 (n % 4 * 2097152)) ∧ w = w' := by
  go_enter Tryd.func25, Tryd.ntmps25
  go_wp2
  go_loop [7] (fun m => ∃ v : Int, 0 ≤ v ∧ v < 4 ∧ m = .int .i64 v ∧ v % 4 = n % 4) (fun m => (-(intOf m)).toNat)
  case atStart => exact ⟨n, h0, h1, rfl, rfl⟩
  case round =>
    obtain ⟨v, v0, v1, rfl, hv⟩ := hrel
    have HV := Lib.hid hv
    clear hv h0 h1
    by_cases c : v < 0
    · go_wp2
      go_round
      case rel => exact ⟨v + 4, by omega, by omega, rfl, by rw [← HV.out]; omega⟩
      case measure => simp [intOf]; omega
    · go_wp2
      go_ret
      exact ⟨ret_i (by have := HV.out; omega), rfl⟩

set_option maxHeartbeats 800000 in
theorem at_16_5 (n : Int) (w : World) (h0 : 0 ≤ n) (h1 : n < 65536) :
    Calls Tryd.prog 25 #[.int .i64 n, .int .i64 16, .int .i64 5] w fun e w' => e = .returned (.int .i64 (n % 65536 * 32)) ∧ w = w' := by
  go_enter Tryd.func25, Tryd.ntmps25
  go_wp2
  go_loop [7] (fun m => ∃ v : Int, 0 ≤ v ∧ v < 65536 ∧ m = .int .i64 v ∧ v % 65536 = n % 65536) (fun m => (-(intOf m)).toNat)
  case atStart => exact ⟨n, h0, h1, rfl, rfl⟩
  case round =>
    obtain ⟨v, v0, v1, rfl, hv⟩ := hrel
    have HV := Lib.hid hv
    clear hv h0 h1
    by_cases c : v < 0
    · go_wp2
      go_round
      case rel => exact ⟨v + 65536, by omega, by omega, rfl, by rw [← HV.out]; omega⟩
      case measure => simp [intOf]; omega
    · go_wp2
      go_ret
      exact ⟨ret_i (by have := HV.out; omega), rfl⟩

set_option maxHeartbeats 800000 in
theorem at_26_0 (n : Int) (w : World) (h0 : -67108864 ≤ n) (h1 : n < 67108864) :
    Calls Tryd.prog 25 #[.int .i64 n, .int .i64 26, .int .i64 0] w fun e w' => e = .returned (.int .i64 (n % 67108864 * 1)) ∧ w = w' := by
  go_enter Tryd.func25, Tryd.ntmps25
  go_wp2
  go_loop [7] (fun m => ∃ v : Int, -67108864 ≤ v ∧ v < 67108864 ∧ m = .int .i64 v ∧ v % 67108864 = n % 67108864) (fun m => (-(intOf m)).toNat)
  case atStart => exact ⟨n, h0, h1, rfl, rfl⟩
  case round =>
    obtain ⟨v, v0, v1, rfl, hv⟩ := hrel
    have HV := Lib.hid hv
    clear hv h0 h1
    by_cases c : v < 0
    · go_wp2
      go_round
      case rel => exact ⟨v + 67108864, by omega, by omega, rfl, by rw [← HV.out]; omega⟩
      case measure => simp [intOf]; omega
    · go_wp2
      go_ret
      exact ⟨ret_i (by have := HV.out; omega), rfl⟩

set_option maxHeartbeats 800000 in
theorem at_19_5 (n : Int) (w : World) (h0 : -524288 ≤ n) (h1 : n < 524288) :
    Calls Tryd.prog 25 #[.int .i64 n, .int .i64 19, .int .i64 5] w fun e w' => e = .returned (.int .i64 (n % 524288 * 32)) ∧ w = w' := by
  go_enter Tryd.func25, Tryd.ntmps25
  go_wp2
  go_loop [7] (fun m => ∃ v : Int, -524288 ≤ v ∧ v < 524288 ∧ m = .int .i64 v ∧ v % 524288 = n % 524288) (fun m => (-(intOf m)).toNat)
  case atStart => exact ⟨n, h0, h1, rfl, rfl⟩
  case round =>
    obtain ⟨v, v0, v1, rfl, hv⟩ := hrel
    have HV := Lib.hid hv
    clear hv h0 h1
    by_cases c : v < 0
    · go_wp2
      go_round
      case rel => exact ⟨v + 524288, by omega, by omega, rfl, by rw [← HV.out]; omega⟩
      case measure => simp [intOf]; omega
    · go_wp2
      go_ret
      exact ⟨ret_i (by have := HV.out; omega), rfl⟩

set_option maxRecDepth 100000 in
set_option maxHeartbeats 3200000 in
theorem prest_15 (d n m imm kind : Int) (w : World) (hr : GrI.right ⟨15, d, n, m, imm, kind⟩) :
    Calls Tryd.prog 26 #[.agg #[.int .i64 15, .int .i64 d, .int .i64 n, .int .i64 m, .int .i64 imm, .int .i64 kind]] w fun e w' => e = .returned (.int .i64 (GrI.word ⟨15, d, n, m, imm, kind⟩)) ∧ Below w.heap.size w w' := by
  obtain ⟨d0, d1, n0, n1, m0, m1⟩ := GrI.right_bd hr
  have hn := hr.2.2.2.2.2.2.2.2.2.2.2.2.2
  simp [GrI.nums] at hn
  have E := Lib.hid (show GrI.word ⟨15, d, n, m, imm, kind⟩ = 3019898880 + d + imm % 524288 * 32 from rfl)
  clear hr
  go_enter Tryd.func26, Tryd.ntmps26
  go_wp2_with fail
  go_quiet ((go_at_call 25; exact Calls.quiet_of_same ((at_19_5 _ _ (by omega) (by omega)).mono fun _ _ h => ⟨h.1, h.2.symm⟩)))
  go_wp2
  go_ret
  exact ⟨ret_i (by rw [E.out]), ((Below.refl _ _).alloc (Nat.le_refl _) _).trans ((Drew.refl _).drewN _ |>.below _)⟩

set_option maxRecDepth 100000 in
set_option maxHeartbeats 3200000 in
theorem prest_16 (d n m imm kind : Int) (w : World) (hr : GrI.right ⟨16, d, n, m, imm, kind⟩) :
    Calls Tryd.prog 26 #[.agg #[.int .i64 16, .int .i64 d, .int .i64 n, .int .i64 m, .int .i64 imm, .int .i64 kind]] w fun e w' => e = .returned (.int .i64 (GrI.word ⟨16, d, n, m, imm, kind⟩)) ∧ Below w.heap.size w w' := by
  obtain ⟨d0, d1, n0, n1, m0, m1⟩ := GrI.right_bd hr
  have hn := hr.2.2.2.2.2.2.2.2.2.2.2.2.2
  simp [GrI.nums] at hn
  have E := Lib.hid (show GrI.word ⟨16, d, n, m, imm, kind⟩ = 3036676096 + d + imm % 524288 * 32 from rfl)
  clear hr
  go_enter Tryd.func26, Tryd.ntmps26
  go_wp2_with fail
  go_quiet ((go_at_call 25; exact Calls.quiet_of_same ((at_19_5 _ _ (by omega) (by omega)).mono fun _ _ h => ⟨h.1, h.2.symm⟩)))
  go_wp2
  go_ret
  exact ⟨ret_i (by rw [E.out]), ((Below.refl _ _).alloc (Nat.le_refl _) _).trans ((Drew.refl _).drewN _ |>.below _)⟩

set_option maxRecDepth 100000 in
set_option maxHeartbeats 3200000 in
theorem prest_17 (d n m imm kind : Int) (w : World) (hr : GrI.right ⟨17, d, n, m, imm, kind⟩) :
    Calls Tryd.prog 26 #[.agg #[.int .i64 17, .int .i64 d, .int .i64 n, .int .i64 m, .int .i64 imm, .int .i64 kind]] w fun e w' => e = .returned (.int .i64 (GrI.word ⟨17, d, n, m, imm, kind⟩)) ∧ Below w.heap.size w w' := by
  obtain ⟨d0, d1, n0, n1, m0, m1⟩ := GrI.right_bd hr
  have hn := hr.2.2.2.2.2.2.2.2.2.2.2.2.2
  simp [GrI.nums] at hn
  have E := Lib.hid (show GrI.word ⟨17, d, n, m, imm, kind⟩ = 1409286144 + kind + imm % 524288 * 32 from rfl)
  clear hr
  go_enter Tryd.func26, Tryd.ntmps26
  go_wp2_with fail
  go_quiet ((go_at_call 25; exact Calls.quiet_of_same ((at_19_5 _ _ (by omega) (by omega)).mono fun _ _ h => ⟨h.1, h.2.symm⟩)))
  go_wp2
  go_ret
  exact ⟨ret_i (by rw [E.out]), ((Below.refl _ _).alloc (Nat.le_refl _) _).trans ((Drew.refl _).drewN _ |>.below _)⟩

set_option maxRecDepth 100000 in
set_option maxHeartbeats 3200000 in
theorem prest_18 (d n m imm kind : Int) (w : World) (hr : GrI.right ⟨18, d, n, m, imm, kind⟩) :
    Calls Tryd.prog 26 #[.agg #[.int .i64 18, .int .i64 d, .int .i64 n, .int .i64 m, .int .i64 imm, .int .i64 kind]] w fun e w' => e = .returned (.int .i64 (GrI.word ⟨18, d, n, m, imm, kind⟩)) ∧ Below w.heap.size w w' := by
  obtain ⟨d0, d1, n0, n1, m0, m1⟩ := GrI.right_bd hr
  have hn := hr.2.2.2.2.2.2.2.2.2.2.2.2.2
  simp [GrI.nums] at hn
  have E := Lib.hid (show GrI.word ⟨18, d, n, m, imm, kind⟩ = 3573756095 + kind * 256 from rfl)
  have k0 : 0 ≤ kind := by omega
  have k1 : kind ≤ 15 := by omega
  clear hr hn
  go_enter Tryd.func26, Tryd.ntmps26
  go_wp2
  go_ret
  exact ⟨ret_i (by rw [E.out]), (Below.refl _ _).alloc (Nat.le_refl _) _⟩

set_option maxRecDepth 100000 in
set_option maxHeartbeats 3200000 in
theorem prest_19 (d n m imm kind : Int) (w : World) (hr : GrI.right ⟨19, d, n, m, imm, kind⟩) :
    Calls Tryd.prog 26 #[.agg #[.int .i64 19, .int .i64 d, .int .i64 n, .int .i64 m, .int .i64 imm, .int .i64 kind]] w fun e w' => e = .returned (.int .i64 (GrI.word ⟨19, d, n, m, imm, kind⟩)) ∧ Below w.heap.size w w' := by
  obtain ⟨d0, d1, n0, n1, m0, m1⟩ := GrI.right_bd hr
  have hn := hr.2.2.2.2.2.2.2.2.2.2.2.2.2
  simp [GrI.nums] at hn
  have E := Lib.hid (show GrI.word ⟨19, d, n, m, imm, kind⟩ = 3573756063 + kind * 256 from rfl)
  have k0 : 0 ≤ kind := by omega
  have k1 : kind ≤ 15 := by omega
  clear hr hn
  go_enter Tryd.func26, Tryd.ntmps26
  go_wp2
  go_ret
  exact ⟨ret_i (by rw [E.out]), (Below.refl _ _).alloc (Nat.le_refl _) _⟩

set_option maxRecDepth 100000 in
set_option maxHeartbeats 3200000 in
theorem prest_20 (d n m imm kind : Int) (w : World) (hr : GrI.right ⟨20, d, n, m, imm, kind⟩) :
    Calls Tryd.prog 26 #[.agg #[.int .i64 20, .int .i64 d, .int .i64 n, .int .i64 m, .int .i64 imm, .int .i64 kind]] w fun e w' => e = .returned (.int .i64 (GrI.word ⟨20, d, n, m, imm, kind⟩)) ∧ Below w.heap.size w w' := by
  obtain ⟨d0, d1, n0, n1, m0, m1⟩ := GrI.right_bd hr
  have E := Lib.hid (show GrI.word ⟨20, d, n, m, imm, kind⟩ = 3573759967 from rfl)
  clear hr
  go_enter Tryd.func26, Tryd.ntmps26
  go_wp2
  go_ret
  exact ⟨ret_i (by rw [E.out]), (Below.refl _ _).alloc (Nat.le_refl _) _⟩

set_option maxRecDepth 100000 in
set_option maxHeartbeats 3200000 in
theorem prest_21 (d n m imm kind : Int) (w : World) (hr : GrI.right ⟨21, d, n, m, imm, kind⟩) :
    Calls Tryd.prog 26 #[.agg #[.int .i64 21, .int .i64 d, .int .i64 n, .int .i64 m, .int .i64 imm, .int .i64 kind]] w fun e w' => e = .returned (.int .i64 (GrI.word ⟨21, d, n, m, imm, kind⟩)) ∧ Below w.heap.size w w' := by
  obtain ⟨d0, d1, n0, n1, m0, m1⟩ := GrI.right_bd hr
  have hn := hr.2.2.2.2.2.2.2.2.2.2.2.2.2
  simp [GrI.nums] at hn
  have ho : kind = 0 ∨ kind = 1 ∨ kind = 2 ∨ kind = 3 ∨ kind = 4 ∨ kind = 5 ∨ kind = 6 ∨ kind = 7 := by omega
  clear hn hr
  rcases ho with rfl | rfl | rfl | rfl | rfl | rfl | rfl | rfl
  · have E := Lib.hid (show GrI.word ⟨21, d, n, m, imm, 0⟩ = 3574104832 + d by simp [GrI.word] <;> omega)
    go_enter Tryd.func26, Tryd.ntmps26
    go_wp2_with fail
    go_quiet (fail)
    go_wp2
    go_ret
    exact ⟨ret_i (by rw [E.out]; try omega), (((Below.refl _ _).alloc (Nat.le_refl _) _).alloc (by simp) _).trans ((Drew.refl _).drewN _ |>.below _)⟩
  · have E := Lib.hid (show GrI.word ⟨21, d, n, m, imm, 1⟩ = 3574104864 + d by simp [GrI.word] <;> omega)
    go_enter Tryd.func26, Tryd.ntmps26
    go_wp2_with fail
    go_quiet (fail)
    go_wp2
    go_ret
    exact ⟨ret_i (by rw [E.out]; try omega), (((Below.refl _ _).alloc (Nat.le_refl _) _).alloc (by simp) _).trans ((Drew.refl _).drewN _ |>.below _)⟩
  · have E := Lib.hid (show GrI.word ⟨21, d, n, m, imm, 2⟩ = 3574104928 + d by simp [GrI.word] <;> omega)
    go_enter Tryd.func26, Tryd.ntmps26
    go_wp2_with fail
    go_quiet (fail)
    go_wp2
    go_ret
    exact ⟨ret_i (by rw [E.out]; try omega), (((Below.refl _ _).alloc (Nat.le_refl _) _).alloc (by simp) _).trans ((Drew.refl _).drewN _ |>.below _)⟩
  · have E := Lib.hid (show GrI.word ⟨21, d, n, m, imm, 3⟩ = 3574104896 + d by simp [GrI.word] <;> omega)
    go_enter Tryd.func26, Tryd.ntmps26
    go_wp2_with fail
    go_quiet (fail)
    go_wp2
    go_ret
    exact ⟨ret_i (by rw [E.out]; try omega), (((Below.refl _ _).alloc (Nat.le_refl _) _).alloc (by simp) _).trans ((Drew.refl _).drewN _ |>.below _)⟩
  · have E := Lib.hid (show GrI.word ⟨21, d, n, m, imm, 4⟩ = 3574105856 + d by simp [GrI.word] <;> omega)
    go_enter Tryd.func26, Tryd.ntmps26
    go_wp2_with fail
    go_quiet (fail)
    go_wp2
    go_ret
    exact ⟨ret_i (by rw [E.out]; try omega), (((Below.refl _ _).alloc (Nat.le_refl _) _).alloc (by simp) _).trans ((Drew.refl _).drewN _ |>.below _)⟩
  · have E := Lib.hid (show GrI.word ⟨21, d, n, m, imm, 5⟩ = 3574105888 + d by simp [GrI.word] <;> omega)
    go_enter Tryd.func26, Tryd.ntmps26
    go_wp2_with fail
    go_quiet (fail)
    go_wp2
    go_ret
    exact ⟨ret_i (by rw [E.out]; try omega), (((Below.refl _ _).alloc (Nat.le_refl _) _).alloc (by simp) _).trans ((Drew.refl _).drewN _ |>.below _)⟩
  · have E := Lib.hid (show GrI.word ⟨21, d, n, m, imm, 6⟩ = 3574105952 + d by simp [GrI.word] <;> omega)
    go_enter Tryd.func26, Tryd.ntmps26
    go_wp2_with fail
    go_quiet (fail)
    go_wp2
    go_ret
    exact ⟨ret_i (by rw [E.out]; try omega), (((Below.refl _ _).alloc (Nat.le_refl _) _).alloc (by simp) _).trans ((Drew.refl _).drewN _ |>.below _)⟩
  · have E := Lib.hid (show GrI.word ⟨21, d, n, m, imm, 7⟩ = 3574105920 + d by simp [GrI.word] <;> omega)
    go_enter Tryd.func26, Tryd.ntmps26
    go_wp2_with fail
    go_quiet (fail)
    go_wp2
    go_ret
    exact ⟨ret_i (by rw [E.out]; try omega), (((Below.refl _ _).alloc (Nat.le_refl _) _).alloc (by simp) _).trans ((Drew.refl _).drewN _ |>.below _)⟩

set_option maxRecDepth 100000 in
set_option maxHeartbeats 3200000 in
theorem prest_22 (d n m imm kind : Int) (w : World) (hr : GrI.right ⟨22, d, n, m, imm, kind⟩) :
    Calls Tryd.prog 26 #[.agg #[.int .i64 22, .int .i64 d, .int .i64 n, .int .i64 m, .int .i64 imm, .int .i64 kind]] w fun e w' => e = .returned (.int .i64 (GrI.word ⟨22, d, n, m, imm, kind⟩)) ∧ Below w.heap.size w w' := by
  obtain ⟨d0, d1, n0, n1, m0, m1⟩ := GrI.right_bd hr
  have E := Lib.hid (show GrI.word ⟨22, d, n, m, imm, kind⟩ = 3600745440 from rfl)
  clear hr
  go_enter Tryd.func26, Tryd.ntmps26
  go_wp2
  go_ret
  exact ⟨ret_i (by rw [E.out]), (Below.refl _ _).alloc (Nat.le_refl _) _⟩

set_option maxRecDepth 100000 in
set_option maxHeartbeats 3200000 in
theorem prest_23 (d n m imm kind : Int) (w : World) (hr : GrI.right ⟨23, d, n, m, imm, kind⟩) :
    Calls Tryd.prog 26 #[.agg #[.int .i64 23, .int .i64 d, .int .i64 n, .int .i64 m, .int .i64 imm, .int .i64 kind]] w fun e w' => e = .returned (.int .i64 (GrI.word ⟨23, d, n, m, imm, kind⟩)) ∧ Below w.heap.size w w' := by
  obtain ⟨d0, d1, n0, n1, m0, m1⟩ := GrI.right_bd hr
  have hn := hr.2.2.2.2.2.2.2.2.2.2.2.2.2
  simp [GrI.nums] at hn
  have ho : kind = 0 ∨ kind = 1 ∨ kind = 2 := by omega
  clear hn hr
  rcases ho with rfl | rfl | rfl
  · have E := Lib.hid (show GrI.word ⟨23, d, n, m, imm, 0⟩ = 3577238016 + d by simp [GrI.word] <;> omega)
    go_enter Tryd.func26, Tryd.ntmps26
    go_wp2_with fail
    go_quiet (fail)
    go_wp2
    go_ret
    exact ⟨ret_i (by rw [E.out]; try omega), (((Below.refl _ _).alloc (Nat.le_refl _) _).alloc (by simp) _).trans ((Drew.refl _).drewN _ |>.below _)⟩
  · have E := Lib.hid (show GrI.word ⟨23, d, n, m, imm, 1⟩ = 3577241600 + d by simp [GrI.word] <;> omega)
    go_enter Tryd.func26, Tryd.ntmps26
    go_wp2_with fail
    go_quiet (fail)
    go_wp2
    go_ret
    exact ⟨ret_i (by rw [E.out]; try omega), (((Below.refl _ _).alloc (Nat.le_refl _) _).alloc (by simp) _).trans ((Drew.refl _).drewN _ |>.below _)⟩
  · have E := Lib.hid (show GrI.word ⟨23, d, n, m, imm, 2⟩ = 3577233440 + d by simp [GrI.word] <;> omega)
    go_enter Tryd.func26, Tryd.ntmps26
    go_wp2_with fail
    go_quiet (fail)
    go_wp2
    go_ret
    exact ⟨ret_i (by rw [E.out]; try omega), (((Below.refl _ _).alloc (Nat.le_refl _) _).alloc (by simp) _).trans ((Drew.refl _).drewN _ |>.below _)⟩

set_option maxRecDepth 100000 in
set_option maxHeartbeats 3200000 in
theorem pword_1 (d n m imm kind : Int) (w : World) (hr : GrI.right ⟨1, d, n, m, imm, kind⟩) :
    Calls Tryd.prog 13 #[.agg #[.int .i64 1, .int .i64 d, .int .i64 n, .int .i64 m, .int .i64 imm, .int .i64 kind]] w fun e w' => e = .returned (.int .i64 (GrI.word ⟨1, d, n, m, imm, kind⟩)) ∧ Below w.heap.size w w' := by
  obtain ⟨d0, d1, n0, n1, m0, m1⟩ := GrI.right_bd hr
  have E := Lib.hid (show GrI.word ⟨1, d, n, m, imm, kind⟩ = 3573751839 from rfl)
  clear hr
  go_enter Tryd.func13, Tryd.ntmps13
  go_wp2
  go_ret
  exact ⟨ret_i (by rw [E.out]), (Below.refl _ _).alloc (Nat.le_refl _) _⟩

set_option maxRecDepth 100000 in
set_option maxHeartbeats 3200000 in
theorem pword_2 (d n m imm kind : Int) (w : World) (hr : GrI.right ⟨2, d, n, m, imm, kind⟩) :
    Calls Tryd.prog 13 #[.agg #[.int .i64 2, .int .i64 d, .int .i64 n, .int .i64 m, .int .i64 imm, .int .i64 kind]] w fun e w' => e = .returned (.int .i64 (GrI.word ⟨2, d, n, m, imm, kind⟩)) ∧ Below w.heap.size w w' := by
  obtain ⟨d0, d1, n0, n1, m0, m1⟩ := GrI.right_bd hr
  have hn := hr.2.2.2.2.2.2.2.2.2.2.2.2.2
  simp [GrI.nums] at hn
  have E := Lib.hid (show GrI.word ⟨2, d, n, m, imm, kind⟩ = 4181721088 + (d + n * 32 + m * 65536) + imm / 8 % 4096 * 1024 from rfl)
  have i0 : 0 ≤ imm := by omega
  have i1 : imm ≤ 32760 := by omega
  have i2 : imm / 8 < 4096 := by omega
  clear hr hn
  go_enter Tryd.func13, Tryd.ntmps13
  go_wp2_with ((go_at_call 25; refine (at_12_10 _ _ (by omega) (by omega)).mono ?_; rintro e w1 ⟨rfl, rfl⟩))
  go_ret
  exact ⟨ret_i (by rw [E.out]), (Below.refl _ _).alloc (Nat.le_refl _) _⟩

set_option maxRecDepth 100000 in
set_option maxHeartbeats 3200000 in
theorem pword_3 (d n m imm kind : Int) (w : World) (hr : GrI.right ⟨3, d, n, m, imm, kind⟩) :
    Calls Tryd.prog 13 #[.agg #[.int .i64 3, .int .i64 d, .int .i64 n, .int .i64 m, .int .i64 imm, .int .i64 kind]] w fun e w' => e = .returned (.int .i64 (GrI.word ⟨3, d, n, m, imm, kind⟩)) ∧ Below w.heap.size w w' := by
  obtain ⟨d0, d1, n0, n1, m0, m1⟩ := GrI.right_bd hr
  have hn := hr.2.2.2.2.2.2.2.2.2.2.2.2.2
  simp [GrI.nums] at hn
  have E := Lib.hid (show GrI.word ⟨3, d, n, m, imm, kind⟩ = 4177526784 + (d + n * 32 + m * 65536) + imm / 8 % 4096 * 1024 from rfl)
  have i0 : 0 ≤ imm := by omega
  have i1 : imm ≤ 32760 := by omega
  have i2 : imm / 8 < 4096 := by omega
  clear hr hn
  go_enter Tryd.func13, Tryd.ntmps13
  go_wp2_with ((go_at_call 25; refine (at_12_10 _ _ (by omega) (by omega)).mono ?_; rintro e w1 ⟨rfl, rfl⟩))
  go_ret
  exact ⟨ret_i (by rw [E.out]), (Below.refl _ _).alloc (Nat.le_refl _) _⟩

set_option maxRecDepth 100000 in
set_option maxHeartbeats 3200000 in
theorem pword_4 (d n m imm kind : Int) (w : World) (hr : GrI.right ⟨4, d, n, m, imm, kind⟩) :
    Calls Tryd.prog 13 #[.agg #[.int .i64 4, .int .i64 d, .int .i64 n, .int .i64 m, .int .i64 imm, .int .i64 kind]] w fun e w' => e = .returned (.int .i64 (GrI.word ⟨4, d, n, m, imm, kind⟩)) ∧ Below w.heap.size w w' := by
  obtain ⟨d0, d1, n0, n1, m0, m1⟩ := GrI.right_bd hr
  have E := Lib.hid (show GrI.word ⟨4, d, n, m, imm, kind⟩ = 3370122240 + (d + n * 32 + m * 65536) from rfl)
  clear hr
  go_enter Tryd.func13, Tryd.ntmps13
  go_wp2
  go_ret
  exact ⟨ret_i (by rw [E.out]), (Below.refl _ _).alloc (Nat.le_refl _) _⟩

set_option maxRecDepth 100000 in
set_option maxHeartbeats 3200000 in
theorem pword_5 (d n m imm kind : Int) (w : World) (hr : GrI.right ⟨5, d, n, m, imm, kind⟩) :
    Calls Tryd.prog 13 #[.agg #[.int .i64 5, .int .i64 d, .int .i64 n, .int .i64 m, .int .i64 imm, .int .i64 kind]] w fun e w' => e = .returned (.int .i64 (GrI.word ⟨5, d, n, m, imm, kind⟩)) ∧ Below w.heap.size w w' := by
  obtain ⟨d0, d1, n0, n1, m0, m1⟩ := GrI.right_bd hr
  have E := Lib.hid (show GrI.word ⟨5, d, n, m, imm, kind⟩ = 3365927936 + (d + n * 32 + m * 65536) from rfl)
  clear hr
  go_enter Tryd.func13, Tryd.ntmps13
  go_wp2
  go_ret
  exact ⟨ret_i (by rw [E.out]), (Below.refl _ _).alloc (Nat.le_refl _) _⟩

set_option maxRecDepth 100000 in
set_option maxHeartbeats 3200000 in
theorem pword_6 (d n m imm kind : Int) (w : World) (hr : GrI.right ⟨6, d, n, m, imm, kind⟩) :
    Calls Tryd.prog 13 #[.agg #[.int .i64 6, .int .i64 d, .int .i64 n, .int .i64 m, .int .i64 imm, .int .i64 kind]] w fun e w' => e = .returned (.int .i64 (GrI.word ⟨6, d, n, m, imm, kind⟩)) ∧ Below w.heap.size w w' := by
  obtain ⟨d0, d1, n0, n1, m0, m1⟩ := GrI.right_bd hr
  have hn := hr.2.2.2.2.2.2.2.2.2.2.2.2.2
  simp [GrI.nums] at hn
  have E := Lib.hid (show GrI.word ⟨6, d, n, m, imm, kind⟩ = 3531603968 + (d + n * 32 + m * 65536) + kind % 4 * 2097152 + imm % 65536 * 32 from rfl)
  clear hr
  go_enter Tryd.func13, Tryd.ntmps13
  go_wp2_with fail
  go_quiet ((first | (go_at_call 25; with_reducible exact Calls.quiet_of_same ((at_2_21 kind _ (by omega) (by omega)).mono fun _ _ h => ⟨h.1, h.2.symm⟩)) | (go_at_call 25; with_reducible exact Calls.quiet_of_same ((at_16_5 imm _ (by omega) (by omega)).mono fun _ _ h => ⟨h.1, h.2.symm⟩))))
  go_wp2
  go_ret
  exact ⟨ret_i (by rw [E.out]), ((Below.refl _ _).alloc (Nat.le_refl _) _).trans ((Drew.refl _).drewN _ |>.below _)⟩

set_option maxRecDepth 100000 in
set_option maxHeartbeats 3200000 in
theorem pword_7 (d n m imm kind : Int) (w : World) (hr : GrI.right ⟨7, d, n, m, imm, kind⟩) :
    Calls Tryd.prog 13 #[.agg #[.int .i64 7, .int .i64 d, .int .i64 n, .int .i64 m, .int .i64 imm, .int .i64 kind]] w fun e w' => e = .returned (.int .i64 (GrI.word ⟨7, d, n, m, imm, kind⟩)) ∧ Below w.heap.size w w' := by
  obtain ⟨d0, d1, n0, n1, m0, m1⟩ := GrI.right_bd hr
  have hn := hr.2.2.2.2.2.2.2.2.2.2.2.2.2
  simp [GrI.nums] at hn
  have E := Lib.hid (show GrI.word ⟨7, d, n, m, imm, kind⟩ = 2432696320 + (d + n * 32 + m * 65536) + imm % 4096 * 1024 from rfl)
  have i0 : 0 ≤ imm := by omega
  have i1 : imm ≤ 32760 := by omega
  have i2 : imm < 4096 := by omega
  clear hr hn
  go_enter Tryd.func13, Tryd.ntmps13
  go_wp2_with ((go_at_call 25; refine (at_12_10 _ _ (by omega) (by omega)).mono ?_; rintro e w1 ⟨rfl, rfl⟩))
  go_ret
  exact ⟨ret_i (by rw [E.out]), (Below.refl _ _).alloc (Nat.le_refl _) _⟩

set_option maxRecDepth 100000 in
set_option maxHeartbeats 3200000 in
theorem pword_8 (d n m imm kind : Int) (w : World) (hr : GrI.right ⟨8, d, n, m, imm, kind⟩) :
    Calls Tryd.prog 13 #[.agg #[.int .i64 8, .int .i64 d, .int .i64 n, .int .i64 m, .int .i64 imm, .int .i64 kind]] w fun e w' => e = .returned (.int .i64 (GrI.word ⟨8, d, n, m, imm, kind⟩)) ∧ Below w.heap.size w w' := by
  obtain ⟨d0, d1, n0, n1, m0, m1⟩ := GrI.right_bd hr
  have E := Lib.hid (show GrI.word ⟨8, d, n, m, imm, kind⟩ = 2332033024 + (d + n * 32 + m * 65536) from rfl)
  clear hr
  go_enter Tryd.func13, Tryd.ntmps13
  go_wp2
  go_ret
  exact ⟨ret_i (by rw [E.out]), (Below.refl _ _).alloc (Nat.le_refl _) _⟩

set_option maxRecDepth 100000 in
set_option maxHeartbeats 3200000 in
theorem pword_9 (d n m imm kind : Int) (w : World) (hr : GrI.right ⟨9, d, n, m, imm, kind⟩) :
    Calls Tryd.prog 13 #[.agg #[.int .i64 9, .int .i64 d, .int .i64 n, .int .i64 m, .int .i64 imm, .int .i64 kind]] w fun e w' => e = .returned (.int .i64 (GrI.word ⟨9, d, n, m, imm, kind⟩)) ∧ Below w.heap.size w w' := by
  obtain ⟨d0, d1, n0, n1, m0, m1⟩ := GrI.right_bd hr
  have E := Lib.hid (show GrI.word ⟨9, d, n, m, imm, kind⟩ = 3405774848 + (d + n * 32 + m * 65536) from rfl)
  clear hr
  go_enter Tryd.func13, Tryd.ntmps13
  go_wp2
  go_ret
  exact ⟨ret_i (by rw [E.out]), (Below.refl _ _).alloc (Nat.le_refl _) _⟩

set_option maxRecDepth 100000 in
set_option maxHeartbeats 3200000 in
theorem pword_10 (d n m imm kind : Int) (w : World) (hr : GrI.right ⟨10, d, n, m, imm, kind⟩) :
    Calls Tryd.prog 13 #[.agg #[.int .i64 10, .int .i64 d, .int .i64 n, .int .i64 m, .int .i64 imm, .int .i64 kind]] w fun e w' => e = .returned (.int .i64 (GrI.word ⟨10, d, n, m, imm, kind⟩)) ∧ Below w.heap.size w w' := by
  obtain ⟨d0, d1, n0, n1, m0, m1⟩ := GrI.right_bd hr
  have E := Lib.hid (show GrI.word ⟨10, d, n, m, imm, kind⟩ = 2315255808 + (d + n * 32 + m * 65536) from rfl)
  clear hr
  go_enter Tryd.func13, Tryd.ntmps13
  go_wp2
  go_ret
  exact ⟨ret_i (by rw [E.out]), (Below.refl _ _).alloc (Nat.le_refl _) _⟩

set_option maxRecDepth 100000 in
set_option maxHeartbeats 3200000 in
theorem pword_11 (d n m imm kind : Int) (w : World) (hr : GrI.right ⟨11, d, n, m, imm, kind⟩) :
    Calls Tryd.prog 13 #[.agg #[.int .i64 11, .int .i64 d, .int .i64 n, .int .i64 m, .int .i64 imm, .int .i64 kind]] w fun e w' => e = .returned (.int .i64 (GrI.word ⟨11, d, n, m, imm, kind⟩)) ∧ Below w.heap.size w w' := by
  obtain ⟨d0, d1, n0, n1, m0, m1⟩ := GrI.right_bd hr
  have E := Lib.hid (show GrI.word ⟨11, d, n, m, imm, kind⟩ = 2852126720 + (d + n * 32 + m * 65536) from rfl)
  clear hr
  go_enter Tryd.func13, Tryd.ntmps13
  go_wp2
  go_ret
  exact ⟨ret_i (by rw [E.out]), (Below.refl _ _).alloc (Nat.le_refl _) _⟩

set_option maxRecDepth 100000 in
set_option maxHeartbeats 3200000 in
theorem pword_12 (d n m imm kind : Int) (w : World) (hr : GrI.right ⟨12, d, n, m, imm, kind⟩) :
    Calls Tryd.prog 13 #[.agg #[.int .i64 12, .int .i64 d, .int .i64 n, .int .i64 m, .int .i64 imm, .int .i64 kind]] w fun e w' => e = .returned (.int .i64 (GrI.word ⟨12, d, n, m, imm, kind⟩)) ∧ Below w.heap.size w w' := by
  obtain ⟨d0, d1, n0, n1, m0, m1⟩ := GrI.right_bd hr
  have E := Lib.hid (show GrI.word ⟨12, d, n, m, imm, kind⟩ = 3388997632 + (d + n * 32 + m * 65536) from rfl)
  clear hr
  go_enter Tryd.func13, Tryd.ntmps13
  go_wp2
  go_ret
  exact ⟨ret_i (by rw [E.out]), (Below.refl _ _).alloc (Nat.le_refl _) _⟩

set_option maxRecDepth 100000 in
set_option maxHeartbeats 3200000 in
theorem pword_13 (d n m imm kind : Int) (w : World) (hr : GrI.right ⟨13, d, n, m, imm, kind⟩) :
    Calls Tryd.prog 13 #[.agg #[.int .i64 13, .int .i64 d, .int .i64 n, .int .i64 m, .int .i64 imm, .int .i64 kind]] w fun e w' => e = .returned (.int .i64 (GrI.word ⟨13, d, n, m, imm, kind⟩)) ∧ Below w.heap.size w w' := by
  obtain ⟨d0, d1, n0, n1, m0, m1⟩ := GrI.right_bd hr
  have E := Lib.hid (show GrI.word ⟨13, d, n, m, imm, kind⟩ = 3942645760 + (d + n * 32 + m * 65536) from rfl)
  clear hr
  go_enter Tryd.func13, Tryd.ntmps13
  go_wp2
  go_ret
  exact ⟨ret_i (by rw [E.out]), (Below.refl _ _).alloc (Nat.le_refl _) _⟩

set_option maxRecDepth 100000 in
set_option maxHeartbeats 3200000 in
theorem pword_14 (d n m imm kind : Int) (w : World) (hr : GrI.right ⟨14, d, n, m, imm, kind⟩) :
    Calls Tryd.prog 13 #[.agg #[.int .i64 14, .int .i64 d, .int .i64 n, .int .i64 m, .int .i64 imm, .int .i64 kind]] w fun e w' => e = .returned (.int .i64 (GrI.word ⟨14, d, n, m, imm, kind⟩)) ∧ Below w.heap.size w w' := by
  obtain ⟨d0, d1, n0, n1, m0, m1⟩ := GrI.right_bd hr
  have hn := hr.2.2.2.2.2.2.2.2.2.2.2.2.2
  simp [GrI.nums] at hn
  have E := Lib.hid (show GrI.word ⟨14, d, n, m, imm, kind⟩ = 335544320 + imm % 67108864 from rfl)
  clear hr
  go_enter Tryd.func13, Tryd.ntmps13
  go_wp2_with ((go_at_call 25; refine (at_26_0 _ _ (by omega) (by omega)).mono ?_; rintro e w1 ⟨rfl, rfl⟩))
  go_ret
  exact ⟨ret_i (by rw [E.out]; try omega), (Below.refl _ _).alloc (Nat.le_refl _) _⟩

set_option maxRecDepth 100000 in
set_option maxHeartbeats 3200000 in
theorem pword_15 (d n m imm kind : Int) (w : World) (hr : GrI.right ⟨15, d, n, m, imm, kind⟩) :
    Calls Tryd.prog 13 #[.agg #[.int .i64 15, .int .i64 d, .int .i64 n, .int .i64 m, .int .i64 imm, .int .i64 kind]] w fun e w' => e = .returned (.int .i64 (GrI.word ⟨15, d, n, m, imm, kind⟩)) ∧ Below w.heap.size w w' := by
  obtain ⟨d0, d1, n0, n1, m0, m1⟩ := GrI.right_bd hr
  have R := Lib.hid (fun w => prest_15 d n m imm kind w hr)
  clear hr
  go_enter Tryd.func13, Tryd.ntmps13
  go_wp2_with fail
  refine (R.out _).mono ?_
  rintro e w1 ⟨rfl, b1⟩
  have KB := Lib.hid (((Below.refl _ _).alloc (Nat.le_refl _) _).trans (b1.mono (by simp)) : Below w.heap.size w w1)
  clear b1
  go_wp2
  go_ret
  exact ⟨rfl, KB.out⟩

set_option maxRecDepth 100000 in
set_option maxHeartbeats 3200000 in
theorem pword_16 (d n m imm kind : Int) (w : World) (hr : GrI.right ⟨16, d, n, m, imm, kind⟩) :
    Calls Tryd.prog 13 #[.agg #[.int .i64 16, .int .i64 d, .int .i64 n, .int .i64 m, .int .i64 imm, .int .i64 kind]] w fun e w' => e = .returned (.int .i64 (GrI.word ⟨16, d, n, m, imm, kind⟩)) ∧ Below w.heap.size w w' := by
  obtain ⟨d0, d1, n0, n1, m0, m1⟩ := GrI.right_bd hr
  have R := Lib.hid (fun w => prest_16 d n m imm kind w hr)
  clear hr
  go_enter Tryd.func13, Tryd.ntmps13
  go_wp2_with fail
  refine (R.out _).mono ?_
  rintro e w1 ⟨rfl, b1⟩
  have KB := Lib.hid (((Below.refl _ _).alloc (Nat.le_refl _) _).trans (b1.mono (by simp)) : Below w.heap.size w w1)
  clear b1
  go_wp2
  go_ret
  exact ⟨rfl, KB.out⟩

set_option maxRecDepth 100000 in
set_option maxHeartbeats 3200000 in
theorem pword_17 (d n m imm kind : Int) (w : World) (hr : GrI.right ⟨17, d, n, m, imm, kind⟩) :
    Calls Tryd.prog 13 #[.agg #[.int .i64 17, .int .i64 d, .int .i64 n, .int .i64 m, .int .i64 imm, .int .i64 kind]] w fun e w' => e = .returned (.int .i64 (GrI.word ⟨17, d, n, m, imm, kind⟩)) ∧ Below w.heap.size w w' := by
  obtain ⟨d0, d1, n0, n1, m0, m1⟩ := GrI.right_bd hr
  have R := Lib.hid (fun w => prest_17 d n m imm kind w hr)
  clear hr
  go_enter Tryd.func13, Tryd.ntmps13
  go_wp2_with fail
  refine (R.out _).mono ?_
  rintro e w1 ⟨rfl, b1⟩
  have KB := Lib.hid (((Below.refl _ _).alloc (Nat.le_refl _) _).trans (b1.mono (by simp)) : Below w.heap.size w w1)
  clear b1
  go_wp2
  go_ret
  exact ⟨rfl, KB.out⟩

set_option maxRecDepth 100000 in
set_option maxHeartbeats 3200000 in
theorem pword_18 (d n m imm kind : Int) (w : World) (hr : GrI.right ⟨18, d, n, m, imm, kind⟩) :
    Calls Tryd.prog 13 #[.agg #[.int .i64 18, .int .i64 d, .int .i64 n, .int .i64 m, .int .i64 imm, .int .i64 kind]] w fun e w' => e = .returned (.int .i64 (GrI.word ⟨18, d, n, m, imm, kind⟩)) ∧ Below w.heap.size w w' := by
  obtain ⟨d0, d1, n0, n1, m0, m1⟩ := GrI.right_bd hr
  have R := Lib.hid (fun w => prest_18 d n m imm kind w hr)
  clear hr
  go_enter Tryd.func13, Tryd.ntmps13
  go_wp2_with fail
  refine (R.out _).mono ?_
  rintro e w1 ⟨rfl, b1⟩
  have KB := Lib.hid (((Below.refl _ _).alloc (Nat.le_refl _) _).trans (b1.mono (by simp)) : Below w.heap.size w w1)
  clear b1
  go_wp2
  go_ret
  exact ⟨rfl, KB.out⟩

set_option maxRecDepth 100000 in
set_option maxHeartbeats 3200000 in
theorem pword_19 (d n m imm kind : Int) (w : World) (hr : GrI.right ⟨19, d, n, m, imm, kind⟩) :
    Calls Tryd.prog 13 #[.agg #[.int .i64 19, .int .i64 d, .int .i64 n, .int .i64 m, .int .i64 imm, .int .i64 kind]] w fun e w' => e = .returned (.int .i64 (GrI.word ⟨19, d, n, m, imm, kind⟩)) ∧ Below w.heap.size w w' := by
  obtain ⟨d0, d1, n0, n1, m0, m1⟩ := GrI.right_bd hr
  have R := Lib.hid (fun w => prest_19 d n m imm kind w hr)
  clear hr
  go_enter Tryd.func13, Tryd.ntmps13
  go_wp2_with fail
  refine (R.out _).mono ?_
  rintro e w1 ⟨rfl, b1⟩
  have KB := Lib.hid (((Below.refl _ _).alloc (Nat.le_refl _) _).trans (b1.mono (by simp)) : Below w.heap.size w w1)
  clear b1
  go_wp2
  go_ret
  exact ⟨rfl, KB.out⟩

set_option maxRecDepth 100000 in
set_option maxHeartbeats 3200000 in
theorem pword_20 (d n m imm kind : Int) (w : World) (hr : GrI.right ⟨20, d, n, m, imm, kind⟩) :
    Calls Tryd.prog 13 #[.agg #[.int .i64 20, .int .i64 d, .int .i64 n, .int .i64 m, .int .i64 imm, .int .i64 kind]] w fun e w' => e = .returned (.int .i64 (GrI.word ⟨20, d, n, m, imm, kind⟩)) ∧ Below w.heap.size w w' := by
  obtain ⟨d0, d1, n0, n1, m0, m1⟩ := GrI.right_bd hr
  have R := Lib.hid (fun w => prest_20 d n m imm kind w hr)
  clear hr
  go_enter Tryd.func13, Tryd.ntmps13
  go_wp2_with fail
  refine (R.out _).mono ?_
  rintro e w1 ⟨rfl, b1⟩
  have KB := Lib.hid (((Below.refl _ _).alloc (Nat.le_refl _) _).trans (b1.mono (by simp)) : Below w.heap.size w w1)
  clear b1
  go_wp2
  go_ret
  exact ⟨rfl, KB.out⟩

set_option maxRecDepth 100000 in
set_option maxHeartbeats 3200000 in
theorem pword_21 (d n m imm kind : Int) (w : World) (hr : GrI.right ⟨21, d, n, m, imm, kind⟩) :
    Calls Tryd.prog 13 #[.agg #[.int .i64 21, .int .i64 d, .int .i64 n, .int .i64 m, .int .i64 imm, .int .i64 kind]] w fun e w' => e = .returned (.int .i64 (GrI.word ⟨21, d, n, m, imm, kind⟩)) ∧ Below w.heap.size w w' := by
  obtain ⟨d0, d1, n0, n1, m0, m1⟩ := GrI.right_bd hr
  have R := Lib.hid (fun w => prest_21 d n m imm kind w hr)
  clear hr
  go_enter Tryd.func13, Tryd.ntmps13
  go_wp2_with fail
  refine (R.out _).mono ?_
  rintro e w1 ⟨rfl, b1⟩
  have KB := Lib.hid (((Below.refl _ _).alloc (Nat.le_refl _) _).trans (b1.mono (by simp)) : Below w.heap.size w w1)
  clear b1
  go_wp2
  go_ret
  exact ⟨rfl, KB.out⟩

set_option maxRecDepth 100000 in
set_option maxHeartbeats 3200000 in
theorem pword_22 (d n m imm kind : Int) (w : World) (hr : GrI.right ⟨22, d, n, m, imm, kind⟩) :
    Calls Tryd.prog 13 #[.agg #[.int .i64 22, .int .i64 d, .int .i64 n, .int .i64 m, .int .i64 imm, .int .i64 kind]] w fun e w' => e = .returned (.int .i64 (GrI.word ⟨22, d, n, m, imm, kind⟩)) ∧ Below w.heap.size w w' := by
  obtain ⟨d0, d1, n0, n1, m0, m1⟩ := GrI.right_bd hr
  have R := Lib.hid (fun w => prest_22 d n m imm kind w hr)
  clear hr
  go_enter Tryd.func13, Tryd.ntmps13
  go_wp2_with fail
  refine (R.out _).mono ?_
  rintro e w1 ⟨rfl, b1⟩
  have KB := Lib.hid (((Below.refl _ _).alloc (Nat.le_refl _) _).trans (b1.mono (by simp)) : Below w.heap.size w w1)
  clear b1
  go_wp2
  go_ret
  exact ⟨rfl, KB.out⟩

set_option maxRecDepth 100000 in
set_option maxHeartbeats 3200000 in
theorem pword_23 (d n m imm kind : Int) (w : World) (hr : GrI.right ⟨23, d, n, m, imm, kind⟩) :
    Calls Tryd.prog 13 #[.agg #[.int .i64 23, .int .i64 d, .int .i64 n, .int .i64 m, .int .i64 imm, .int .i64 kind]] w fun e w' => e = .returned (.int .i64 (GrI.word ⟨23, d, n, m, imm, kind⟩)) ∧ Below w.heap.size w w' := by
  obtain ⟨d0, d1, n0, n1, m0, m1⟩ := GrI.right_bd hr
  have R := Lib.hid (fun w => prest_23 d n m imm kind w hr)
  clear hr
  go_enter Tryd.func13, Tryd.ntmps13
  go_wp2_with fail
  refine (R.out _).mono ?_
  rintro e w1 ⟨rfl, b1⟩
  have KB := Lib.hid (((Below.refl _ _).alloc (Nat.le_refl _) _).trans (b1.mono (by simp)) : Below w.heap.size w w1)
  clear b1
  go_wp2
  go_ret
  exact ⟨rfl, KB.out⟩

theorem pword_any (x : GrI.I) (w : World) (hr : GrI.right x) :
    Calls Tryd.prog 13 #[iv x] w fun e w' => e = .returned (.int .i64 (GrI.word x)) ∧ Below w.heap.size w w' := by
  obtain ⟨op, d, n, m, imm, kind⟩ := x
  have ho : op = 1 ∨ op = 2 ∨ op = 3 ∨ op = 4 ∨ op = 5 ∨ op = 6 ∨ op = 7 ∨ op = 8 ∨ op = 9 ∨ op = 10 ∨ op = 11 ∨ op = 12 ∨ op = 13 ∨ op = 14 ∨ op = 15 ∨ op = 16 ∨ op = 17 ∨ op = 18 ∨ op = 19 ∨ op = 20 ∨ op = 21 ∨ op = 22 ∨ op = 23 := GrI.ops hr
  rcases ho with rfl | rfl | rfl | rfl | rfl | rfl | rfl | rfl | rfl | rfl | rfl | rfl | rfl | rfl | rfl | rfl | rfl | rfl | rfl | rfl | rfl | rfl | rfl
  · exact pword_1 d n m imm kind w hr
  · exact pword_2 d n m imm kind w hr
  · exact pword_3 d n m imm kind w hr
  · exact pword_4 d n m imm kind w hr
  · exact pword_5 d n m imm kind w hr
  · exact pword_6 d n m imm kind w hr
  · exact pword_7 d n m imm kind w hr
  · exact pword_8 d n m imm kind w hr
  · exact pword_9 d n m imm kind w hr
  · exact pword_10 d n m imm kind w hr
  · exact pword_11 d n m imm kind w hr
  · exact pword_12 d n m imm kind w hr
  · exact pword_13 d n m imm kind w hr
  · exact pword_14 d n m imm kind w hr
  · exact pword_15 d n m imm kind w hr
  · exact pword_16 d n m imm kind w hr
  · exact pword_17 d n m imm kind w hr
  · exact pword_18 d n m imm kind w hr
  · exact pword_19 d n m imm kind w hr
  · exact pword_20 d n m imm kind w hr
  · exact pword_21 d n m imm kind w hr
  · exact pword_22 d n m imm kind w hr
  · exact pword_23 d n m imm kind w hr
end Go.Proofs.YtnehdgapcgbdeaaDoor
