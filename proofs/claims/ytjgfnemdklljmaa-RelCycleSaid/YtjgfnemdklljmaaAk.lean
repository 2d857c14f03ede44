/-
  Layer 1, the walks: OnesCount64.
-/
import Derived.Test.YtjgfnemdklljmaaAj
import Derived.Test.YtjgfnemdklljmaaAo
import Derived.Laws.Bits128
set_option linter.unusedSimpArgs false
set_option linter.unusedVariables false
namespace GrR
theorem mk1 : mk 85 8 = 6148914691236517205 := by decide
theorem mk2 : mk 51 8 = 3689348814741910323 := by decide
theorem mk3 : mk 15 8 = 1085102592571150095 := by decide
theorem f1_int (x : Nat) (hx : x < 18446744073709551616) : Go.IntKind.u64.wrap (Go.bits .and .u64 ((x : Int) / 2) 6148914691236517205 + Go.bits .and .u64 (x : Int) 6148914691236517205) = ((f1 8 x : Nat) : Int) ∧ f1 8 x < 12297829382473034411 := by
  have h1 := Go.bits_and_u64_nat (x / 2) 6148914691236517205 (by omega) (by omega)
  have h2 := Go.bits_and_u64_nat x 6148914691236517205 hx (by omega)
  have l1 : (x / 2 &&& 6148914691236517205) ≤ 6148914691236517205 := Nat.and_le_right
  have l2 : (x &&& 6148914691236517205) ≤ 6148914691236517205 := Nat.and_le_right
  unfold f1
  rw [mk1, show ((x : Int) / 2) = ((x / 2 : Nat) : Int) by simp, show (6148914691236517205 : Int) = ((6148914691236517205 : Nat) : Int) from rfl, h1, h2, Go.IntKind.wrap_u64]
  omega
theorem f2_int (x : Nat) (hx : x < 18446744073709551616) : Go.IntKind.u64.wrap (Go.bits .and .u64 ((x : Int) / 4) 3689348814741910323 + Go.bits .and .u64 (x : Int) 3689348814741910323) = ((f2 8 x : Nat) : Int) ∧ f2 8 x < 7378697629483820647 := by
  have h1 := Go.bits_and_u64_nat (x / 4) 3689348814741910323 (by omega) (by omega)
  have h2 := Go.bits_and_u64_nat x 3689348814741910323 hx (by omega)
  have l1 : (x / 4 &&& 3689348814741910323) ≤ 3689348814741910323 := Nat.and_le_right
  have l2 : (x &&& 3689348814741910323) ≤ 3689348814741910323 := Nat.and_le_right
  unfold f2
  rw [mk2, show ((x : Int) / 4) = ((x / 4 : Nat) : Int) by simp, show (3689348814741910323 : Int) = ((3689348814741910323 : Nat) : Int) from rfl, h1, h2, Go.IntKind.wrap_u64]
  omega
theorem f3_int (x : Nat) (hx : x < 7378697629483820647) : Go.bits .and .u64 ((x : Int) / 16 + (x : Int)) 1085102592571150095 = ((f3 8 x : Nat) : Int) ∧ f3 8 x < 1085102592571150096 := by
  have h1 := Go.bits_and_u64_nat (x / 16 + x) 1085102592571150095 (by omega) (by omega)
  have l1 : ((x / 16 + x) &&& 1085102592571150095) ≤ 1085102592571150095 := Nat.and_le_right
  unfold f3
  rw [mk3, show ((x : Int) / 16 + (x : Int)) = ((x / 16 + x : Nat) : Int) by omega, show (1085102592571150095 : Int) = ((1085102592571150095 : Nat) : Int) from rfl, h1]
  exact ⟨rfl, by omega⟩
end GrR
namespace Go.Proofs.Ytjgfnemdklljmaa
open Go.RowKit GrR

set_option maxRecDepth 100000 in
set_option maxHeartbeats 1600000 in
theorem ones_any (x : Nat) (w : World) (hx : x < 18446744073709551616) :
    Calls Try.prog 49 #[.int .u64 (x : Int)] w fun e w' => e = .returned (.int .i64 ((cntR 64 x.testBit : Nat) : Int)) ∧ w = w' := by
  have CH := Lib.hid (ones_chain x)
  go_enter Try.func49, Try.ntmps49
  go_upto_region 2 with fail
  obtain ⟨e1, l1⟩ := f1_int x hx
  rw [e1]
  obtain ⟨y1, hy1⟩ : ∃ y, y = f1 8 x := ⟨_, rfl⟩
  rw [← hy1] at l1 CH ⊢
  clear e1 hy1
  go_upto_region 3 with fail
  obtain ⟨e1, l2⟩ := f2_int y1 (by omega)
  rw [e1]
  obtain ⟨y2, hy1⟩ : ∃ y, y = f2 8 y1 := ⟨_, rfl⟩
  rw [← hy1] at l2 CH ⊢
  clear e1 hy1 l1
  go_upto_region 4 with fail
  obtain ⟨e1, l3⟩ := f3_int y2 (by omega)
  rw [e1]
  obtain ⟨y3, hy1⟩ : ∃ y, y = f3 8 y2 := ⟨_, rfl⟩
  rw [← hy1] at l3 CH ⊢
  clear e1 hy1 l2
  go_upto_region 5 with fail
  obtain ⟨y4, hy4⟩ : ∃ y : Nat, y = y3 + y3 / 256 := ⟨_, rfl⟩
  have l4 : y4 < 1100000000000000000 := by omega
  rw [show (y3 : Int) + (y3 : Int) / 256 = (y4 : Int) by omega]
  have HY4 := Lib.hid hy4
  clear hy4
  go_upto_region 6 with fail
  obtain ⟨y5, hy5⟩ : ∃ y : Nat, y = y4 + y4 / 65536 := ⟨_, rfl⟩
  have l5 : y5 < 1110000000000000000 := by omega
  rw [show (y4 : Int) + (y4 : Int) / 65536 = (y5 : Int) by omega]
  have HY5 := Lib.hid hy5
  clear hy5
  go_upto_region 7 with fail
  obtain ⟨y6, hy6⟩ : ∃ y : Nat, y = y5 + y5 / 4294967296 := ⟨_, rfl⟩
  have l6 : y6 < 1120000000000000000 := by omega
  rw [show (y5 : Int) + (y5 : Int) / 4294967296 = (y6 : Int) by omega]
  have HY6 := Lib.hid hy6
  clear hy6
  have E := Lib.hid (show (bits .and .i64 (y6 : Int) 127) = ((cntR 64 x.testBit : Nat) : Int) by
    rw [i64_and127]
    obtain ⟨p0, p1, p2, p3, p4, p5, p6, p7, h0, h1, h2, h3, h4, h5, h6, h7, e1, e2⟩ := CH.out
    have S := ones_sum p0 p1 p2 p3 p4 p5 p6 p7 y3 y4 y5 y6 h0 h1 h2 h3 h4 h5 h6 h7 e1 HY4.out HY5.out HY6.out
    rw [e2, ← S]
    omega)
  clear HY4 HY5 HY6 l3 l4 l5 CH
  go_wp2
  go_ret
  first | exact ⟨rfl, rfl⟩ | exact ⟨(by rw [E.out]; rfl), rfl⟩
end Go.Proofs.Ytjgfnemdklljmaa
