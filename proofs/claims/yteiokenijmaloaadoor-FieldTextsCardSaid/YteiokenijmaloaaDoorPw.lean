/-
  Layer 2, the walks of Parse: the code's and the page's.
-/
import Derived.Test.YteiokenijmaloaaDoorFs
import Derived.Test.YteiokenijmaloaaDoorPm
import Derived.Shelf.Bits.Mul64
set_option linter.unusedSimpArgs false
set_option linter.unusedVariables false
namespace Go.Proofs.YteiokenijmaloaaDoor
open Go.RowKit

/-! ### math/bits -/
def ren : Go.Shelf.Ren := ⟨fun _ => 15, fun n => if n = 53 then 22 else 40, fun x => x⟩
theorem layMul : Go.Proofs.Lays.n264 Tryd.prog ren := ⟨by kernel_rfl, by kernel_rfl, by kernel_rfl, fun _ => by kernel_rfl, fun _ => by kernel_rfl, fun _ => by kernel_rfl, by kernel_rfl, fun _ => by kernel_rfl, fun _ => by kernel_rfl, fun _ => by kernel_rfl⟩
theorem mul_any (x y : Nat) (w : World) (hx : x < 18446744073709551616) (hy : y < 18446744073709551616) :
    Calls Tryd.prog 15 #[.int .u64 (x : Int), .int .u64 (y : Int)] w fun e w' => e = .returned (.tuple #[.int .u64 ((GrP.high (x * y) : Nat) : Int), .int .u64 ((GrP.low (x * y) : Nat) : Int)]) ∧ w = w' :=
  (Any.bits_Mul64 layMul x y hx hy w).mono fun _ _ h => ⟨h.1, h.2.symm⟩

theorem add_run (x y : Nat) (w : World) :
    (callFunc 16 #[.int .u64 (x : Int), .int .u64 (y : Int), .int .u64 0]).run Tryd.prog w =
      .ok (.value (.tuple #[.int .u64 ((GrP.low (x + y) : Nat) : Int), .int .u64 ((GrP.high (x + y) : Nat) : Int)])) w := by
  rw [run_callFunc_extern (fn := Tryd.f16) (by kernel_rfl) (by kernel_rfl) (by kernel_rfl) (by kernel_rfl) (e := add64Entry) (by kernel_rfl), run_add64 x y 0 (by omega) (by omega) (by omega) (by omega)]
  simp only [Result.andThen, GrP.low, GrP.high]
  congr 5 <;> omega

/-! ### a digit -/
set_option maxHeartbeats 400000 in
theorem digit_any (c : Nat) (w : World) (h : c ≤ 255) :
    Calls Tryd.prog 14 #[.int .u8 (c : Int)] w fun e w' => e = .returned (.int .u64 ((GrP.digit c : Nat) : Int)) ∧ w = w' := by
  by_cases a1 : 48 ≤ c
  · by_cases a2 : c ≤ 57
    · have E : ((GrP.digit c : Nat) : Int) = (c : Int) - 48 := by rw [GrP.digit, if_pos ⟨a1, a2⟩]; omega
      rw [E]; clear E
      go_enter Tryd.func14, Tryd.ntmps14
      go_wp2
      go_ret
      exact ⟨rfl, rfl⟩
    · by_cases b1 : 97 ≤ c
      · by_cases b2 : c ≤ 102
        · have E : ((GrP.digit c : Nat) : Int) = (c : Int) - 97 + 10 := by rw [GrP.digit, if_neg (by omega), if_pos ⟨b1, b2⟩]; omega
          rw [E]; clear E
          go_enter Tryd.func14, Tryd.ntmps14
          go_wp2
          go_ret
          exact ⟨rfl, rfl⟩
        · have E : ((GrP.digit c : Nat) : Int) = 99 := by rw [GrP.digit, if_neg (by omega), if_neg (by omega), if_neg (by omega)]; rfl
          rw [E]; clear E
          go_enter Tryd.func14, Tryd.ntmps14
          go_wp2
          go_ret
          exact ⟨rfl, rfl⟩
      · by_cases d1 : 65 ≤ c
        · by_cases d2 : c ≤ 70
          · have E : ((GrP.digit c : Nat) : Int) = (c : Int) - 65 + 10 := by rw [GrP.digit, if_neg (by omega), if_neg (by omega), if_pos ⟨d1, d2⟩]; omega
            rw [E]; clear E
            go_enter Tryd.func14, Tryd.ntmps14
            go_wp2
            go_ret
            exact ⟨rfl, rfl⟩
          · have E : ((GrP.digit c : Nat) : Int) = 99 := by rw [GrP.digit, if_neg (by omega), if_neg (by omega), if_neg (by omega)]; rfl
            rw [E]; clear E
            go_enter Tryd.func14, Tryd.ntmps14
            go_wp2
            go_ret
            exact ⟨rfl, rfl⟩
        · have E : ((GrP.digit c : Nat) : Int) = 99 := by rw [GrP.digit, if_neg (by omega), if_neg (by omega), if_neg (by omega)]; rfl
          rw [E]; clear E
          go_enter Tryd.func14, Tryd.ntmps14
          go_wp2
          go_ret
          exact ⟨rfl, rfl⟩
  · have E : ((GrP.digit c : Nat) : Int) = 99 := by rw [GrP.digit, if_neg (by omega), if_neg (by omega), if_neg (by omega)]; rfl
    rw [E]; clear E
    go_enter Tryd.func14, Tryd.ntmps14
    go_wp2
    go_ret
    exact ⟨rfl, rfl⟩

end Go.Proofs.YteiokenijmaloaaDoor
