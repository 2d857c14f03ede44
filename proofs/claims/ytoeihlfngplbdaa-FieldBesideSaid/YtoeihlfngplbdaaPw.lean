/-
  Layer 2, the walks of Parse: the code's and the page's.
-/
import Derived.Test.YtoeihlfngplbdaaFs
import Derived.Test.YtoeihlfngplbdaaPm
import Derived.Shelf.Bits.Mul64
namespace Go.Proofs.Ytoeihlfngplbdaa
open Go.RowKit

/-! ### math/bits -/
def ren : Go.Shelf.Ren := ⟨fun _ => 33, fun n => if n = 53 then 22 else 41, fun x => x⟩
theorem layMul : Go.Proofs.Lays.n264 Try.prog ren := ⟨by kernel_rfl, by kernel_rfl, by kernel_rfl, fun _ => by kernel_rfl, fun _ => by kernel_rfl, fun _ => by kernel_rfl, by kernel_rfl, fun _ => by kernel_rfl, fun _ => by kernel_rfl, fun _ => by kernel_rfl⟩
theorem mul_any (x y : Nat) (w : World) (hx : x < 18446744073709551616) (hy : y < 18446744073709551616) :
    Calls Try.prog 33 #[.int .u64 (x : Int), .int .u64 (y : Int)] w fun e w' => e = .returned (.tuple #[.int .u64 ((GrP.high (x * y) : Nat) : Int), .int .u64 ((GrP.low (x * y) : Nat) : Int)]) ∧ w = w' :=
  (Any.bits_Mul64 layMul x y hx hy w).mono fun _ _ h => ⟨h.1, h.2.symm⟩

theorem add_run (x y : Nat) (w : World) :
    (callFunc 34 #[.int .u64 (x : Int), .int .u64 (y : Int), .int .u64 0]).run Try.prog w =
      .ok (.value (.tuple #[.int .u64 ((GrP.low (x + y) : Nat) : Int), .int .u64 ((GrP.high (x + y) : Nat) : Int)])) w := by
  rw [run_callFunc_extern (fn := Try.f34) (by kernel_rfl) (by kernel_rfl) (by kernel_rfl) (by kernel_rfl) (e := add64Entry) (by kernel_rfl), run_add64 x y 0 (by omega) (by omega) (by omega) (by omega)]
  simp only [Result.andThen, GrP.low, GrP.high]
  congr 5 <;> omega

/-! ### a digit -/
set_option maxHeartbeats 400000 in
theorem digit_any (c : Nat) (w : World) (h : c ≤ 255) :
    Calls Try.prog 32 #[.int .u8 (c : Int)] w fun e w' => e = .returned (.int .u64 ((GrP.digit c : Nat) : Int)) ∧ w = w' := by
  by_cases a1 : 48 ≤ c
  · by_cases a2 : c ≤ 57
    · have E : ((GrP.digit c : Nat) : Int) = (c : Int) - 48 := by rw [GrP.digit, if_pos ⟨a1, a2⟩]; omega
      rw [E]; clear E
      go_enter Try.func32, Try.ntmps32
      go_wp2
      go_ret
      exact ⟨rfl, rfl⟩
    · by_cases b1 : 97 ≤ c
      · by_cases b2 : c ≤ 102
        · have E : ((GrP.digit c : Nat) : Int) = (c : Int) - 97 + 10 := by rw [GrP.digit, if_neg (by omega), if_pos ⟨b1, b2⟩]; omega
          rw [E]; clear E
          go_enter Try.func32, Try.ntmps32
          go_wp2
          go_ret
          exact ⟨rfl, rfl⟩
        · have E : ((GrP.digit c : Nat) : Int) = 99 := by rw [GrP.digit, if_neg (by omega), if_neg (by omega), if_neg (by omega)]; rfl
          rw [E]; clear E
          go_enter Try.func32, Try.ntmps32
          go_wp2
          go_ret
          exact ⟨rfl, rfl⟩
      · by_cases d1 : 65 ≤ c
        · by_cases d2 : c ≤ 70
          · have E : ((GrP.digit c : Nat) : Int) = (c : Int) - 65 + 10 := by rw [GrP.digit, if_neg (by omega), if_neg (by omega), if_pos ⟨d1, d2⟩]; omega
            rw [E]; clear E
            go_enter Try.func32, Try.ntmps32
            go_wp2
            go_ret
            exact ⟨rfl, rfl⟩
          · have E : ((GrP.digit c : Nat) : Int) = 99 := by rw [GrP.digit, if_neg (by omega), if_neg (by omega), if_neg (by omega)]; rfl
            rw [E]; clear E
            go_enter Try.func32, Try.ntmps32
            go_wp2
            go_ret
            exact ⟨rfl, rfl⟩
        · have E : ((GrP.digit c : Nat) : Int) = 99 := by rw [GrP.digit, if_neg (by omega), if_neg (by omega), if_neg (by omega)]; rfl
          rw [E]; clear E
          go_enter Try.func32, Try.ntmps32
          go_wp2
          go_ret
          exact ⟨rfl, rfl⟩
  · have E : ((GrP.digit c : Nat) : Int) = 99 := by rw [GrP.digit, if_neg (by omega), if_neg (by omega), if_neg (by omega)]; rfl
    rw [E]; clear E
    go_enter Try.func32, Try.ntmps32
    go_wp2
    go_ret
    exact ⟨rfl, rfl⟩

set_option maxHeartbeats 400000 in
theorem value_any (c : Nat) (w : World) (h : c ≤ 255) :
    Calls Try.prog 35 #[.int .u8 (c : Int)] w fun e w' => e = .returned (.int .i64 ((GrP.digit c : Nat) : Int)) ∧ w = w' := by
  by_cases a1 : 48 ≤ c
  · by_cases a2 : c ≤ 57
    · have E : ((GrP.digit c : Nat) : Int) = (c : Int) - 48 := by rw [GrP.digit, if_pos ⟨a1, a2⟩]; omega
      rw [E]; clear E
      go_enter Try.func35, Try.ntmps35
      go_wp2
      go_ret
      exact ⟨rfl, rfl⟩
    · by_cases b1 : 97 ≤ c
      · by_cases b2 : c ≤ 102
        · have E : ((GrP.digit c : Nat) : Int) = (c : Int) - 97 + 10 := by rw [GrP.digit, if_neg (by omega), if_pos ⟨b1, b2⟩]; omega
          rw [E]; clear E
          go_enter Try.func35, Try.ntmps35
          go_wp2
          go_ret
          exact ⟨rfl, rfl⟩
        · have E : ((GrP.digit c : Nat) : Int) = 99 := by rw [GrP.digit, if_neg (by omega), if_neg (by omega), if_neg (by omega)]; rfl
          rw [E]; clear E
          go_enter Try.func35, Try.ntmps35
          go_wp2
          go_ret
          exact ⟨rfl, rfl⟩
      · by_cases d1 : 65 ≤ c
        · by_cases d2 : c ≤ 70
          · have E : ((GrP.digit c : Nat) : Int) = (c : Int) - 65 + 10 := by rw [GrP.digit, if_neg (by omega), if_neg (by omega), if_pos ⟨d1, d2⟩]; omega
            rw [E]; clear E
            go_enter Try.func35, Try.ntmps35
            go_wp2
            go_ret
            exact ⟨rfl, rfl⟩
          · have E : ((GrP.digit c : Nat) : Int) = 99 := by rw [GrP.digit, if_neg (by omega), if_neg (by omega), if_neg (by omega)]; rfl
            rw [E]; clear E
            go_enter Try.func35, Try.ntmps35
            go_wp2
            go_ret
            exact ⟨rfl, rfl⟩
        · have E : ((GrP.digit c : Nat) : Int) = 99 := by rw [GrP.digit, if_neg (by omega), if_neg (by omega), if_neg (by omega)]; rfl
          rw [E]; clear E
          go_enter Try.func35, Try.ntmps35
          go_wp2
          go_ret
          exact ⟨rfl, rfl⟩
  · have E : ((GrP.digit c : Nat) : Int) = 99 := by rw [GrP.digit, if_neg (by omega), if_neg (by omega), if_neg (by omega)]; rfl
    rw [E]; clear E
    go_enter Try.func35, Try.ntmps35
    go_wp2
    go_ret
    exact ⟨rfl, rfl⟩

end Go.Proofs.Ytoeihlfngplbdaa
