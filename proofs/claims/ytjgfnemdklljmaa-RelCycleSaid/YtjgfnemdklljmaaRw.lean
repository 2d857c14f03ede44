/-
  Layer 1, the walks: rows of bits.
-/
import Derived.Test.YtjgfnemdklljmaaFm
import Derived.Test.YtjgfnemdklljmaaProg
import Derived.WalkKit
import Derived.WalkSpells
import Derived.WalkLawsBesides
import Derived.BigQuiet
import Derived.Handy
import Derived.Lib.Hide
import Derived.Below
import Derived.Deep.DeepCutAuto
import Derived.StillTailTactics
set_option linter.unusedSimpArgs false
set_option linter.unusedVariables false
namespace Go.Proofs.Ytjgfnemdklljmaa
open Go.RowKit

theorem has_eq (x b : Nat) (h : x < 18446744073709551616) : (bits .and .u64 ((x : Int) / 2 ^ (b % 64)) 1 == 1) = x.testBit (b % 64) := by
  have e : ((x : Int) / 2 ^ (b % 64)) = ((x / 2 ^ (b % 64) : Nat) : Int) := by simp
  have h2 := GrF.div_lt h (2 ^ (b % 64))
  have h1 := bits_and_u64_nat (x / 2 ^ (b % 64)) 1 h2 (by omega)
  rw [e, show (1 : Int) = ((1 : Nat) : Int) from rfl, h1, Nat.testBit_eq_decide_div_mod_eq, Nat.and_one_is_mod]
  by_cases c : x / 2 ^ (b % 64) % 2 = 1
  · simp [c]
  · have c0 : x / 2 ^ (b % 64) % 2 = 0 := by omega
    simp [c0]

set_option maxHeartbeats 800000 in
theorem has_any (g off b x : Nat) (w : World) (hb : b < 128) (hx : x < 18446744073709551616) (hc : w.cell? ⟨g, off + b / 64, none⟩ = some (.int .u64 (x : Int))) :
    Calls Try.prog 51 #[.pointer (some ⟨g, off, none⟩), .int .i64 (b : Int)] w fun e w' => e = .returned (.bool (x.testBit (b % 64))) ∧ w = w' := by
  have HX := Lib.hid hx
  clear hx
  go_enter Try.func51, Try.ntmps51
  go_wp2
  go_ret
  exact ⟨congrArg (fun c => Ending.returned (.bool c)) (has_eq x b HX.out), rfl⟩

theorem or_eq (x b : Nat) (h : x < 18446744073709551616) : bits .or .u64 (x : Int) (IntKind.u64.wrap (2 ^ (b % 64))) = ((x ||| 2 ^ (b % 64) : Nat) : Int) := by
  have h1 : 2 ^ (b % 64) < 2 ^ 64 := Nat.pow_lt_pow_right (by decide) (by omega)
  have e : IntKind.u64.wrap (2 ^ (b % 64)) = ((2 ^ (b % 64) : Nat) : Int) := by
    rw [IntKind.wrap_u64]
    have e2 : ((2 : Int) ^ (b % 64)) = ((2 ^ (b % 64) : Nat) : Int) := by simp
    rw [e2]
    generalize 2 ^ (b % 64) = p at h1 ⊢
    omega
  rw [e, bits_or_u64_nat _ _ h (by omega)]

set_option maxHeartbeats 800000 in
theorem set_any (g off b x : Nat) (w : World) (hb : b < 128) (hx : x < 18446744073709551616) (hc : w.cell? ⟨g, off + b / 64, none⟩ = some (.int .u64 (x : Int))) (hf : w.frozen? ⟨g, off + b / 64, none⟩ = false) :
    Calls Try.prog 48 #[.pointer (some ⟨g, off, none⟩), .int .i64 (b : Int)] w fun e w' => e = .returned (.tuple #[]) ∧ (w.setCell ⟨g, off + b / 64, none⟩ (.int .u64 ((x ||| 2 ^ (b % 64) : Nat) : Int))).drew = w' := by
  have HX := Lib.hid hx
  clear hx
  go_enter Try.func48, Try.ntmps48
  go_wp2_with fail
  go_region
  go_end0
  exact ⟨rfl, by rw [or_eq x b HX.out]⟩
end Go.Proofs.Ytjgfnemdklljmaa
