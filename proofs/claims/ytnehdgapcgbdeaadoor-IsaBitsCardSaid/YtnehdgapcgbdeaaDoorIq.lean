/-
  PLAIN NUMBERS for layer 3, further: the model's 'or' on words of 32 bits, as a sum.
-/
import Derived.WalkKit
import Derived.Laws.Bits64b
import Derived.Test.YtnehdgapcgbdeaaDoorIo
import Derived.Test.YtnehdgapcgbdeaaDoorFm
set_option linter.unusedSimpArgs false
set_option linter.unusedVariables false
namespace Go.Proofs.YtnehdgapcgbdeaaDoor
open Go.RowKit

theorem wrap_u32 (x : Int) : IntKind.u32.wrap x = x % 4294967296 := by
  simp [IntKind.wrap, IntKind.signed, IntKind.bits]
theorem bits_or_u32_nat (a b : Nat) (ha : a < 4294967296) (hb : b < 4294967296) :
    bits .or .u32 (a : Int) (b : Int) = ((a ||| b : Nat) : Int) := by
  have hx : a ||| b < 2 ^ 32 := Nat.or_lt_two_pow (by omega) (by omega)
  have hx2 : a ||| b < 2 ^ 64 := Nat.lt_of_lt_of_le hx (by decide)
  have h1 : (BitVec.ofInt 32 (a : Int)).toNat = a := by
    rw [BitVec.ofInt_natCast, BitVec.toNat_ofNat]; exact Nat.mod_eq_of_lt (by omega)
  have h2 : (BitVec.ofInt 32 (b : Int)).toNat = b := by
    rw [BitVec.ofInt_natCast, BitVec.toNat_ofNat]; exact Nat.mod_eq_of_lt (by omega)
  show IntKind.u32.wrap ((BitVec.ofInt 32 (a : Int) ||| BitVec.ofInt 32 (b : Int)).toNat : Int) = _
  rw [BitVec.toNat_or, h1, h2, wrap_u32]
  omega

theorem or0 (x : Int) (h0 : 0 ≤ x) (h1 : x < 4294967296) : bits .or .u32 x 0 = x := by
  obtain ⟨a, rfl⟩ := Int.eq_ofNat_of_zero_le h0
  have := bits_or_u32_nat a 0 (by omega) (by decide)
  simpa using this
/-- a field laid into a gap -/
theorem or_at (k j : Nat) (x b : Int) (h0 : 0 ≤ x) (h1 : x < 4294967296) (b0 : 0 ≤ b) (b1 : b < (2 ^ j : Nat)) (hk : k + j ≤ 32) (hx : x % (2 ^ (k + j) : Nat) < (2 ^ k : Nat)) :
    bits .or .u32 x (b * (2 ^ k : Nat)) = x + b * (2 ^ k : Nat) := by
  obtain ⟨a, rfl⟩ := Int.eq_ofNat_of_zero_le h0
  obtain ⟨c, rfl⟩ := Int.eq_ofNat_of_zero_le b0
  have hc : c < 2 ^ j := by exact_mod_cast b1
  have hr : a % 2 ^ (k + j) < 2 ^ k := by exact_mod_cast hx
  have hcb : c * 2 ^ k < 4294967296 := by
    have e1 : c * 2 ^ k < 2 ^ j * 2 ^ k := Nat.mul_lt_mul_of_pos_right hc (Nat.two_pow_pos k)
    have e2 : 2 ^ j * 2 ^ k ≤ 2 ^ 32 := by rw [← Nat.pow_add]; exact Nat.pow_le_pow_right (by decide) (by omega)
    have e3 : (2 : Nat) ^ 32 = 4294967296 := by decide
    omega
  have key := GrI.or_mid (a / 2 ^ (k + j)) (a % 2 ^ (k + j)) c k j hr hc
  have hd := Nat.div_add_mod a (2 ^ (k + j))
  rw [Nat.mul_comm] at hd
  rw [hd] at key
  have := bits_or_u32_nat a (c * 2 ^ k) (by omega) hcb
  rw [key] at this
  have e4 : ((c : Int) * ((2 ^ k : Nat) : Int)) = ((c * 2 ^ k : Nat) : Int) := by simp
  rw [e4, this]
  omega
theorem or_swap (x d v : Int) (h0 : 0 ≤ x) (h1 : x < 4294967296) (d0 : 0 ≤ d) (d1 : d < 4294967296) (v0 : 0 ≤ v) (v1 : v < 4294967296) :
    bits .or .u32 (bits .or .u32 x d) v = bits .or .u32 (bits .or .u32 x v) d := by
  obtain ⟨a, rfl⟩ := Int.eq_ofNat_of_zero_le h0
  obtain ⟨b, rfl⟩ := Int.eq_ofNat_of_zero_le d0
  obtain ⟨c, rfl⟩ := Int.eq_ofNat_of_zero_le v0
  have l1 : a ||| b < 4294967296 := Nat.or_lt_two_pow (n := 32) (by omega) (by omega)
  have l2 : a ||| c < 4294967296 := Nat.or_lt_two_pow (n := 32) (by omega) (by omega)
  rw [bits_or_u32_nat a b (by omega) (by omega), bits_or_u32_nat a c (by omega) (by omega), bits_or_u32_nat _ c l1 (by omega), bits_or_u32_nat _ b l2 (by omega), Nat.or_assoc, Nat.or_comm b c, Nat.or_assoc]
/-- the low part of a word -/
theorem get_low (x : Int) (h : 0 ≤ x) : GrF.get x 11 0 = x % 4096 ∧ GrF.get x 15 0 = x % 65536 ∧ GrF.get x 25 0 = x % 67108864 ∧ GrF.get x 18 0 = x % 524288 := by
  obtain ⟨a, rfl⟩ := Int.eq_ofNat_of_zero_le h
  have g : ∀ hi : Nat, hi ≤ 63 → GrF.get (a : Int) (hi : Int) 0 = ((a % 2 ^ (hi + 1) : Nat) : Int) := by
    intro hi hh
    rw [GrF.get, if_pos (GrF.span_mk (by omega) (by omega) (by omega)), GrF.getN_eq]
    simp
  exact ⟨g 11 (by decide), g 15 (by decide), g 25 (by decide), g 18 (by decide)⟩
theorem uw_lo (x : Int) : 0 ≤ IntKind.u64.wrap x := by rw [IntKind.wrap_u64]; omega
theorem uw_hi (x : Int) : IntKind.u64.wrap x < 18446744073709551616 := by rw [IntKind.wrap_u64]; omega
theorem or_mul (k j : Nat) (M J : Int) (hM : M = (2 ^ k : Nat)) (hJ : J = (2 ^ j : Nat)) (hk : k + j ≤ 32) (x b : Int) (h0 : 0 ≤ x) (h1 : x < 4294967296) (b0 : 0 ≤ b) (b1 : b < J) (hx : x % (M * J) < M) : bits .or .u32 x (b * M) = x + b * M := by
  subst hM hJ
  refine or_at k j x b h0 h1 b0 b1 hk ?_
  rw [Nat.pow_add]
  simpa using hx
theorem or_one (j : Nat) (J : Int) (hJ : J = (2 ^ j : Nat)) (hk : j ≤ 32) (x b : Int) (h0 : 0 ≤ x) (h1 : x < 4294967296) (b0 : 0 ≤ b) (b1 : b < J) (hx : x % J < 1) : bits .or .u32 x b = x + b := by
  have := or_mul 0 j 1 J rfl hJ (by omega) x b h0 h1 b0 b1 (by simpa using hx)
  simpa using this
end Go.Proofs.YtnehdgapcgbdeaaDoor
