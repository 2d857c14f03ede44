/-
  PLAIN NUMBERS for layer 3, further: fields laid beside one another.
  PLAIN NUMBERS for layer 3, further: the model's 'or' on words of 32 bits, as a sum.
  PLAIN NUMBERS for layer 3, further: the code's words, operation by operation.
-/
import Derived.Test.YtebpmngllljkaaaDoorIm
import Derived.WalkKit
import Derived.Laws.Bits64b
import Derived.Test.YtebpmngllljkaaaDoorFm
set_option linter.unusedSimpArgs false
set_option linter.unusedVariables false
namespace GrI

/-- a field laid into a gap -/
theorem or_mid (A r b k j : Nat) (hr : r < 2 ^ k) (hb : b < 2 ^ j) : (A * 2 ^ (k + j) + r) ||| (b * 2 ^ k) = A * 2 ^ (k + j) + b * 2 ^ k + r := by
  have e1 : A * 2 ^ (k + j) + b * 2 ^ k + r = 2 ^ k * (A * 2 ^ j + b) + r := by
    rw [Nat.pow_add, Nat.mul_add, ← Nat.mul_assoc, Nat.mul_comm (2 ^ k) b]
    congr 2
    rw [Nat.mul_comm A, Nat.mul_assoc, Nat.mul_comm A]
  have e2 : A * 2 ^ (k + j) + r = 2 ^ k * (A * 2 ^ j) + r := by
    congr 1
    rw [Nat.pow_add, Nat.mul_comm A, Nat.mul_assoc, Nat.mul_comm A]
  rw [e1, e2]
  apply Nat.eq_of_testBit_eq
  intro i
  rw [Nat.testBit_or, Nat.testBit_two_pow_mul_add _ hr, Nat.testBit_two_pow_mul_add _ hr, Nat.mul_comm b, Nat.testBit_two_pow_mul]
  by_cases h : i < k
  · simp [h, show ¬ k ≤ i by omega]
  · have h2 : k ≤ i := by omega
    simp only [h, if_false, h2, decide_true, Bool.true_and]
    rw [Nat.mul_comm A, Nat.testBit_two_pow_mul_add _ hb, ← Nat.zero_add (2 ^ j * A), Nat.add_comm 0]
    have := Nat.testBit_two_pow_mul_add A (Nat.two_pow_pos j) (i - k)
    rw [Nat.add_zero] at this ⊢
    rw [this]
    by_cases c : i - k < j
    · simp [c]
    · have : b.testBit (i - k) = false := Nat.testBit_lt_two_pow (Nat.lt_of_lt_of_le hb (Nat.pow_le_pow_right (by decide) (by omega)))
      simp [c, this]
end GrI

namespace Go.Proofs.YtebpmngllljkaaaDoor
open Go.RowKit

theorem wrap_u32 (x : Int) : IntKind.u32.wrap x = x % 4294967296 := by
  simp [IntKind.wrap, IntKind.signed, IntKind.bits]
theorem bits_or_u32_nat (a b : Nat) (ha : a < 4294967296) (hb : b < 4294967296) :
    bits .or .u32 (a : Int) (b : Int) = ((a ||| b : Nat) : Int) := by
  have hx : a ||| b < 2 ^ 32 := Nat.or_lt_two_pow (by omega) (by omega)
  have hx2 : a ||| b < 2 ^ 64 := Nat.lt_of_lt_of_le hx (by decide)
  have h1 : (BitVec.ofInt 32 (a : Int)).toNat = a := by
    rw [BitVec.ofInt_natCast, BitVec.toNat_ofNat]; exact Nat.mod_eq_of_lt (by omega)
  have h2 : (BitVec.ofInt 32 (b : Int)).toNat = b := by
    rw [BitVec.ofInt_natCast, BitVec.toNat_ofNat]; exact Nat.mod_eq_of_lt (by omega)
  show IntKind.u32.wrap ((BitVec.ofInt 32 (a : Int) ||| BitVec.ofInt 32 (b : Int)).toNat : Int) = _
  rw [BitVec.toNat_or, h1, h2, wrap_u32]
  omega

theorem or0 (x : Int) (h0 : 0 ≤ x) (h1 : x < 4294967296) : bits .or .u32 x 0 = x := by
  obtain ⟨a, rfl⟩ := Int.eq_ofNat_of_zero_le h0
  have := bits_or_u32_nat a 0 (by omega) (by decide)
  simpa using this
/-- a field laid into a gap -/
theorem or_at (k j : Nat) (x b : Int) (h0 : 0 ≤ x) (h1 : x < 4294967296) (b0 : 0 ≤ b) (b1 : b < (2 ^ j : Nat)) (hk : k + j ≤ 32) (hx : x % (2 ^ (k + j) : Nat) < (2 ^ k : Nat)) :
    bits .or .u32 x (b * (2 ^ k : Nat)) = x + b * (2 ^ k : Nat) := by
  obtain ⟨a, rfl⟩ := Int.eq_ofNat_of_zero_le h0
  obtain ⟨c, rfl⟩ := Int.eq_ofNat_of_zero_le b0
  have hc : c < 2 ^ j := by exact_mod_cast b1
  have hr : a % 2 ^ (k + j) < 2 ^ k := by exact_mod_cast hx
  have hcb : c * 2 ^ k < 4294967296 := by
    have e1 : c * 2 ^ k < 2 ^ j * 2 ^ k := Nat.mul_lt_mul_of_pos_right hc (Nat.two_pow_pos k)
    have e2 : 2 ^ j * 2 ^ k ≤ 2 ^ 32 := by rw [← Nat.pow_add]; exact Nat.pow_le_pow_right (by decide) (by omega)
    have e3 : (2 : Nat) ^ 32 = 4294967296 := by decide
    omega
  have key := GrI.or_mid (a / 2 ^ (k + j)) (a % 2 ^ (k + j)) c k j hr hc
  have hd := Nat.div_add_mod a (2 ^ (k + j))
  rw [Nat.mul_comm] at hd
  rw [hd] at key
  have := bits_or_u32_nat a (c * 2 ^ k) (by omega) hcb
  rw [key] at this
  have e4 : ((c : Int) * ((2 ^ k : Nat) : Int)) = ((c * 2 ^ k : Nat) : Int) := by simp
  rw [e4, this]
  omega
theorem or_swap (x d v : Int) (h0 : 0 ≤ x) (h1 : x < 4294967296) (d0 : 0 ≤ d) (d1 : d < 4294967296) (v0 : 0 ≤ v) (v1 : v < 4294967296) :
    bits .or .u32 (bits .or .u32 x d) v = bits .or .u32 (bits .or .u32 x v) d := by
  obtain ⟨a, rfl⟩ := Int.eq_ofNat_of_zero_le h0
  obtain ⟨b, rfl⟩ := Int.eq_ofNat_of_zero_le d0
  obtain ⟨c, rfl⟩ := Int.eq_ofNat_of_zero_le v0
  have l1 : a ||| b < 4294967296 := Nat.or_lt_two_pow (n := 32) (by omega) (by omega)
  have l2 : a ||| c < 4294967296 := Nat.or_lt_two_pow (n := 32) (by omega) (by omega)
  rw [bits_or_u32_nat a b (by omega) (by omega), bits_or_u32_nat a c (by omega) (by omega), bits_or_u32_nat _ c l1 (by omega), bits_or_u32_nat _ b l2 (by omega), Nat.or_assoc, Nat.or_comm b c, Nat.or_assoc]
/-- the low part of a word -/
theorem get_low (x : Int) (h : 0 ≤ x) : GrF.get x 11 0 = x % 4096 ∧ GrF.get x 15 0 = x % 65536 ∧ GrF.get x 25 0 = x % 67108864 ∧ GrF.get x 18 0 = x % 524288 := by
  obtain ⟨a, rfl⟩ := Int.eq_ofNat_of_zero_le h
  have g : ∀ hi : Nat, hi ≤ 63 → GrF.get (a : Int) (hi : Int) 0 = ((a % 2 ^ (hi + 1) : Nat) : Int) := by
    intro hi hh
    rw [GrF.get, if_pos (GrF.span_mk (by omega) (by omega) (by omega)), GrF.getN_eq]
    simp
  exact ⟨g 11 (by decide), g 15 (by decide), g 25 (by decide), g 18 (by decide)⟩
theorem uw_lo (x : Int) : 0 ≤ IntKind.u64.wrap x := by rw [IntKind.wrap_u64]; omega
theorem uw_hi (x : Int) : IntKind.u64.wrap x < 18446744073709551616 := by rw [IntKind.wrap_u64]; omega
theorem or_mul (k j : Nat) (M J : Int) (hM : M = (2 ^ k : Nat)) (hJ : J = (2 ^ j : Nat)) (hk : k + j ≤ 32) (x b : Int) (h0 : 0 ≤ x) (h1 : x < 4294967296) (b0 : 0 ≤ b) (b1 : b < J) (hx : x % (M * J) < M) : bits .or .u32 x (b * M) = x + b * M := by
  subst hM hJ
  refine or_at k j x b h0 h1 b0 b1 hk ?_
  rw [Nat.pow_add]
  simpa using hx
theorem or_one (j : Nat) (J : Int) (hJ : J = (2 ^ j : Nat)) (hk : j ≤ 32) (x b : Int) (h0 : 0 ≤ x) (h1 : x < 4294967296) (b0 : 0 ≤ b) (b1 : b < J) (hx : x % J < 1) : bits .or .u32 x b = x + b := by
  have := or_mul 0 j 1 J rfl hJ (by omega) x b h0 h1 b0 b1 (by simpa using hx)
  simpa using this
end Go.Proofs.YtebpmngllljkaaaDoor

namespace Go.Proofs.YtebpmngllljkaaaDoor
open Go.RowKit

theorem encw_1 (hb : True) : (bits .or .u32 (bits .or .u32 (bits .or .u32 (bits .or .u32 3573751839 0) 0) 0) 0) = GrI.word ⟨1, 0, 0, 0, 0, 0⟩ := by
  rw [or0 3573751839 (by omega) (by omega)]
  rw [or0 3573751839 (by omega) (by omega)]
  rw [or0 3573751839 (by omega) (by omega)]
  rw [or0 3573751839 (by omega) (by omega)]
  simp only [GrI.word]
  simp only [Int.reduceEq, if_true, if_false, or_false, or_true, false_or, true_or, Int.reduceMod, Int.reduceDiv]
  try omega

theorem encw_2 (d n imm : Int) (hb : 0 ≤ d ∧ d ≤ 31 ∧ 0 ≤ n ∧ n ≤ 31 ∧ 0 ≤ imm ∧ imm ≤ 32760 ∧ imm % 8 = 0) : (bits .or .u32 (bits .or .u32 (bits .or .u32 (bits .or .u32 (bits .or .u32 4181721088 d) (n * 32)) 0) (GrF.get (imm / 8) 11 0 % 4294967296 * 1024 % 4294967296)) 0) = GrI.word ⟨2, d, n, 0, imm, 0⟩ := by
  rw [or_one 5 32 rfl (by decide) 4181721088 d (by omega) (by omega) (by omega) (by omega) (by omega)]
  rw [or_mul 5 5 32 32 rfl rfl (by decide) (4181721088 + d) n (by omega) (by omega) (by omega) (by omega) (by omega)]
  rw [or0 ((4181721088 + d) + n * 32) (by omega) (by omega)]
  rw [(get_low (imm / 8) (by omega)).1]
  rw [show ((imm / 8) % 4096) % 4294967296 * 1024 % 4294967296 = ((imm / 8) % 4096) * 1024 by omega]
  rw [or_mul 10 12 1024 4096 rfl rfl (by decide) ((4181721088 + d) + n * 32) ((imm / 8) % 4096) (by omega) (by omega) (by omega) (by omega) (by omega)]
  rw [or0 (((4181721088 + d) + n * 32) + ((imm / 8) % 4096) * 1024) (by omega) (by omega)]
  simp only [GrI.word]
  simp only [Int.reduceEq, if_true, if_false, or_false, or_true, false_or, true_or, Int.reduceMod, Int.reduceDiv]
  try omega

theorem encw_3 (d n imm : Int) (hb : 0 ≤ d ∧ d ≤ 31 ∧ 0 ≤ n ∧ n ≤ 31 ∧ 0 ≤ imm ∧ imm ≤ 32760 ∧ imm % 8 = 0) : (bits .or .u32 (bits .or .u32 (bits .or .u32 (bits .or .u32 (bits .or .u32 4177526784 d) (n * 32)) 0) (GrF.get (imm / 8) 11 0 % 4294967296 * 1024 % 4294967296)) 0) = GrI.word ⟨3, d, n, 0, imm, 0⟩ := by
  rw [or_one 5 32 rfl (by decide) 4177526784 d (by omega) (by omega) (by omega) (by omega) (by omega)]
  rw [or_mul 5 5 32 32 rfl rfl (by decide) (4177526784 + d) n (by omega) (by omega) (by omega) (by omega) (by omega)]
  rw [or0 ((4177526784 + d) + n * 32) (by omega) (by omega)]
  rw [(get_low (imm / 8) (by omega)).1]
  rw [show ((imm / 8) % 4096) % 4294967296 * 1024 % 4294967296 = ((imm / 8) % 4096) * 1024 by omega]
  rw [or_mul 10 12 1024 4096 rfl rfl (by decide) ((4177526784 + d) + n * 32) ((imm / 8) % 4096) (by omega) (by omega) (by omega) (by omega) (by omega)]
  rw [or0 (((4177526784 + d) + n * 32) + ((imm / 8) % 4096) * 1024) (by omega) (by omega)]
  simp only [GrI.word]
  simp only [Int.reduceEq, if_true, if_false, or_false, or_true, false_or, true_or, Int.reduceMod, Int.reduceDiv]
  try omega

theorem encw_4 (d n : Int) (hb : 0 ≤ d ∧ d ≤ 31 ∧ 0 ≤ n ∧ n ≤ 31) : (bits .or .u32 (bits .or .u32 (bits .or .u32 (bits .or .u32 3370122240 d) (n * 32)) 0) 0) = GrI.word ⟨4, d, n, 0, 0, 0⟩ := by
  rw [or_one 5 32 rfl (by decide) 3370122240 d (by omega) (by omega) (by omega) (by omega) (by omega)]
  rw [or_mul 5 5 32 32 rfl rfl (by decide) (3370122240 + d) n (by omega) (by omega) (by omega) (by omega) (by omega)]
  rw [or0 ((3370122240 + d) + n * 32) (by omega) (by omega)]
  rw [or0 ((3370122240 + d) + n * 32) (by omega) (by omega)]
  simp only [GrI.word]
  simp only [Int.reduceEq, if_true, if_false, or_false, or_true, false_or, true_or, Int.reduceMod, Int.reduceDiv]
  try omega

theorem encw_5 (d n : Int) (hb : 0 ≤ d ∧ d ≤ 31 ∧ 0 ≤ n ∧ n ≤ 31) : (bits .or .u32 (bits .or .u32 (bits .or .u32 (bits .or .u32 3365927936 d) (n * 32)) 0) 0) = GrI.word ⟨5, d, n, 0, 0, 0⟩ := by
  rw [or_one 5 32 rfl (by decide) 3365927936 d (by omega) (by omega) (by omega) (by omega) (by omega)]
  rw [or_mul 5 5 32 32 rfl rfl (by decide) (3365927936 + d) n (by omega) (by omega) (by omega) (by omega) (by omega)]
  rw [or0 ((3365927936 + d) + n * 32) (by omega) (by omega)]
  rw [or0 ((3365927936 + d) + n * 32) (by omega) (by omega)]
  simp only [GrI.word]
  simp only [Int.reduceEq, if_true, if_false, or_false, or_true, false_or, true_or, Int.reduceMod, Int.reduceDiv]
  try omega

theorem encw_6 (d imm kind : Int) (hb : 0 ≤ d ∧ d ≤ 31 ∧ 0 ≤ imm ∧ imm ≤ 65535 ∧ 0 ≤ kind ∧ kind ≤ 3) : (bits .or .u32 (bits .or .u32 (bits .or .u32 (bits .or .u32 (bits .or .u32 3531603968 d) 0) 0) (GrF.get imm 15 0 % 4294967296 * 32 % 4294967296)) (kind * 2097152)) = GrI.word ⟨6, d, 0, 0, imm, kind⟩ := by
  rw [or_one 5 32 rfl (by decide) 3531603968 d (by omega) (by omega) (by omega) (by omega) (by omega)]
  rw [or0 (3531603968 + d) (by omega) (by omega)]
  rw [or0 (3531603968 + d) (by omega) (by omega)]
  rw [(get_low imm (by omega)).2.1]
  rw [show (imm % 65536) % 4294967296 * 32 % 4294967296 = (imm % 65536) * 32 by omega]
  rw [or_mul 5 16 32 65536 rfl rfl (by decide) (3531603968 + d) (imm % 65536) (by omega) (by omega) (by omega) (by omega) (by omega)]
  rw [or_mul 21 2 2097152 4 rfl rfl (by decide) ((3531603968 + d) + (imm % 65536) * 32) kind (by omega) (by omega) (by omega) (by omega) (by omega)]
  simp only [GrI.word]
  simp only [Int.reduceEq, if_true, if_false, or_false, or_true, false_or, true_or, Int.reduceMod, Int.reduceDiv]
  try omega

theorem encw_7 (d n imm : Int) (hb : 0 ≤ d ∧ d ≤ 31 ∧ 0 ≤ n ∧ n ≤ 31 ∧ 0 ≤ imm ∧ imm ≤ 4095) : (bits .or .u32 (bits .or .u32 (bits .or .u32 (bits .or .u32 (bits .or .u32 2432696320 d) (n * 32)) 0) (GrF.get imm 11 0 % 4294967296 * 1024 % 4294967296)) 0) = GrI.word ⟨7, d, n, 0, imm, 0⟩ := by
  rw [or_one 5 32 rfl (by decide) 2432696320 d (by omega) (by omega) (by omega) (by omega) (by omega)]
  rw [or_mul 5 5 32 32 rfl rfl (by decide) (2432696320 + d) n (by omega) (by omega) (by omega) (by omega) (by omega)]
  rw [or0 ((2432696320 + d) + n * 32) (by omega) (by omega)]
  rw [(get_low imm (by omega)).1]
  rw [show (imm % 4096) % 4294967296 * 1024 % 4294967296 = (imm % 4096) * 1024 by omega]
  rw [or_mul 10 12 1024 4096 rfl rfl (by decide) ((2432696320 + d) + n * 32) (imm % 4096) (by omega) (by omega) (by omega) (by omega) (by omega)]
  rw [or0 (((2432696320 + d) + n * 32) + (imm % 4096) * 1024) (by omega) (by omega)]
  simp only [GrI.word]
  simp only [Int.reduceEq, if_true, if_false, or_false, or_true, false_or, true_or, Int.reduceMod, Int.reduceDiv]
  try omega

theorem encw_8 (d n m : Int) (hb : 0 ≤ d ∧ d ≤ 31 ∧ 0 ≤ n ∧ n ≤ 31 ∧ 0 ≤ m ∧ m ≤ 31) : (bits .or .u32 (bits .or .u32 (bits .or .u32 (bits .or .u32 2332033024 d) (n * 32)) (m * 65536)) 0) = GrI.word ⟨8, d, n, m, 0, 0⟩ := by
  rw [or_one 5 32 rfl (by decide) 2332033024 d (by omega) (by omega) (by omega) (by omega) (by omega)]
  rw [or_mul 5 5 32 32 rfl rfl (by decide) (2332033024 + d) n (by omega) (by omega) (by omega) (by omega) (by omega)]
  rw [or_mul 16 5 65536 32 rfl rfl (by decide) ((2332033024 + d) + n * 32) m (by omega) (by omega) (by omega) (by omega) (by omega)]
  rw [or0 (((2332033024 + d) + n * 32) + m * 65536) (by omega) (by omega)]
  simp only [GrI.word]
  simp only [Int.reduceEq, if_true, if_false, or_false, or_true, false_or, true_or, Int.reduceMod, Int.reduceDiv]
  try omega

theorem encw_9 (d n m : Int) (hb : 0 ≤ d ∧ d ≤ 31 ∧ 0 ≤ n ∧ n ≤ 31 ∧ 0 ≤ m ∧ m ≤ 31) : (bits .or .u32 (bits .or .u32 (bits .or .u32 (bits .or .u32 3405774848 d) (n * 32)) (m * 65536)) 0) = GrI.word ⟨9, d, n, m, 0, 0⟩ := by
  rw [or_one 5 32 rfl (by decide) 3405774848 d (by omega) (by omega) (by omega) (by omega) (by omega)]
  rw [or_mul 5 5 32 32 rfl rfl (by decide) (3405774848 + d) n (by omega) (by omega) (by omega) (by omega) (by omega)]
  rw [or_mul 16 5 65536 32 rfl rfl (by decide) ((3405774848 + d) + n * 32) m (by omega) (by omega) (by omega) (by omega) (by omega)]
  rw [or0 (((3405774848 + d) + n * 32) + m * 65536) (by omega) (by omega)]
  simp only [GrI.word]
  simp only [Int.reduceEq, if_true, if_false, or_false, or_true, false_or, true_or, Int.reduceMod, Int.reduceDiv]
  try omega

theorem encw_10 (d n m : Int) (hb : 0 ≤ d ∧ d ≤ 31 ∧ 0 ≤ n ∧ n ≤ 31 ∧ 0 ≤ m ∧ m ≤ 31) : (bits .or .u32 (bits .or .u32 (bits .or .u32 (bits .or .u32 2315255808 d) (n * 32)) (m * 65536)) 0) = GrI.word ⟨10, d, n, m, 0, 0⟩ := by
  rw [or_one 5 32 rfl (by decide) 2315255808 d (by omega) (by omega) (by omega) (by omega) (by omega)]
  rw [or_mul 5 5 32 32 rfl rfl (by decide) (2315255808 + d) n (by omega) (by omega) (by omega) (by omega) (by omega)]
  rw [or_mul 16 5 65536 32 rfl rfl (by decide) ((2315255808 + d) + n * 32) m (by omega) (by omega) (by omega) (by omega) (by omega)]
  rw [or0 (((2315255808 + d) + n * 32) + m * 65536) (by omega) (by omega)]
  simp only [GrI.word]
  simp only [Int.reduceEq, if_true, if_false, or_false, or_true, false_or, true_or, Int.reduceMod, Int.reduceDiv]
  try omega

theorem encw_11 (d n m : Int) (hb : 0 ≤ d ∧ d ≤ 31 ∧ 0 ≤ n ∧ n ≤ 31 ∧ 0 ≤ m ∧ m ≤ 31) : (bits .or .u32 (bits .or .u32 (bits .or .u32 (bits .or .u32 2852126720 d) (n * 32)) (m * 65536)) 0) = GrI.word ⟨11, d, n, m, 0, 0⟩ := by
  rw [or_one 5 32 rfl (by decide) 2852126720 d (by omega) (by omega) (by omega) (by omega) (by omega)]
  rw [or_mul 5 5 32 32 rfl rfl (by decide) (2852126720 + d) n (by omega) (by omega) (by omega) (by omega) (by omega)]
  rw [or_mul 16 5 65536 32 rfl rfl (by decide) ((2852126720 + d) + n * 32) m (by omega) (by omega) (by omega) (by omega) (by omega)]
  rw [or0 (((2852126720 + d) + n * 32) + m * 65536) (by omega) (by omega)]
  simp only [GrI.word]
  simp only [Int.reduceEq, if_true, if_false, or_false, or_true, false_or, true_or, Int.reduceMod, Int.reduceDiv]
  try omega

theorem encw_12 (d n m : Int) (hb : 0 ≤ d ∧ d ≤ 31 ∧ 0 ≤ n ∧ n ≤ 31 ∧ 0 ≤ m ∧ m ≤ 31) : (bits .or .u32 (bits .or .u32 (bits .or .u32 (bits .or .u32 3388997632 d) (n * 32)) (m * 65536)) 0) = GrI.word ⟨12, d, n, m, 0, 0⟩ := by
  rw [or_one 5 32 rfl (by decide) 3388997632 d (by omega) (by omega) (by omega) (by omega) (by omega)]
  rw [or_mul 5 5 32 32 rfl rfl (by decide) (3388997632 + d) n (by omega) (by omega) (by omega) (by omega) (by omega)]
  rw [or_mul 16 5 65536 32 rfl rfl (by decide) ((3388997632 + d) + n * 32) m (by omega) (by omega) (by omega) (by omega) (by omega)]
  rw [or0 (((3388997632 + d) + n * 32) + m * 65536) (by omega) (by omega)]
  simp only [GrI.word]
  simp only [Int.reduceEq, if_true, if_false, or_false, or_true, false_or, true_or, Int.reduceMod, Int.reduceDiv]
  try omega

theorem encw_13 (d n m : Int) (hb : 0 ≤ d ∧ d ≤ 31 ∧ 0 ≤ n ∧ n ≤ 31 ∧ 0 ≤ m ∧ m ≤ 31) : (bits .or .u32 (bits .or .u32 (bits .or .u32 (bits .or .u32 3942645760 d) (n * 32)) (m * 65536)) 0) = GrI.word ⟨13, d, n, m, 0, 0⟩ := by
  rw [or_one 5 32 rfl (by decide) 3942645760 d (by omega) (by omega) (by omega) (by omega) (by omega)]
  rw [or_mul 5 5 32 32 rfl rfl (by decide) (3942645760 + d) n (by omega) (by omega) (by omega) (by omega) (by omega)]
  rw [or_mul 16 5 65536 32 rfl rfl (by decide) ((3942645760 + d) + n * 32) m (by omega) (by omega) (by omega) (by omega) (by omega)]
  rw [or0 (((3942645760 + d) + n * 32) + m * 65536) (by omega) (by omega)]
  simp only [GrI.word]
  simp only [Int.reduceEq, if_true, if_false, or_false, or_true, false_or, true_or, Int.reduceMod, Int.reduceDiv]
  try omega

theorem encw_14 (imm : Int) (hb : -33554432 ≤ imm ∧ imm ≤ 33554431) : (bits .or .u32 (bits .or .u32 (bits .or .u32 (bits .or .u32 (bits .or .u32 335544320 0) 0) 0) (GrF.get (IntKind.u64.wrap imm) 25 0 % 4294967296)) 0) = GrI.word ⟨14, 0, 0, 0, imm, 0⟩ := by
  rw [or0 335544320 (by omega) (by omega)]
  rw [or0 335544320 (by omega) (by omega)]
  rw [or0 335544320 (by omega) (by omega)]
  rw [(get_low (IntKind.u64.wrap imm) (uw_lo imm)).2.2.1, IntKind.wrap_u64]
  rw [show (imm % 18446744073709551616 % 67108864) % 4294967296 = (imm % 18446744073709551616 % 67108864) by omega]
  rw [or_one 26 67108864 rfl (by decide) 335544320 (imm % 18446744073709551616 % 67108864) (by omega) (by omega) (by omega) (by omega) (by omega)]
  rw [or0 (335544320 + (imm % 18446744073709551616 % 67108864)) (by omega) (by omega)]
  simp only [GrI.word]
  simp only [Int.reduceEq, if_true, if_false, or_false, or_true, false_or, true_or, Int.reduceMod, Int.reduceDiv]
  try omega

theorem encw_15 (d imm : Int) (hb : 0 ≤ d ∧ d ≤ 31 ∧ -262144 ≤ imm ∧ imm ≤ 262143) : (bits .or .u32 (bits .or .u32 (bits .or .u32 (bits .or .u32 (bits .or .u32 3019898880 d) 0) 0) (GrF.get (IntKind.u64.wrap imm) 18 0 % 4294967296 * 32 % 4294967296)) 0) = GrI.word ⟨15, d, 0, 0, imm, 0⟩ := by
  rw [or_one 5 32 rfl (by decide) 3019898880 d (by omega) (by omega) (by omega) (by omega) (by omega)]
  rw [or0 (3019898880 + d) (by omega) (by omega)]
  rw [or0 (3019898880 + d) (by omega) (by omega)]
  rw [(get_low (IntKind.u64.wrap imm) (uw_lo imm)).2.2.2, IntKind.wrap_u64]
  rw [show (imm % 18446744073709551616 % 524288) % 4294967296 * 32 % 4294967296 = (imm % 18446744073709551616 % 524288) * 32 by omega]
  rw [or_mul 5 19 32 524288 rfl rfl (by decide) (3019898880 + d) (imm % 18446744073709551616 % 524288) (by omega) (by omega) (by omega) (by omega) (by omega)]
  rw [or0 ((3019898880 + d) + (imm % 18446744073709551616 % 524288) * 32) (by omega) (by omega)]
  simp only [GrI.word]
  simp only [Int.reduceEq, if_true, if_false, or_false, or_true, false_or, true_or, Int.reduceMod, Int.reduceDiv]
  try omega

theorem encw_16 (d imm : Int) (hb : 0 ≤ d ∧ d ≤ 31 ∧ -262144 ≤ imm ∧ imm ≤ 262143) : (bits .or .u32 (bits .or .u32 (bits .or .u32 (bits .or .u32 (bits .or .u32 3036676096 d) 0) 0) (GrF.get (IntKind.u64.wrap imm) 18 0 % 4294967296 * 32 % 4294967296)) 0) = GrI.word ⟨16, d, 0, 0, imm, 0⟩ := by
  rw [or_one 5 32 rfl (by decide) 3036676096 d (by omega) (by omega) (by omega) (by omega) (by omega)]
  rw [or0 (3036676096 + d) (by omega) (by omega)]
  rw [or0 (3036676096 + d) (by omega) (by omega)]
  rw [(get_low (IntKind.u64.wrap imm) (uw_lo imm)).2.2.2, IntKind.wrap_u64]
  rw [show (imm % 18446744073709551616 % 524288) % 4294967296 * 32 % 4294967296 = (imm % 18446744073709551616 % 524288) * 32 by omega]
  rw [or_mul 5 19 32 524288 rfl rfl (by decide) (3036676096 + d) (imm % 18446744073709551616 % 524288) (by omega) (by omega) (by omega) (by omega) (by omega)]
  rw [or0 ((3036676096 + d) + (imm % 18446744073709551616 % 524288) * 32) (by omega) (by omega)]
  simp only [GrI.word]
  simp only [Int.reduceEq, if_true, if_false, or_false, or_true, false_or, true_or, Int.reduceMod, Int.reduceDiv]
  try omega

theorem encw_17 (imm kind : Int) (hb : -262144 ≤ imm ∧ imm ≤ 262143 ∧ 0 ≤ kind ∧ kind ≤ 1) : (bits .or .u32 (bits .or .u32 (bits .or .u32 (bits .or .u32 (bits .or .u32 1409286144 0) 0) 0) (GrF.get (IntKind.u64.wrap imm) 18 0 % 4294967296 * 32 % 4294967296)) kind) = GrI.word ⟨17, 0, 0, 0, imm, kind⟩ := by
  rw [or0 1409286144 (by omega) (by omega)]
  rw [or0 1409286144 (by omega) (by omega)]
  rw [or0 1409286144 (by omega) (by omega)]
  rw [(get_low (IntKind.u64.wrap imm) (uw_lo imm)).2.2.2, IntKind.wrap_u64]
  rw [show (imm % 18446744073709551616 % 524288) % 4294967296 * 32 % 4294967296 = (imm % 18446744073709551616 % 524288) * 32 by omega]
  rw [or_mul 5 19 32 524288 rfl rfl (by decide) 1409286144 (imm % 18446744073709551616 % 524288) (by omega) (by omega) (by omega) (by omega) (by omega)]
  rw [or_one 1 2 rfl (by decide) (1409286144 + (imm % 18446744073709551616 % 524288) * 32) kind (by omega) (by omega) (by omega) (by omega) (by omega)]
  simp only [GrI.word]
  simp only [Int.reduceEq, if_true, if_false, or_false, or_true, false_or, true_or, Int.reduceMod, Int.reduceDiv]
  try omega

theorem encw_18 (kind : Int) (hb : 9 ≤ kind ∧ kind ≤ 15) : (bits .or .u32 (bits .or .u32 (bits .or .u32 (bits .or .u32 3573756095 0) 0) 0) (kind * 256)) = GrI.word ⟨18, 0, 0, 0, 0, kind⟩ := by
  rw [or0 3573756095 (by omega) (by omega)]
  rw [or0 3573756095 (by omega) (by omega)]
  rw [or0 3573756095 (by omega) (by omega)]
  rw [or_mul 8 4 256 16 rfl rfl (by decide) 3573756095 kind (by omega) (by omega) (by omega) (by omega) (by omega)]
  simp only [GrI.word]
  simp only [Int.reduceEq, if_true, if_false, or_false, or_true, false_or, true_or, Int.reduceMod, Int.reduceDiv]
  try omega

theorem encw_19 (kind : Int) (hb : 9 ≤ kind ∧ kind ≤ 15) : (bits .or .u32 (bits .or .u32 (bits .or .u32 (bits .or .u32 3573756063 0) 0) 0) (kind * 256)) = GrI.word ⟨19, 0, 0, 0, 0, kind⟩ := by
  rw [or0 3573756063 (by omega) (by omega)]
  rw [or0 3573756063 (by omega) (by omega)]
  rw [or0 3573756063 (by omega) (by omega)]
  rw [or_mul 8 4 256 16 rfl rfl (by decide) 3573756063 kind (by omega) (by omega) (by omega) (by omega) (by omega)]
  simp only [GrI.word]
  simp only [Int.reduceEq, if_true, if_false, or_false, or_true, false_or, true_or, Int.reduceMod, Int.reduceDiv]
  try omega

theorem encw_20 (hb : True) : (bits .or .u32 (bits .or .u32 (bits .or .u32 (bits .or .u32 3573759967 0) 0) 0) 0) = GrI.word ⟨20, 0, 0, 0, 0, 0⟩ := by
  rw [or0 3573759967 (by omega) (by omega)]
  rw [or0 3573759967 (by omega) (by omega)]
  rw [or0 3573759967 (by omega) (by omega)]
  rw [or0 3573759967 (by omega) (by omega)]
  simp only [GrI.word]
  simp only [Int.reduceEq, if_true, if_false, or_false, or_true, false_or, true_or, Int.reduceMod, Int.reduceDiv]
  try omega

theorem encw_21_0 (d kind : Int) (hb : 0 ≤ d ∧ d ≤ 31 ∧ 0 ≤ kind ∧ kind ≤ 7) : (bits .or .u32 (bits .or .u32 (bits .or .u32 (bits .or .u32 3574104832 d) 0) 0) 0) = GrI.word ⟨21, d, 0, 0, 0, 0⟩ := by
  have z : (bits .or .u32 3574104832 d) = 3574104832 + d := or_one 5 32 rfl (by decide) 3574104832 d (by omega) (by omega) (by omega) (by omega) (by omega)
  rw [z, or0 (3574104832 + d) (by omega) (by omega), or0 (3574104832 + d) (by omega) (by omega), ← z, or_swap 3574104832 d 0 (by omega) (by omega) (by omega) (by omega) (by omega) (by omega)]
  have y : bits .or .u32 3574104832 0 = 3574104832 := by
    have := bits_or_u32_nat 3574104832 0 (by decide) (by decide)
    exact this
  rw [y, or_one 5 32 rfl (by decide) 3574104832 d (by omega) (by omega) (by omega) (by omega) (by omega)]
  simp only [GrI.word]
  simp only [Int.reduceEq, if_true, if_false, or_false, or_true, false_or, true_or, Int.reduceMod, Int.reduceDiv]
  try omega

theorem encw_21_1 (d kind : Int) (hb : 0 ≤ d ∧ d ≤ 31 ∧ 0 ≤ kind ∧ kind ≤ 7) : (bits .or .u32 (bits .or .u32 (bits .or .u32 (bits .or .u32 3574104832 d) 0) 0) 32) = GrI.word ⟨21, d, 0, 0, 0, 1⟩ := by
  have z : (bits .or .u32 3574104832 d) = 3574104832 + d := or_one 5 32 rfl (by decide) 3574104832 d (by omega) (by omega) (by omega) (by omega) (by omega)
  rw [z, or0 (3574104832 + d) (by omega) (by omega), or0 (3574104832 + d) (by omega) (by omega), ← z, or_swap 3574104832 d 32 (by omega) (by omega) (by omega) (by omega) (by omega) (by omega)]
  have y : bits .or .u32 3574104832 32 = 3574104864 := by
    have := bits_or_u32_nat 3574104832 32 (by decide) (by decide)
    exact this
  rw [y, or_one 5 32 rfl (by decide) 3574104864 d (by omega) (by omega) (by omega) (by omega) (by omega)]
  simp only [GrI.word]
  simp only [Int.reduceEq, if_true, if_false, or_false, or_true, false_or, true_or, Int.reduceMod, Int.reduceDiv]
  try omega

theorem encw_21_2 (d kind : Int) (hb : 0 ≤ d ∧ d ≤ 31 ∧ 0 ≤ kind ∧ kind ≤ 7) : (bits .or .u32 (bits .or .u32 (bits .or .u32 (bits .or .u32 3574104832 d) 0) 0) 96) = GrI.word ⟨21, d, 0, 0, 0, 2⟩ := by
  have z : (bits .or .u32 3574104832 d) = 3574104832 + d := or_one 5 32 rfl (by decide) 3574104832 d (by omega) (by omega) (by omega) (by omega) (by omega)
  rw [z, or0 (3574104832 + d) (by omega) (by omega), or0 (3574104832 + d) (by omega) (by omega), ← z, or_swap 3574104832 d 96 (by omega) (by omega) (by omega) (by omega) (by omega) (by omega)]
  have y : bits .or .u32 3574104832 96 = 3574104928 := by
    have := bits_or_u32_nat 3574104832 96 (by decide) (by decide)
    exact this
  rw [y, or_one 5 32 rfl (by decide) 3574104928 d (by omega) (by omega) (by omega) (by omega) (by omega)]
  simp only [GrI.word]
  simp only [Int.reduceEq, if_true, if_false, or_false, or_true, false_or, true_or, Int.reduceMod, Int.reduceDiv]
  try omega

theorem encw_21_3 (d kind : Int) (hb : 0 ≤ d ∧ d ≤ 31 ∧ 0 ≤ kind ∧ kind ≤ 7) : (bits .or .u32 (bits .or .u32 (bits .or .u32 (bits .or .u32 3574104832 d) 0) 0) 64) = GrI.word ⟨21, d, 0, 0, 0, 3⟩ := by
  have z : (bits .or .u32 3574104832 d) = 3574104832 + d := or_one 5 32 rfl (by decide) 3574104832 d (by omega) (by omega) (by omega) (by omega) (by omega)
  rw [z, or0 (3574104832 + d) (by omega) (by omega), or0 (3574104832 + d) (by omega) (by omega), ← z, or_swap 3574104832 d 64 (by omega) (by omega) (by omega) (by omega) (by omega) (by omega)]
  have y : bits .or .u32 3574104832 64 = 3574104896 := by
    have := bits_or_u32_nat 3574104832 64 (by decide) (by decide)
    exact this
  rw [y, or_one 5 32 rfl (by decide) 3574104896 d (by omega) (by omega) (by omega) (by omega) (by omega)]
  simp only [GrI.word]
  simp only [Int.reduceEq, if_true, if_false, or_false, or_true, false_or, true_or, Int.reduceMod, Int.reduceDiv]
  try omega

theorem encw_21_4 (d kind : Int) (hb : 0 ≤ d ∧ d ≤ 31 ∧ 0 ≤ kind ∧ kind ≤ 7) : (bits .or .u32 (bits .or .u32 (bits .or .u32 (bits .or .u32 3574104832 d) 0) 0) 1024) = GrI.word ⟨21, d, 0, 0, 0, 4⟩ := by
  have z : (bits .or .u32 3574104832 d) = 3574104832 + d := or_one 5 32 rfl (by decide) 3574104832 d (by omega) (by omega) (by omega) (by omega) (by omega)
  rw [z, or0 (3574104832 + d) (by omega) (by omega), or0 (3574104832 + d) (by omega) (by omega), ← z, or_swap 3574104832 d 1024 (by omega) (by omega) (by omega) (by omega) (by omega) (by omega)]
  have y : bits .or .u32 3574104832 1024 = 3574105856 := by
    have := bits_or_u32_nat 3574104832 1024 (by decide) (by decide)
    exact this
  rw [y, or_one 5 32 rfl (by decide) 3574105856 d (by omega) (by omega) (by omega) (by omega) (by omega)]
  simp only [GrI.word]
  simp only [Int.reduceEq, if_true, if_false, or_false, or_true, false_or, true_or, Int.reduceMod, Int.reduceDiv]
  try omega

theorem encw_21_5 (d kind : Int) (hb : 0 ≤ d ∧ d ≤ 31 ∧ 0 ≤ kind ∧ kind ≤ 7) : (bits .or .u32 (bits .or .u32 (bits .or .u32 (bits .or .u32 3574104832 d) 0) 0) 1056) = GrI.word ⟨21, d, 0, 0, 0, 5⟩ := by
  have z : (bits .or .u32 3574104832 d) = 3574104832 + d := or_one 5 32 rfl (by decide) 3574104832 d (by omega) (by omega) (by omega) (by omega) (by omega)
  rw [z, or0 (3574104832 + d) (by omega) (by omega), or0 (3574104832 + d) (by omega) (by omega), ← z, or_swap 3574104832 d 1056 (by omega) (by omega) (by omega) (by omega) (by omega) (by omega)]
  have y : bits .or .u32 3574104832 1056 = 3574105888 := by
    have := bits_or_u32_nat 3574104832 1056 (by decide) (by decide)
    exact this
  rw [y, or_one 5 32 rfl (by decide) 3574105888 d (by omega) (by omega) (by omega) (by omega) (by omega)]
  simp only [GrI.word]
  simp only [Int.reduceEq, if_true, if_false, or_false, or_true, false_or, true_or, Int.reduceMod, Int.reduceDiv]
  try omega

theorem encw_21_6 (d kind : Int) (hb : 0 ≤ d ∧ d ≤ 31 ∧ 0 ≤ kind ∧ kind ≤ 7) : (bits .or .u32 (bits .or .u32 (bits .or .u32 (bits .or .u32 3574104832 d) 0) 0) 1120) = GrI.word ⟨21, d, 0, 0, 0, 6⟩ := by
  have z : (bits .or .u32 3574104832 d) = 3574104832 + d := or_one 5 32 rfl (by decide) 3574104832 d (by omega) (by omega) (by omega) (by omega) (by omega)
  rw [z, or0 (3574104832 + d) (by omega) (by omega), or0 (3574104832 + d) (by omega) (by omega), ← z, or_swap 3574104832 d 1120 (by omega) (by omega) (by omega) (by omega) (by omega) (by omega)]
  have y : bits .or .u32 3574104832 1120 = 3574105952 := by
    have := bits_or_u32_nat 3574104832 1120 (by decide) (by decide)
    exact this
  rw [y, or_one 5 32 rfl (by decide) 3574105952 d (by omega) (by omega) (by omega) (by omega) (by omega)]
  simp only [GrI.word]
  simp only [Int.reduceEq, if_true, if_false, or_false, or_true, false_or, true_or, Int.reduceMod, Int.reduceDiv]
  try omega

theorem encw_21_7 (d kind : Int) (hb : 0 ≤ d ∧ d ≤ 31 ∧ 0 ≤ kind ∧ kind ≤ 7) : (bits .or .u32 (bits .or .u32 (bits .or .u32 (bits .or .u32 3574104832 d) 0) 0) 1088) = GrI.word ⟨21, d, 0, 0, 0, 7⟩ := by
  have z : (bits .or .u32 3574104832 d) = 3574104832 + d := or_one 5 32 rfl (by decide) 3574104832 d (by omega) (by omega) (by omega) (by omega) (by omega)
  rw [z, or0 (3574104832 + d) (by omega) (by omega), or0 (3574104832 + d) (by omega) (by omega), ← z, or_swap 3574104832 d 1088 (by omega) (by omega) (by omega) (by omega) (by omega) (by omega)]
  have y : bits .or .u32 3574104832 1088 = 3574105920 := by
    have := bits_or_u32_nat 3574104832 1088 (by decide) (by decide)
    exact this
  rw [y, or_one 5 32 rfl (by decide) 3574105920 d (by omega) (by omega) (by omega) (by omega) (by omega)]
  simp only [GrI.word]
  simp only [Int.reduceEq, if_true, if_false, or_false, or_true, false_or, true_or, Int.reduceMod, Int.reduceDiv]
  try omega

theorem encw_22 (hb : True) : (bits .or .u32 (bits .or .u32 (bits .or .u32 (bits .or .u32 3600745440 0) 0) 0) 0) = GrI.word ⟨22, 0, 0, 0, 0, 0⟩ := by
  rw [or0 3600745440 (by omega) (by omega)]
  rw [or0 3600745440 (by omega) (by omega)]
  rw [or0 3600745440 (by omega) (by omega)]
  rw [or0 3600745440 (by omega) (by omega)]
  simp only [GrI.word]
  simp only [Int.reduceEq, if_true, if_false, or_false, or_true, false_or, true_or, Int.reduceMod, Int.reduceDiv]
  try omega

theorem encw_23_0 (d kind : Int) (hb : 0 ≤ d ∧ d ≤ 31 ∧ 0 ≤ kind ∧ kind ≤ 2) : (bits .or .u32 (bits .or .u32 (bits .or .u32 (bits .or .u32 3577217024 d) 0) 0) 20992) = GrI.word ⟨23, d, 0, 0, 0, 0⟩ := by
  have z : (bits .or .u32 3577217024 d) = 3577217024 + d := or_one 5 32 rfl (by decide) 3577217024 d (by omega) (by omega) (by omega) (by omega) (by omega)
  rw [z, or0 (3577217024 + d) (by omega) (by omega), or0 (3577217024 + d) (by omega) (by omega), ← z, or_swap 3577217024 d 20992 (by omega) (by omega) (by omega) (by omega) (by omega) (by omega)]
  have y : bits .or .u32 3577217024 20992 = 3577238016 := by
    have := bits_or_u32_nat 3577217024 20992 (by decide) (by decide)
    exact this
  rw [y, or_one 5 32 rfl (by decide) 3577238016 d (by omega) (by omega) (by omega) (by omega) (by omega)]
  simp only [GrI.word]
  simp only [Int.reduceEq, if_true, if_false, or_false, or_true, false_or, true_or, Int.reduceMod, Int.reduceDiv]
  try omega

theorem encw_23_1 (d kind : Int) (hb : 0 ≤ d ∧ d ≤ 31 ∧ 0 ≤ kind ∧ kind ≤ 2) : (bits .or .u32 (bits .or .u32 (bits .or .u32 (bits .or .u32 3577217024 d) 0) 0) 24576) = GrI.word ⟨23, d, 0, 0, 0, 1⟩ := by
  have z : (bits .or .u32 3577217024 d) = 3577217024 + d := or_one 5 32 rfl (by decide) 3577217024 d (by omega) (by omega) (by omega) (by omega) (by omega)
  rw [z, or0 (3577217024 + d) (by omega) (by omega), or0 (3577217024 + d) (by omega) (by omega), ← z, or_swap 3577217024 d 24576 (by omega) (by omega) (by omega) (by omega) (by omega) (by omega)]
  have y : bits .or .u32 3577217024 24576 = 3577241600 := by
    have := bits_or_u32_nat 3577217024 24576 (by decide) (by decide)
    exact this
  rw [y, or_one 5 32 rfl (by decide) 3577241600 d (by omega) (by omega) (by omega) (by omega) (by omega)]
  simp only [GrI.word]
  simp only [Int.reduceEq, if_true, if_false, or_false, or_true, false_or, true_or, Int.reduceMod, Int.reduceDiv]
  try omega

theorem encw_23_2 (d kind : Int) (hb : 0 ≤ d ∧ d ≤ 31 ∧ 0 ≤ kind ∧ kind ≤ 2) : (bits .or .u32 (bits .or .u32 (bits .or .u32 (bits .or .u32 3577217024 d) 0) 0) 16416) = GrI.word ⟨23, d, 0, 0, 0, 2⟩ := by
  have z : (bits .or .u32 3577217024 d) = 3577217024 + d := or_one 5 32 rfl (by decide) 3577217024 d (by omega) (by omega) (by omega) (by omega) (by omega)
  rw [z, or0 (3577217024 + d) (by omega) (by omega), or0 (3577217024 + d) (by omega) (by omega), ← z, or_swap 3577217024 d 16416 (by omega) (by omega) (by omega) (by omega) (by omega) (by omega)]
  have y : bits .or .u32 3577217024 16416 = 3577233440 := by
    have := bits_or_u32_nat 3577217024 16416 (by decide) (by decide)
    exact this
  rw [y, or_one 5 32 rfl (by decide) 3577233440 d (by omega) (by omega) (by omega) (by omega) (by omega)]
  simp only [GrI.word]
  simp only [Int.reduceEq, if_true, if_false, or_false, or_true, false_or, true_or, Int.reduceMod, Int.reduceDiv]
  try omega

end Go.Proofs.YtebpmngllljkaaaDoor
