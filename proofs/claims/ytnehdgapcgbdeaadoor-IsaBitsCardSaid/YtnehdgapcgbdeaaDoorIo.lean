/-
  PLAIN NUMBERS for layer 3, further: fields laid beside one another.
-/
import Derived.Test.YtnehdgapcgbdeaaDoorIm
set_option linter.unusedSimpArgs false
set_option linter.unusedVariables false
namespace GrI

/-- a field laid into a gap -/
theorem or_mid (A r b k j : Nat) (hr : r < 2 ^ k) (hb : b < 2 ^ j) : (A * 2 ^ (k + j) + r) ||| (b * 2 ^ k) = A * 2 ^ (k + j) + b * 2 ^ k + r := by
  have e1 : A * 2 ^ (k + j) + b * 2 ^ k + r = 2 ^ k * (A * 2 ^ j + b) + r := by
    rw [Nat.pow_add, Nat.mul_add, ← Nat.mul_assoc, Nat.mul_comm (2 ^ k) b]
    congr 2
    rw [Nat.mul_comm A, Nat.mul_assoc, Nat.mul_comm A]
  have e2 : A * 2 ^ (k + j) + r = 2 ^ k * (A * 2 ^ j) + r := by
    congr 1
    rw [Nat.pow_add, Nat.mul_comm A, Nat.mul_assoc, Nat.mul_comm A]
  rw [e1, e2]
  apply Nat.eq_of_testBit_eq
  intro i
  rw [Nat.testBit_or, Nat.testBit_two_pow_mul_add _ hr, Nat.testBit_two_pow_mul_add _ hr, Nat.mul_comm b, Nat.testBit_two_pow_mul]
  by_cases h : i < k
  · simp [h, show ¬ k ≤ i by omega]
  · have h2 : k ≤ i := by omega
    simp only [h, if_false, h2, decide_true, Bool.true_and]
    rw [Nat.mul_comm A, Nat.testBit_two_pow_mul_add _ hb, ← Nat.zero_add (2 ^ j * A), Nat.add_comm 0]
    have := Nat.testBit_two_pow_mul_add A (Nat.two_pow_pos j) (i - k)
    rw [Nat.add_zero] at this ⊢
    rw [this]
    by_cases c : i - k < j
    · simp [c]
    · have : b.testBit (i - k) = false := Nat.testBit_lt_two_pow (Nat.lt_of_lt_of_le hb (Nat.pow_le_pow_right (by decide) (by omega)))
      simp [c, this]
end GrI
