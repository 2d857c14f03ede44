/-
  PLAIN NUMBERS for layer 2: parts that are put, and read again.
-/
import Derived.Test.YteiokenijmaloaaFm
set_option linter.unusedSimpArgs false
set_option linter.unusedVariables false
namespace GrF

theorem putN_testBit (w hi lo v i : Nat) : (putN w hi lo v).testBit i = (decide (i < 64) && putBit w v hi lo i) := num_testBit _ _ _
theorem put_nonneg {w hi lo v : Int} (hs : spanB hi lo = true) : (put w hi lo v).toNat = putN w.toNat hi.toNat lo.toNat v.toNat := by
  rw [put, if_pos hs, Int.toNat_natCast]
theorem get_put (w hi lo v : Int) (hs : spanB hi lo = true) : get (put w hi lo v) hi lo = get v (hi - lo) 0 := by
  obtain ⟨a, b, c⟩ := span_of hs
  rw [get, if_pos hs, put_nonneg hs, get, if_pos (span_mk (by omega) (by omega) (by omega))]
  refine congrArg (fun n : Nat => (n : Int)) ?_
  apply Nat.eq_of_testBit_eq
  intro i
  rw [getN, getN, num_testBit, num_testBit]
  have e1 : (hi - lo).toNat + 1 - (0 : Int).toNat = hi.toNat + 1 - lo.toNat := by omega
  have e2 : (0 : Int).toNat + i = i := by simp
  simp only [e2]
  rw [e1, putN_testBit]
  by_cases h : i < hi.toNat + 1 - lo.toNat
  · have h2 : lo.toNat + i < 64 := by omega
    rw [putBit, if_pos (by omega), Nat.add_sub_cancel_left]
    simp [h, h2]
  · simp [h]
theorem put_put (x a b c d v y : Int) (h1 : spanB a b = true) (h2 : spanB c d = true) (hd : ¬ (d ≤ a ∧ b ≤ c)) :
    put (put x a b v) c d y = put (put x c d y) a b v := by
  obtain ⟨a1, a2, a3⟩ := span_of h1
  obtain ⟨c1, c2, c3⟩ := span_of h2
  have e1 : put (put x a b v) c d y = ((putN (putN x.toNat a.toNat b.toNat v.toNat) c.toNat d.toNat y.toNat : Nat) : Int) := by
    rw [put, if_pos h2, put_nonneg h1]
  have e2 : put (put x c d y) a b v = ((putN (putN x.toNat c.toNat d.toNat y.toNat) a.toNat b.toNat v.toNat : Nat) : Int) := by
    rw [put, if_pos h1, put_nonneg h2]
  rw [e1, e2]
  refine congrArg (fun n : Nat => (n : Int)) ?_
  apply Nat.eq_of_testBit_eq
  intro i
  rw [putN_testBit, putN_testBit]
  by_cases h : i < 64
  · simp only [h, decide_true, Bool.true_and]
    unfold putBit
    rw [putN_testBit, putN_testBit]
    simp only [h, decide_true, Bool.true_and]
    unfold putBit
    by_cases p : d.toNat ≤ i ∧ i ≤ c.toNat
    · rw [if_pos p, if_neg (by omega), if_pos p]
    · rw [if_neg p, if_neg p]
  · simp [h]
theorem signed_bd (w n : Int) : -9223372036854775808 ≤ signed w n ∧ signed w n ≤ 9223372036854775807 := by
  unfold signed
  split
  · omega
  · rename_i h
    obtain ⟨h1, h2⟩ := signedN_bd w.toNat (n - 1).toNat
    have h3 : 2 ^ (n - 1).toNat ≤ 2 ^ 62 := Nat.pow_le_pow_right (by decide) (by omega)
    omega
theorem fits_own (w n : Int) (h1 : 1 ≤ n) (h2 : n ≤ 63) : fitsB (signed w n) n = true := by
  unfold fitsB signed pw
  rw [if_neg (by omega)]
  obtain ⟨h3, h4⟩ := signedN_bd w.toNat (n - 1).toNat
  rw [decide_eq_true h1, decide_eq_true h2, decide_eq_true (by omega), decide_eq_true (by omega)]
  rfl
end GrF
