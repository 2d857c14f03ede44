/-
  PLAIN NUMBERS for layer 7: descriptors. No program in sight.
-/
import Derived.Test.YteiokenijmaloaaFn
set_option linter.unusedSimpArgs false
set_option linter.unusedVariables false
namespace GrD
open GrF

structure D where
  valid : Bool
  table : Bool
  out : Int
  used : Bool
  ro : Bool
  user : Bool
  own : Bool

def zero : D := ⟨false, false, 0, false, false, false, false⟩
def b1 (c : Bool) : Int := if c then 1 else 0
theorem b1_bd (c : Bool) : 0 ≤ b1 c ∧ b1 c ≤ 1 := by cases c <;> decide

/-- a part by division -/
theorem get_div (w : Int) (hi lo : Nat) (h : 0 ≤ w) (h1 : lo ≤ hi) (h2 : hi ≤ 63) : get w hi lo = w / (2 ^ lo : Nat) % (2 ^ (hi + 1 - lo) : Nat) := by
  obtain ⟨x, rfl⟩ := Int.eq_ofNat_of_zero_le h
  rw [GrF.get, if_pos (span_mk (by omega) (by omega) (by omega)), getN_eq]
  simp
theorem bit_div (w : Int) (n : Nat) (h : 0 ≤ w) (h2 : n ≤ 63) : bitB w n = (w / (2 ^ n : Nat) % 2 == 1) := by
  rw [bitB, get_div w n n h (Nat.le_refl _) h2, show n + 1 - n = 1 by omega]
  rfl

def levelB (w l : Int) : Bool := decide (l = 1) || (decide (l = 2) && bitB w 1)
/-- may a word be a descriptor at all? -/
def goodB (w l : Int) : Bool := bitB w 0 && (get w 47 32 == 0) && levelB w l
def tableB (w l : Int) : Bool := decide (l = 1) && bitB w 1
def decode (w l : Int) : D :=
  if goodB w l = true then
    if tableB w l = true then ⟨true, true, get w 31 12 * 4096, false, false, false, false⟩
    else ⟨true, false, (if l = 1 then get w 31 21 * 2097152 else get w 31 12 * 4096), bitB w 10, bitB w 7, bitB w 6, bitB w 11⟩
  else zero

/-! ### which may be, and their words -/
def isZero (d : D) : Bool := !d.valid && !d.table && (d.out == 0) && !d.used && !d.ro && !d.user && !d.own
def marks (d : D) : Bool := d.used || d.ro || d.user || d.own
/-- how many low bits of an address stay as they are -/
def low (table : Bool) (l : Int) : Int := if l = 1 ∧ table = false then 21 else 12
/-- may a descriptor be at a level? (the page's own words) -/
def rightB (d : D) (l : Int) : Bool :=
  if d.valid = true then
    (decide (l = 1) || decide (l = 2)) && decide (d.out < 4294967296) &&
      (if d.table = true then decide (l = 1) && !(marks d) && (d.out % 4096 == 0)
       else if l = 1 then d.out % 2097152 == 0 else d.out % 4096 == 0)
  else isZero d
def word (d : D) (l : Int) : Int :=
  if d.valid = true then d.out + 1 + 2 * b1 (d.table || decide (l = 2)) + 64 * b1 d.user + 128 * b1 d.ro + 1024 * b1 d.used + 2048 * b1 d.own
  else 0
def address (d : D) (l va : Int) : Int :=
  if l = 1 ∧ d.table = false then d.out - d.out % 2097152 + va % 2097152 else d.out - d.out % 4096 + va % 4096
def allowed (d : D) (w : Bool) : Int := if d.valid = false then 3 else if d.used = false then 4 else if w = true ∧ d.ro = true then 5 else 0

theorem put_low (x v : Int) (k : Nat) (hk : k ≤ 62) (h0 : 0 ≤ x) (h1 : x < 18446744073709551616) (h2 : 0 ≤ v) : put x k 0 v = x - x % (2 ^ (k + 1) : Nat) + v % (2 ^ (k + 1) : Nat) := by
  obtain ⟨a, rfl⟩ := Int.eq_ofNat_of_zero_le h0
  obtain ⟨b, rfl⟩ := Int.eq_ofNat_of_zero_le h2
  rw [put, if_pos (span_mk (by omega) (by omega) (by omega))]
  have e : putN a k 0 b = a / 2 ^ (k + 1) * 2 ^ (k + 1) + b % 2 ^ (k + 1) := by
    apply Nat.eq_of_testBit_eq
    intro i
    rw [putN_testBit, Nat.mul_comm, Nat.testBit_two_pow_mul_add _ (Nat.mod_lt _ (Nat.two_pow_pos _))]
    unfold putBit
    by_cases c : i < 64
    · by_cases d : i ≤ k
      · have d2 : i < k + 1 := by omega
        rw [if_pos ⟨Nat.zero_le _, d⟩, if_pos d2, Nat.testBit_mod_two_pow]
        simp [c, d2]
      · have d2 : ¬ i < k + 1 := by omega
        rw [if_neg (by omega), if_neg d2, Nat.testBit_div_two_pow, Nat.sub_add_cancel (by omega)]
        simp [c]
    · have d2 : ¬ i < k + 1 := by omega
      rw [if_neg d2, Nat.testBit_div_two_pow, Nat.sub_add_cancel (by omega), tb64 (show a < 18446744073709551616 by omega) (show 64 ≤ i by omega)]
      simp [c]
  have e2 := Nat.div_add_mod a (2 ^ (k + 1))
  rw [Nat.mul_comm] at e2
  simp only [Int.toNat_natCast, Int.toNat_zero]
  rw [e]
  have e3 : ((a / 2 ^ (k + 1) * 2 ^ (k + 1) : Nat) : Int) = (a : Int) - ((a % 2 ^ (k + 1) : Nat) : Int) := by omega
  rw [Int.natCast_add, e3]
  simp
/-- a bit that isn't set is added: no other one turns -/
theorem add_bit (a n i : Nat) (hb : a.testBit n = false) (c : i ≠ n) : (a + 2 ^ n).testBit i = a.testBit i := by
  by_cases h : i < n
  · rw [Nat.add_comm, Nat.testBit_two_pow_add_gt h]
  · obtain ⟨j, rfl⟩ : ∃ j, i = j + (n + 1) := ⟨i - (n + 1), by omega⟩
    rw [← Nat.testBit_div_two_pow, ← Nat.testBit_div_two_pow]
    congr 1
    have e : a % 2 ^ (n + 1) < 2 ^ n := by
      rw [Nat.testBit_eq_decide_div_mod_eq] at hb
      have h1 : a / 2 ^ n % 2 = 0 := by
        have := Nat.mod_lt (a / 2 ^ n) (show 2 > 0 by decide)
        simp at hb; omega
      have h2 : a % 2 ^ (n + 1) = a % 2 ^ n + 2 ^ n * (a / 2 ^ n % 2) := by rw [Nat.pow_succ, Nat.mod_mul]
      rw [h2, h1]
      have := Nat.mod_lt a (Nat.two_pow_pos n)
      omega
    have hp : 2 ^ (n + 1) = 2 ^ n + 2 ^ n := by rw [Nat.pow_succ]; omega
    have hd := Nat.div_add_mod a (2 ^ (n + 1))
    have hpos := Nat.two_pow_pos (n + 1)
    apply Nat.div_eq_of_lt_le
    · rw [Nat.mul_comm]; omega
    · rw [Nat.mul_comm, Nat.mul_add]
      omega
/-- a bit more -/
theorem put_bit (x : Int) (n : Nat) (hn : n ≤ 63) (h0 : 0 ≤ x) (h1 : x < 18446744073709551616) (hb : x / (2 ^ n : Nat) % 2 = 0) : put x n n 1 = x + (2 ^ n : Nat) := by
  obtain ⟨a, rfl⟩ := Int.eq_ofNat_of_zero_le h0
  rw [put, if_pos (span_mk (by omega) (Int.le_refl _) (by omega))]
  have hb' : a.testBit n = false := by
    rw [Nat.testBit_eq_decide_div_mod_eq]
    have : a / 2 ^ n % 2 = 0 := by exact_mod_cast hb
    simp [this]
  have e : putN a n n 1 = a + 2 ^ n := by
    apply Nat.eq_of_testBit_eq
    intro i
    rw [putN_testBit]
    unfold putBit
    by_cases c : i = n
    · subst c
      rw [if_pos ⟨Nat.le_refl _, Nat.le_refl _⟩, Nat.sub_self, Nat.add_comm, Nat.testBit_two_pow_add_eq, hb']
      have : i < 64 := by omega
      simp [this]
    · rw [if_neg (by omega)]
      have key : (a + 2 ^ n).testBit i = a.testBit i := add_bit a n i hb' c
      rw [key]
      by_cases d : i < 64
      · simp [d]
      · simp [d, tb64 (show a < 18446744073709551616 by omega) (show 64 ≤ i by omega)]
  simp only [Int.toNat_natCast]
  rw [show (1 : Int).toNat = 1 from rfl, e]
  simp

end GrD
