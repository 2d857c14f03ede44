/-
  PLAIN NUMBERS for layer 2's texts: digits and the word that they write. No program in sight.
-/
set_option linter.unusedSimpArgs false
set_option linter.unusedVariables false
namespace GrP

def low (n : Nat) : Nat := n % 18446744073709551616
def high (n : Nat) : Nat := n / 18446744073709551616
theorem low_lt (n : Nat) : low n < 18446744073709551616 := Nat.mod_lt _ (by decide)

/-- a byte's worth -/
def digit (c : Nat) : Nat := if 48 ≤ c ∧ c ≤ 57 then c - 48 else if 97 ≤ c ∧ c ≤ 102 then c - 87 else if 65 ≤ c ∧ c ≤ 70 then c - 55 else 99
theorem digit_le (c : Nat) : digit c ≤ 99 := by
  unfold digit
  split
  · omega
  · split
    · omega
    · split <;> omega
def val (base : Nat) (l : List UInt8) : Nat := l.foldl (fun a c => a * base + digit c.toNat) 0
def bad (base : Nat) (l : List UInt8) : Bool := l.any fun c => decide (base ≤ digit c.toNat)
theorem val_snoc (base : Nat) (l : List UInt8) (c : UInt8) : val base (l ++ [c]) = val base l * base + digit c.toNat := by
  simp [val]
theorem bad_snoc (base : Nat) (l : List UInt8) (c : UInt8) : bad base (l ++ [c]) = (bad base l || decide (base ≤ digit c.toNat)) := by
  simp [bad]
/-- what the digits l come to: the word, and the error's number -/
def body (base : Nat) (l : List UInt8) : Nat × Nat :=
  if l = [] then (0, 20) else if bad base l = true then (0, 20) else if 18446744073709551616 ≤ val base l then (0, 21) else (val base l, 0)
def hexB (s : ByteArray) : Bool := decide (2 ≤ s.size) && ((s.extract 0 2).toList == [48, 120])
/-- what a text comes to -/
def parse (s : ByteArray) : Nat × Nat := if hexB s = true then body 16 (s.extract 2 s.size).data.toList else body 10 s.data.toList

/-- one round of the code's loop: what is kept is the number's low word, and whether it was ever too big -/
theorem step_big (v base d : Nat) (hb : 1 ≤ base) (big : Bool) (hbig : big = decide (18446744073709551616 ≤ v)) :
    (big || decide (0 < high (low v * base)) || decide (0 < high (low (low v * base) + d))) = decide (18446744073709551616 ≤ v * base + d) := by
  subst hbig
  unfold high low
  by_cases h : 18446744073709551616 ≤ v
  · have h1 : v * 1 ≤ v * base := Nat.mul_le_mul_left _ hb
    have h2 : 18446744073709551616 ≤ v * base + d := by omega
    simp [h, h2]
  · rw [decide_eq_false h, Nat.mod_eq_of_lt (by omega)]
    generalize v * base = p
    rw [Bool.eq_iff_iff]
    simp only [Bool.false_or, Bool.or_eq_true, decide_eq_true_eq]
    omega
theorem step_low (v base d : Nat) : low (low (low v * base) + d) = low (v * base + d) := by
  unfold low
  rw [Nat.add_mod, Nat.mod_mod, ← Nat.add_mod, Nat.add_mod, Nat.mod_mul_mod, ← Nat.add_mod]

theorem take_snoc (s : ByteArray) (k : Nat) (h : k < s.size) : s.data.toList.take (k + 1) = s.data.toList.take k ++ [s[k]] := by
  rw [List.take_succ_eq_append_getElem (by simpa using h)]; rfl
end GrP
