/-
  PLAIN NUMBERS for layer 2's texts: digits and the word that they write. No program in sight.
  PLAIN NUMBERS for layer 2's texts of words: digits in a base, and that they are read again. No program in sight.
-/
import Derived.Lib.ItoaNum
import Derived.Lib.Strings
set_option linter.unusedSimpArgs false
set_option linter.unusedVariables false
namespace GrP

def low (n : Nat) : Nat := n % 18446744073709551616
def high (n : Nat) : Nat := n / 18446744073709551616
theorem low_lt (n : Nat) : low n < 18446744073709551616 := Nat.mod_lt _ (by decide)

/-- a byte's worth -/
def digit (c : Nat) : Nat := if 48 ≤ c ∧ c ≤ 57 then c - 48 else if 97 ≤ c ∧ c ≤ 102 then c - 87 else if 65 ≤ c ∧ c ≤ 70 then c - 55 else 99
theorem digit_le (c : Nat) : digit c ≤ 99 := by
  unfold digit
  split
  · omega
  · split
    · omega
    · split <;> omega
def val (base : Nat) (l : List UInt8) : Nat := l.foldl (fun a c => a * base + digit c.toNat) 0
def bad (base : Nat) (l : List UInt8) : Bool := l.any fun c => decide (base ≤ digit c.toNat)
theorem val_snoc (base : Nat) (l : List UInt8) (c : UInt8) : val base (l ++ [c]) = val base l * base + digit c.toNat := by
  simp [val]
theorem bad_snoc (base : Nat) (l : List UInt8) (c : UInt8) : bad base (l ++ [c]) = (bad base l || decide (base ≤ digit c.toNat)) := by
  simp [bad]
/-- what the digits l come to: the word, and the error's number -/
def body (base : Nat) (l : List UInt8) : Nat × Nat :=
  if l = [] then (0, 20) else if bad base l = true then (0, 20) else if 18446744073709551616 ≤ val base l then (0, 21) else (val base l, 0)
def hexB (s : ByteArray) : Bool := decide (2 ≤ s.size) && ((s.extract 0 2).toList == [48, 120])
/-- what a text comes to -/
def parse (s : ByteArray) : Nat × Nat := if hexB s = true then body 16 (s.extract 2 s.size).data.toList else body 10 s.data.toList

/-- one round of the code's loop: what is kept is the number's low word, and whether it was ever too big -/
theorem step_big (v base d : Nat) (hb : 1 ≤ base) (big : Bool) (hbig : big = decide (18446744073709551616 ≤ v)) :
    (big || decide (0 < high (low v * base)) || decide (0 < high (low (low v * base) + d))) = decide (18446744073709551616 ≤ v * base + d) := by
  subst hbig
  unfold high low
  by_cases h : 18446744073709551616 ≤ v
  · have h1 : v * 1 ≤ v * base := Nat.mul_le_mul_left _ hb
    have h2 : 18446744073709551616 ≤ v * base + d := by omega
    simp [h, h2]
  · rw [decide_eq_false h, Nat.mod_eq_of_lt (by omega)]
    generalize v * base = p
    rw [Bool.eq_iff_iff]
    simp only [Bool.false_or, Bool.or_eq_true, decide_eq_true_eq]
    omega
theorem step_low (v base d : Nat) : low (low (low v * base) + d) = low (v * base + d) := by
  unfold low
  rw [Nat.add_mod, Nat.mod_mod, ← Nat.add_mod, Nat.add_mod, Nat.mod_mul_mod, ← Nat.add_mod]

theorem take_snoc (s : ByteArray) (k : Nat) (h : k < s.size) : s.data.toList.take (k + 1) = s.data.toList.take k ++ [s[k]] := by
  rw [List.take_succ_eq_append_getElem (by simpa using h)]; rfl
end GrP

namespace GrP
def dgc (d : Nat) : UInt8 := if d < 10 then UInt8.ofNat (48 + d) else UInt8.ofNat (87 + d)
def digs (b u : Nat) : List UInt8 := if h : u < b ∨ b < 2 then [dgc u] else digs b (u / b) ++ [dgc (u % b)]
termination_by u
decreasing_by exact Nat.div_lt_self (by omega) (by omega)
theorem digs_small {b u : Nat} (h : u < b) : digs b u = [dgc u] := by rw [digs, dif_pos (.inl h)]
theorem digs_big {b u : Nat} (h : ¬ u < b) (hb : 2 ≤ b) : digs b u = digs b (u / b) ++ [dgc (u % b)] := by
  rw [digs, dif_neg (by omega)]
theorem dgc_digit : ∀ d : Fin 16, digit (dgc d.val).toNat = d.val := by decide +kernel
theorem dgc_dig {d : Nat} (h : d < 16) : digit (dgc d).toNat = d := dgc_digit ⟨d, h⟩
theorem dgc_dec : ∀ d : Fin 10, dgc d.val = UInt8.ofNat (48 + d.val) ∧ (dgc d.val) ≠ 120 := by decide +kernel
theorem digs_ne (b u : Nat) : digs b u ≠ [] := by
  rw [digs]
  split <;> simp
theorem digs_val {b : Nat} (h2 : 2 ≤ b) (h16 : b ≤ 16) (u : Nat) : val b (digs b u) = u ∧ bad b (digs b u) = false := by
  induction u using Nat.strongRecOn with
  | _ u ih =>
    by_cases h : u < b
    · rw [digs_small h]
      have := dgc_dig (show u < 16 by omega)
      simp [val, bad, this, h]
    · obtain ⟨i1, i2⟩ := ih (u / b) (Nat.div_lt_self (by omega) (by omega))
      have hm : u % b < b := Nat.mod_lt _ (by omega)
      have := dgc_dig (show u % b < 16 by omega)
      rw [digs_big h h2, val_snoc, bad_snoc, i1, i2, this]
      refine ⟨Nat.div_add_mod' u b, by simp [hm]⟩
theorem digs_body {b : Nat} (h2 : 2 ≤ b) (h16 : b ≤ 16) (u : Nat) (hu : u < 18446744073709551616) : body b (digs b u) = (u, 0) := by
  obtain ⟨h3, h4⟩ := digs_val h2 h16 u
  unfold body
  rw [if_neg (digs_ne b u), h4, h3]
  simp; omega
theorem digs_dec (u : Nat) : digs 10 u = Go.Lib.decDigits u := by
  induction u using Nat.strongRecOn with
  | _ u ih =>
    by_cases h : u < 10
    · rw [digs_small h, Go.Lib.decDigits, dif_pos h]
      rw [(dgc_dec ⟨u, h⟩).1]
    · rw [digs_big h (by omega), Go.Lib.decDigits, dif_neg h, ih (u / 10) (by omega)]
      have := (dgc_dec ⟨u % 10, by omega⟩).1
      simp only at this
      rw [this]
theorem digs_dec_no (u : Nat) : ∀ c ∈ digs 10 u, c ≠ 120 := by
  induction u using Nat.strongRecOn with
  | _ u ih =>
    by_cases h : u < 10
    · rw [digs_small h]
      intro c hc
      simp at hc
      subst hc
      exact (dgc_dec ⟨u, h⟩).2
    · rw [digs_big h (by omega)]
      intro c hc
      rw [List.mem_append, List.mem_singleton] at hc
      rcases hc with hc | rfl
      · exact ih (u / 10) (by omega) c hc
      · exact (dgc_dec ⟨u % 10, by omega⟩).2
def strL (l : List UInt8) : ByteArray := ⟨l.toArray⟩
def hexS (u : Nat) : ByteArray := strL (48 :: 120 :: digs 16 u)
def decS (u : Nat) : ByteArray := strL (digs 10 u)
theorem strL_toList (l : List UInt8) : (strL l).toList = l := by
  rw [Go.Lib.toList_data]
  rfl
theorem strL_size (l : List UInt8) : (strL l).size = l.length := by simp [strL, ByteArray.size]
theorem strL_data (l : List UInt8) : (strL l).data.toList = l := rfl
theorem parse_hex (u : Nat) (hu : u < 18446744073709551616) : parse (hexS u) = (u, 0) := by
  have h1 : hexB (hexS u) = true := by
    unfold hexB hexS
    rw [strL_size, Go.Lib.toList_data, Go.Lib.extract_data, strL_data]
    simp
  unfold parse
  rw [if_pos h1]
  unfold hexS
  rw [Go.Lib.extract_data, strL_data, strL_size]
  have : ((48 :: 120 :: digs 16 u).drop 2).take ((48 :: 120 :: digs 16 u).length - 2) = digs 16 u := by
    simp
  rw [this]
  exact digs_body (by omega) (by omega) u hu
theorem parse_dec (u : Nat) (hu : u < 18446744073709551616) : parse (decS u) = (u, 0) := by
  have h1 : ¬ hexB (decS u) = true := by
    unfold hexB decS
    rw [strL_size, Go.Lib.toList_data, Go.Lib.extract_data, strL_data]
    simp only [Bool.and_eq_true, beq_iff_eq, List.drop_zero, Nat.sub_zero, not_and]
    intro _ e
    have : (120 : UInt8) ∈ (digs 10 u).take 2 := by rw [e]; simp
    exact digs_dec_no u 120 (List.mem_of_mem_take this) rfl
  unfold parse
  rw [if_neg h1]
  exact digs_body (by omega) (by omega) u hu
theorem digs_len {b : Nat} (h2 : 2 ≤ b) : ∀ (k u : Nat), u < b ^ (k + 1) → (digs b u).length ≤ k + 1
  | 0, u, h => by
    rw [digs_small (by simpa using h)]
    simp
  | k + 1, u, h => by
    by_cases c : u < b
    · rw [digs_small c]; simp
    · rw [digs_big c h2, List.length_append, List.length_singleton]
      have := digs_len h2 k (u / b) (Nat.div_lt_of_lt_mul (by rw [Nat.pow_succ] at h; rw [Nat.mul_comm]; exact h))
      omega
theorem digs_len64 {b : Nat} (h2 : 2 ≤ b) (u : Nat) (hu : u < 18446744073709551616) : (strL (digs b u)).size ≤ 64 := by
  rw [strL_size]
  refine digs_len h2 63 u (Nat.lt_of_lt_of_le hu ?_)
  exact Nat.pow_le_pow_left h2 64
end GrP
