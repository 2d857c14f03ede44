/-
  PLAIN NUMBERS for layer 7, further: a descriptor's word is read as that descriptor.
-/
import Derived.Test.YteiokenijmaloaaDm
set_option linter.unusedSimpArgs false
set_option linter.unusedVariables false
namespace GrD
open GrF

theorem D.ext {a b : D} (h1 : a.valid = b.valid) (h2 : a.table = b.table) (h3 : a.out = b.out) (h4 : a.used = b.used) (h5 : a.ro = b.ro) (h6 : a.user = b.user) (h7 : a.own = b.own) : a = b := by
  cases a; cases b; simp_all

theorem eq_zero_of {d : D} (h : isZero d = true) : d = zero := by
  cases d with
  | mk v t o u r s w =>
    simp [isZero] at h
    simp [zero, h]

theorem down_mod (x : Int) (n : Nat) (hn : n ≤ 62) (h0 : 0 ≤ x) (h1 : x < 18446744073709551616) : down x n = x - x % (2 ^ n : Nat) := by
  obtain ⟨a, rfl⟩ := Int.eq_ofNat_of_zero_le h0
  have e : downN a n = a / 2 ^ n * 2 ^ n := by
    apply Nat.eq_of_testBit_eq
    intro i
    rw [downN, num_testBit, Nat.mul_comm, Nat.testBit_two_pow_mul]
    rw [Int.toNat_natCast]
    by_cases c : i < n
    · have c2 : ¬ n ≤ i := by omega
      simp [c, c2]
    · have c2 : n ≤ i := by omega
      rw [Nat.testBit_div_two_pow, Nat.sub_add_cancel c2]
      by_cases d : i < 64
      · simp [c, c2, d]
      · simp [d, tb64 (show a < 18446744073709551616 by omega) (show 64 ≤ i by omega)]
  rw [down, Int.toNat_natCast, e]
  have e2 := Nat.div_add_mod a (2 ^ n)
  rw [Nat.mul_comm] at e2
  have e3 : ((a / 2 ^ n * 2 ^ n : Nat) : Int) = (a : Int) - ((a % 2 ^ n : Nat) : Int) := by omega
  rw [e3]; simp
theorem aligned_mod (x : Int) (n : Nat) (hn : n ≤ 62) (h0 : 0 ≤ x) (h1 : x < 18446744073709551616) : alignedB x n = (x % (2 ^ n : Nat) == 0) := by
  rw [alignedB, down_mod x n hn h0 h1, Bool.eq_iff_iff]
  simp only [beq_iff_eq]
  omega

/-- the parts of a word that is out of small parts -/
theorem bit_0 (w : Int) (h : 0 ≤ w) : bitB w 0 = (w % 2 == 1) := by rw [show (0 : Int) = ((0 : Nat) : Int) from rfl, bit_div w 0 h (by omega)]; simp
theorem bit_1 (w : Int) (h : 0 ≤ w) : bitB w 1 = (w / 2 % 2 == 1) := by rw [show (1 : Int) = ((1 : Nat) : Int) from rfl, bit_div w 1 h (by omega)]; rfl
theorem bit_6 (w : Int) (h : 0 ≤ w) : bitB w 6 = (w / 64 % 2 == 1) := by rw [show (6 : Int) = ((6 : Nat) : Int) from rfl, bit_div w 6 h (by omega)]; rfl
theorem bit_7 (w : Int) (h : 0 ≤ w) : bitB w 7 = (w / 128 % 2 == 1) := by rw [show (7 : Int) = ((7 : Nat) : Int) from rfl, bit_div w 7 h (by omega)]; rfl
theorem bit_10 (w : Int) (h : 0 ≤ w) : bitB w 10 = (w / 1024 % 2 == 1) := by rw [show (10 : Int) = ((10 : Nat) : Int) from rfl, bit_div w 10 h (by omega)]; rfl
theorem bit_11 (w : Int) (h : 0 ≤ w) : bitB w 11 = (w / 2048 % 2 == 1) := by rw [show (11 : Int) = ((11 : Nat) : Int) from rfl, bit_div w 11 h (by omega)]; rfl
theorem get_47 (w : Int) (h : 0 ≤ w) : get w 47 32 = w / 4294967296 % 65536 := by
  have := get_div w 47 32 h (by omega) (by omega)
  exact this
theorem get_31_12 (w : Int) (h : 0 ≤ w) : get w 31 12 = w / 4096 % 1048576 := get_div w 31 12 h (by omega) (by omega)
theorem get_31_21 (w : Int) (h : 0 ≤ w) : get w 31 21 = w / 2097152 % 2048 := get_div w 31 21 h (by omega) (by omega)

theorem word_nonneg (d : D) (l : Int) (h : 0 ≤ d.out) : 0 ≤ word d l := by
  unfold word
  have := b1_bd (d.table || decide (l = 2))
  have := b1_bd d.user
  have := b1_bd d.ro
  have := b1_bd d.used
  have := b1_bd d.own
  split <;> omega

theorem beq_b1 (c : Bool) : (b1 c == 1) = c := by cases c <;> rfl

theorem decode_zero (l : Int) : decode 0 l = zero := by
  rw [decode, if_neg]
  rw [goodB, bit_0 0 (by omega)]
  simp

/-- EACH DESCRIPTOR IS READ FROM ITS OWN WORD. -/
theorem decode_word (d : D) (l : Int) (h0 : 0 ≤ d.out) (hr : rightB d l = true) : decode (word d l) l = d := by
  by_cases hv : d.valid = true
  · obtain ⟨v, t, o, u, r, s, w⟩ := d
    simp only at hv h0
    subst hv
    have p1 := b1_bd (t || decide (l = 2))
    have p2 := b1_bd s
    have p3 := b1_bd r
    have p4 := b1_bd u
    have p5 := b1_bd w
    simp only [rightB, if_true, Bool.and_eq_true, Bool.or_eq_true, decide_eq_true_eq] at hr
    obtain ⟨⟨hl, ho⟩, hx⟩ := hr
    have ho12 : o % 4096 = 0 := by
      revert hx
      cases t with
      | true => simp
      | false =>
        simp only [Bool.false_eq_true, if_false]
        split
        · simp; omega
        · simp
    obtain ⟨W, hW⟩ : ∃ W, W = word ⟨true, t, o, u, r, s, w⟩ l := ⟨_, rfl⟩
    have eW : W = o + 1 + 2 * b1 (t || decide (l = 2)) + 64 * b1 s + 128 * b1 r + 1024 * b1 u + 2048 * b1 w := by rw [hW, word, if_pos rfl]
    rw [← hW]
    have hW0 : 0 ≤ W := by omega
    have e0 : bitB W 0 = true := by rw [bit_0 W hW0]; simp; omega
    have e1 : bitB W 1 = (t || decide (l = 2)) := by rw [bit_1 W hW0, ← beq_b1 (t || decide (l = 2))]; congr 1; omega
    have e6 : bitB W 6 = s := by rw [bit_6 W hW0, ← beq_b1 s]; congr 1; omega
    have e7 : bitB W 7 = r := by rw [bit_7 W hW0, ← beq_b1 r]; congr 1; omega
    have e10 : bitB W 10 = u := by rw [bit_10 W hW0, ← beq_b1 u]; congr 1; omega
    have e11 : bitB W 11 = w := by rw [bit_11 W hW0, ← beq_b1 w]; congr 1; omega
    have e47 : get W 47 32 = 0 := by rw [get_47 W hW0]; omega
    have e12 : get W 31 12 * 4096 = o := by rw [get_31_12 W hW0]; omega
    have e21 : o % 2097152 = 0 → get W 31 21 * 2097152 = o := by rw [get_31_21 W hW0]; omega
    have hlv : levelB W l = true := by
      rw [levelB, e1]
      rcases hl with rfl | rfl <;> simp
    have hg : goodB W l = true := by rw [goodB, e0, e47, hlv]; rfl
    rw [decode, if_pos hg]
    by_cases ht : tableB W l = true
    · rw [if_pos ht]
      rw [tableB, e1] at ht
      simp only [Bool.and_eq_true, decide_eq_true_eq] at ht
      obtain ⟨rfl, ht2⟩ := ht
      have ht3 : t = true := by simpa using ht2
      subst ht3
      simp [marks] at hx
      obtain ⟨⟨⟨⟨a1, a2⟩, a3⟩, a4⟩, _⟩ := hx
      apply D.ext <;> simp_all
    · rw [if_neg ht]
      rw [tableB, e1] at ht
      rcases hl with rfl | rfl
      · have ht3 : t = false := by simpa using ht
        subst ht3
        simp at hx
        rw [if_pos rfl]
        apply D.ext <;> simp_all
      · have ht3 : t = false := by
          cases t with
          | false => rfl
          | true => simp at hx
        subst ht3
        rw [if_neg (by decide)]
        apply D.ext <;> simp_all
  · have hz : d = zero := by
      apply eq_zero_of
      rw [rightB, if_neg hv] at hr
      exact hr
    subst hz
    rw [word, if_neg (by decide)]
    exact decode_zero l

/-- what a word is read as may be -/
theorem right_decode (w l : Int) (h : 0 ≤ w) : rightB (decode w l) l = true ∧ 0 ≤ (decode w l).out := by
  unfold decode
  by_cases hg : goodB w l = true
  · rw [if_pos hg]
    have hl : l = 1 ∨ l = 2 := by
      simp [goodB, levelB] at hg
      omega
    by_cases ht : tableB w l = true
    · rw [if_pos ht]
      have hl1 : l = 1 := by simp [tableB] at ht; exact ht.1
      subst hl1
      have e := get_31_12 w h
      refine ⟨?_, by simp only; omega⟩
      simp [rightB, marks]
      omega
    · rw [if_neg ht]
      have e := get_31_12 w h
      have e2 := get_31_21 w h
      rcases hl with rfl | rfl
      · refine ⟨?_, by simp; omega⟩
        simp [rightB]
        omega
      · refine ⟨?_, by simp; omega⟩
        simp [rightB]
        omega
  · rw [if_neg hg]
    exact ⟨rfl, Int.le_refl _⟩
end GrD
