/-
  PLAIN NUMBERS for layer 7, further: what the code's own ways come to.
-/
import Derived.Test.YteiokenijmaloaaDn
set_option linter.unusedSimpArgs false
set_option linter.unusedVariables false
namespace GrD
open GrF

/-- the code's 'marked' -/
def marked (w : Int) (n : Nat) (c : Bool) : Int := if c = true then put w n n 1 else w
theorem marked_eq (w : Int) (n : Nat) (c : Bool) (hn : n ≤ 63) (h0 : 0 ≤ w) (h1 : w < 18446744073709551616) (hb : w / (2 ^ n : Nat) % 2 = 0) : marked w n c = w + (2 ^ n : Nat) * b1 c := by
  cases c with
  | true => rw [marked, if_pos rfl, put_bit w n hn h0 h1 hb]; simp [b1]
  | false => simp [marked, b1]
/-- the code's word, bit by bit -/
def coded (d : D) (l : Int) : Int :=
  marked (marked (marked (marked (marked (marked d.out 0 d.valid) 1 (d.valid && (d.table || decide (l = 2)))) 6 d.user) 7 d.ro) 10 d.used) 11 d.own
theorem right_out (d : D) (l : Int) (h0 : 0 ≤ d.out) (hr : rightB d l = true) : d.out % 4096 = 0 ∧ d.out < 4294967296 := by
  by_cases hv : d.valid = true
  · rw [rightB, if_pos hv] at hr
    simp only [Bool.and_eq_true, decide_eq_true_eq] at hr
    obtain ⟨⟨_, h2⟩, h3⟩ := hr
    refine ⟨?_, h2⟩
    revert h3
    split
    · simp only [Bool.and_eq_true, beq_iff_eq]; omega
    · split
      · simp only [beq_iff_eq]; omega
      · simp only [beq_iff_eq]; omega
  · rw [rightB, if_neg hv] at hr
    rw [eq_zero_of hr]
    exact ⟨rfl, by decide⟩
theorem coded_eq (d : D) (l : Int) (h0 : 0 ≤ d.out) (hr : rightB d l = true) : coded d l = word d l := by
  obtain ⟨h1, h2⟩ := right_out d l h0 hr
  have p0 := b1_bd d.valid
  have p1 := b1_bd (d.valid && (d.table || decide (l = 2)))
  have p2 := b1_bd d.user
  have p3 := b1_bd d.ro
  have p4 := b1_bd d.used
  have p5 := b1_bd d.own
  have e0 := marked_eq d.out 0 d.valid (by omega) h0 (by omega) (by simp; omega)
  have e1 := marked_eq (d.out + b1 d.valid) 1 (d.valid && (d.table || decide (l = 2))) (by omega) (by omega) (by omega) (by simp; omega)
  have e2 := marked_eq (d.out + b1 d.valid + 2 * b1 (d.valid && (d.table || decide (l = 2)))) 6 d.user (by omega) (by omega) (by omega) (by simp; omega)
  have e3 := marked_eq (d.out + b1 d.valid + 2 * b1 (d.valid && (d.table || decide (l = 2))) + 64 * b1 d.user) 7 d.ro (by omega) (by omega) (by omega) (by simp; omega)
  have e4 := marked_eq (d.out + b1 d.valid + 2 * b1 (d.valid && (d.table || decide (l = 2))) + 64 * b1 d.user + 128 * b1 d.ro) 10 d.used (by omega) (by omega) (by omega) (by simp; omega)
  have e5 := marked_eq (d.out + b1 d.valid + 2 * b1 (d.valid && (d.table || decide (l = 2))) + 64 * b1 d.user + 128 * b1 d.ro + 1024 * b1 d.used) 11 d.own (by omega) (by omega) (by omega) (by simp; omega)
  simp at e0 e1 e2 e3 e4 e5
  have ec : coded d l = d.out + b1 d.valid + 2 * b1 (d.valid && (d.table || decide (l = 2))) + 64 * b1 d.user + 128 * b1 d.ro + 1024 * b1 d.used + 2048 * b1 d.own := by
    rw [coded, e0, e1, e2, e3, e4, e5]
  rw [ec]
  by_cases hv : d.valid = true
  · rw [word, if_pos hv, hv, Bool.true_and]
    simp [b1]
  · rw [rightB, if_neg hv] at hr
    rw [eq_zero_of hr]
    rfl
/-- each step's word is one -/
theorem marked_bd (w : Int) (n : Nat) (c : Bool) (h0 : 0 ≤ w) (h1 : w < 18446744073709551616) : 0 ≤ marked w n c ∧ marked w n c < 18446744073709551616 := by
  unfold marked
  split
  · exact put_bd w n n 1 h0 h1
  · exact ⟨h0, h1⟩

/-- the code's check, by its cases -/
def checkB (d : D) (l : Int) : Bool :=
  if isZero d = true then true
  else if d.valid = false ∨ (l ≠ 1 ∧ l ≠ 2) then false
  else if d.table = true ∧ (l ≠ 1 ∨ marks d = true) then false
  else if 4294967296 ≤ d.out ∨ alignedB d.out (low d.table l) = false then false
  else true
theorem check_eq (d : D) (l : Int) (h0 : 0 ≤ d.out) (h1 : d.out < 18446744073709551616) : checkB d l = rightB d l := by
  have a12 := aligned_mod d.out 12 (by omega) h0 h1
  have a21 := aligned_mod d.out 21 (by omega) h0 h1
  unfold checkB
  by_cases hz : isZero d = true
  · rw [if_pos hz]
    have := eq_zero_of hz
    subst this
    rfl
  · rw [if_neg hz]
    by_cases hv : d.valid = true
    · rw [rightB, if_pos hv]
      by_cases hl : l = 1
      · subst hl
        rw [if_neg (by simp [hv])]
        by_cases ht : d.table = true
        · by_cases hm : marks d = true
          · rw [if_pos ⟨ht, .inr hm⟩]
            simp [ht, hm]
          · rw [if_neg (by simp [hm])]
            have hlow : low d.table 1 = 12 := by simp [low, ht]
            rw [hlow]
            have a12' : alignedB d.out 12 = (d.out % 4096 == 0) := a12
            rw [a12']
            by_cases ho : 4294967296 ≤ d.out
            · have : ¬ d.out < 4294967296 := by omega
              simp [ho, this]
            · have : d.out < 4294967296 := by omega
              by_cases hmod : d.out % 4096 = 0
              · simp [ho, this, ht, hm, hmod]
              · simp [ho, ht, hmod]
        · have ht' : d.table = false := by simpa using ht
          rw [if_neg (by simp [ht'])]
          have hlow : low d.table 1 = 21 := by simp [low, ht']
          rw [hlow]
          have a21' : alignedB d.out 21 = (d.out % 2097152 == 0) := a21
          rw [a21']
          by_cases ho : 4294967296 ≤ d.out
          · have : ¬ d.out < 4294967296 := by omega
            simp [ho, this]
          · have : d.out < 4294967296 := by omega
            by_cases hmod : d.out % 2097152 = 0
            · simp [ho, this, ht', hmod]
            · simp [ho, ht', hmod]
      · by_cases hl2 : l = 2
        · subst hl2
          rw [if_neg (by simp [hv])]
          by_cases ht : d.table = true
          · rw [if_pos ⟨ht, .inl (by decide)⟩]
            simp [ht]
          · have ht' : d.table = false := by simpa using ht
            rw [if_neg (by simp [ht'])]
            have hlow : low d.table 2 = 12 := by simp [low]
            rw [hlow]
            have a12' : alignedB d.out 12 = (d.out % 4096 == 0) := a12
            rw [a12']
            by_cases ho : 4294967296 ≤ d.out
            · have : ¬ d.out < 4294967296 := by omega
              simp [ho, this]
            · have : d.out < 4294967296 := by omega
              by_cases hmod : d.out % 4096 = 0
              · simp [ho, this, ht', hmod]
              · simp [ho, ht', hmod]
        · rw [if_pos (.inr ⟨hl, hl2⟩)]
          simp [hl, hl2]
    · have hv' : d.valid = false := by simpa using hv
      rw [if_pos (.inl hv'), rightB, if_neg hv]
      simpa using hz
/-- the error's number of a check -/
def err (c : Bool) : Int := if c = true then 0 else 70
theorem err_t : err true = 0 := rfl
theorem err_f : err false = 70 := rfl
end GrD
