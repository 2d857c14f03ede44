/-
  Layer 10, the walks: Check, the code's and the page's.
-/
import Derived.Test.YtgpngjgilcbigaaDoorEc
set_option linter.unusedSimpArgs false
set_option linter.unusedVariables false
namespace GrL
open Go GrP
def okN (n : Nat) : Bool := decide (n = 10) || blankN n || (decide (32 ≤ n) && decide (n ≤ 126))
theorem ok_nat (c : UInt8) : okB c = okN c.toNat := by
  unfold okB
  rw [beq_nat c 10, blank_nat]
  rfl
theorem ok_cases (n : Nat) : (n = 10 ∧ okN n = true) ∨ ((n ≠ 10 ∧ blankN n = true) ∧ okN n = true) ∨ ((n ≠ 10 ∧ blankN n = false ∧ n < 32) ∧ okN n = false) ∨ ((n ≠ 10 ∧ blankN n = false ∧ 32 ≤ n ∧ n ≤ 126) ∧ okN n = true) ∨ ((n ≠ 10 ∧ blankN n = false ∧ 32 ≤ n ∧ 126 < n) ∧ okN n = false) := by
  by_cases a : n = 10
  · exact .inl ⟨a, by simp [okN, a]⟩
  · cases b : blankN n with
    | true => exact .inr (.inl ⟨⟨a, rfl⟩, by simp [okN, b]⟩)
    | false =>
      by_cases c : n < 32
      · exact .inr (.inr (.inl ⟨⟨a, rfl, c⟩, by simp [okN, a, b]; omega⟩))
      · by_cases d : n ≤ 126
        · exact .inr (.inr (.inr (.inl ⟨⟨a, rfl, by omega, d⟩, by simp [okN, d]; omega⟩)))
        · exact .inr (.inr (.inr (.inr ⟨⟨a, rfl, by omega, by omega⟩, by simp [okN, a, b, d]⟩)))
theorem bad_is {l : Tx} {i : Nat} (hi : i ≤ l.length) (h1 : ∀ j (h : j < l.length), j < i → okB l[j] = true) (h2 : ∀ h : i < l.length, okB l[i] = false) : bad l = i := tw_at hi h1 h2
end GrL
namespace Go.Proofs.YtgpngjgilcbigaaDoor
open Go.RowKit GrP GrL

end Go.Proofs.YtgpngjgilcbigaaDoor