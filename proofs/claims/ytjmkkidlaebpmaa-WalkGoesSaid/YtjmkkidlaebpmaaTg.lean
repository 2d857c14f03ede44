/-
  Layer 9, the walks: FlushOf; the laws TlbTakes, TlbOwn.
-/
import Derived.Test.YtjmkkidlaebpmaaTf
set_option linter.unusedSimpArgs false
set_option linter.unusedVariables false
namespace Go.Proofs.Ytjmkkidlaebpmaa
open Go.RowKit

theorem get_page (x : Int) (h : 0 ≤ x) : 0 ≤ GrF.get x 43 0 ∧ GrF.get x 43 0 ≤ 17592186044415 := by
  have := GrD.get_div x 43 0 h (by omega) (by omega)
  have e : GrF.get x 43 0 = x / 1 % 17592186044416 := this
  omega
theorem get_space (x : Int) (h : 0 ≤ x) : 0 ≤ GrF.get x 63 48 ∧ GrF.get x 63 48 ≤ 65535 := by
  have := GrD.get_div x 63 48 h (by omega) (by omega)
  have e : GrF.get x 63 48 = x / 281474976710656 % 65536 := this
  omega
/-- what an instruction asks for -/
def fpage (k x : Int) : Int := if k % 4 = 1 ∨ k % 4 = 2 then GrF.get x 43 0 * 4096 else 0
def fspace (k x : Int) : Int := if k % 4 = 1 ∨ k % 4 = 3 then GrF.get x 63 48 else 0
def fl (a b c : Int) : Value := .agg #[.int .i64 a, .int .u64 b, .int .i64 c]
theorem ret_v {a b : Value} (h : a = b) : Ending.returned a = .returned b := by rw [h]
theorem fl_eq {a b c a' b' c' : Int} (h1 : a = a') (h2 : b = b') (h3 : c = c') : fl a b c = fl a' b' c' := by rw [h1, h2, h3]

theorem own_nums (s va f l r : Int) (hv0 : 0 ≤ va) (hv1 : va < 18446744073709551616) (h : GrT.fillOk f l = true) (r0 : 0 ≤ r) (r1 : r < 4096) :
    (GrT.fillE s va f l).space = s ∧ (GrT.fillE s va f l).first = f ∧ 0 ≤ (GrT.fillE s va f l).page ∧ (GrT.fillE s va f l).page + r < 18446744073709551616 ∧ GrT.covers (GrT.fillE s va f l) va = true ∧ GrT.covers (GrT.fillE s va f l) ((GrT.fillE s va f l).page + r) = true ∧ ((GrT.fillE s va f l).last = 0 ∨ (GrT.fillE s va f l).last = l) := by
  have hk := GrT.kept_level h
  rw [GrT.fillE, if_pos h]
  have d12 : GrF.down va 12 = va - va % 4096 := GrD.down_mod va 12 (by omega) hv0 hv1
  have d21 : GrF.down va 21 = va - va % 2097152 := GrD.down_mod va 21 (by omega) hv0 hv1
  by_cases c : GrT.leafL f = 1
  · rw [if_pos c]
    have sz : GrT.size f = 21 := by rw [GrT.size, if_pos (hk.1 c)]
    have e : GrF.down (GrF.down va 21 + r) 21 = GrF.down va 21 + r - (GrF.down va 21 + r) % 2097152 := GrD.down_mod _ 21 (by omega) (by omega) (by omega)
    refine ⟨rfl, rfl, by show 0 ≤ GrF.down va 21; omega, by show GrF.down va 21 + r < _; omega, ?_, ?_, .inl rfl⟩
    · simp [GrT.covers, sz]
    · simp only [GrT.covers, sz]
      rw [e]
      simp
      omega
  · rw [if_neg c]
    have sz : GrT.size f = 12 := by rw [GrT.size, if_neg (fun x => c (hk.2 x))]
    have e : GrF.down (GrF.down va 12 + r) 12 = GrF.down va 12 + r - (GrF.down va 12 + r) % 4096 := GrD.down_mod _ 12 (by omega) (by omega) (by omega)
    refine ⟨rfl, rfl, by show 0 ≤ GrF.down va 12; omega, by show GrF.down va 12 + r < _; omega, ?_, ?_, .inr rfl⟩
    · simp [GrT.covers, sz]
    · simp only [GrT.covers, sz]
      rw [e]
      simp
      omega

end Go.Proofs.Ytjmkkidlaebpmaa
