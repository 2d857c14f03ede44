/-
  LitmusLong's program, as the machine takes it.
-/
import Derived.Test.YtlpejfoeiaogcaaGreatDoorR30
set_option linter.unusedSimpArgs false
set_option linter.unusedVariables false
namespace GrG
open Go Go.RowKit Go.Proofs
theorem theE_ok : EnvOk Tryz.prog theE := envOf_ok (by kernel_rfl) fun p hp => by
  simp only [List.mem_cons, List.not_mem_nil, or_false] at hp
  rcases hp with rfl | rfl | rfl
  · exact xok_indexByte (fn := Tryz.f109) (by kernel_rfl) (by kernel_rfl) (by kernel_rfl) (by kernel_rfl) (by kernel_rfl)
  · exact xok_index (fn := Tryz.f80) (by kernel_rfl) (by kernel_rfl) (by kernel_rfl) (by kernel_rfl) (by kernel_rfl) (by decide) (by kernel_rfl)
  · exact xok_add64 (fn := Tryz.f108) (by kernel_rfl) (by kernel_rfl) (by kernel_rfl) (by kernel_rfl) (by kernel_rfl)
theorem isTrue_eq {x : Option AV} (h : isTrue x = true) : x = some (.bool true) := by
  unfold isTrue at h
  split at h
  · next b => rw [h]
  · cases h
/-- awake() is true in any world that memory speaks of, and leaves what was there as it was -/
theorem awake_of {W : World} {σ : Sg} {F : Fm} {x : AV} (hx : isTrue (answer theE 100000 4 [] (theM x)) = true) (hs : ∀ hi, (theM x).next ≤ hi → Is W theE.ng (cxTop theE.ng) (theM x) hi ⟨σ, F, W⟩) :
    Calls Tryz.prog 4 #[] W fun e W' => e = .returned (.bool true) ∧ Below W.heap.size W W' :=
  (answer_ok theE_ok (isTrue_eq hx) hs .nil).mono fun e W' ⟨q, σ', h1, _, h2, h3⟩ => ⟨by
    cases h2
    exact h1, h3⟩
end GrG
