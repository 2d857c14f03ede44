/-
  granulelaw24.DiyKnown, cut into calls that are known: it is true of any name.
-/
import Derived.Test.YtjnhfobeibdelaaGreatDoorQ2z
import Derived.Test.YtjnhfobeibdelaaGreatDoorQ3a
import Derived.Test.YtjnhfobeibdelaaGreatDoorQ3b
import Derived.Test.YtjnhfobeibdelaaGreatDoorQ3c
import Derived.Test.YtjnhfobeibdelaaGreatDoorQ3d
set_option linter.unusedSimpArgs false
set_option linter.unusedVariables false
namespace GrG
open Go Go.RowKit Go.Proofs
theorem envKOk : EnvOk Tryz.prog envK := EnvOk.more theE_ok (l := []) fun p hp => by cases hp
theorem okK0 : EntOk Tryz.prog theE.ng 25062 entK0 := entOk_of envKOk runK0
theorem okK1 : EntOk Tryz.prog theE.ng 25866 entK1 := entOk_of envKOk runK1
theorem okK2 : EntOk Tryz.prog theE.ng 26678 entK2 := entOk_of envKOk runK2
theorem okK3 : EntOk Tryz.prog theE.ng 27474 entK3 := entOk_of envKOk runK3
theorem okK4 : EntOk Tryz.prog theE.ng 28286 entK4 := entOk_of envKOk runK4
theorem okK5 : EntOk Tryz.prog theE.ng 29106 entK5 := entOk_of envKOk runK5
theorem okK6 : EntOk Tryz.prog theE.ng 29934 entK6 := entOk_of envKOk runK6
theorem okK7 : EntOk Tryz.prog theE.ng 30964 entK7 := entOk_of envKOk runK7
theorem envKTopOk : EnvOk Tryz.prog envKTop := EnvOk.more theE_ok fun p hp => by
  simp only [List.mem_cons, List.not_mem_nil, or_false] at hp
  rcases hp with rfl | rfl | rfl | rfl | rfl | rfl | rfl | rfl | rfl | rfl
  · exact ok25
  · exact ok49
  · exact okK0
  · exact okK1
  · exact okK2
  · exact okK3
  · exact okK4
  · exact okK5
  · exact okK6
  · exact okK7
theorem known_of {W : World} (hT : ∀ p ∈ lits, RowAt W p.1 p.2) {x : AV} {s : ByteArray} (ha : isTrue (answer envKTop 100000 5 [x] theM) = true) (hx : ∀ σ, VRel σ x (.string s)) :
    Calls Tryz.prog 5 #[.string s] W fun e W' => e = .returned (.bool true) ∧ Below W.heap.size W W' := by
  obtain ⟨σ, h⟩ := is_rows (G := 8) (R := rowsM) (W := W) (fun p hp => by
    have : lits.all (fun p => decide (p.1 < 8)) = true := by decide
    exact of_decide_eq_true (List.all_eq_true.1 this p hp)) (fun p hp => hT p hp)
  exact (answer_ok envKTopOk (isTrue_eq ha) (fun hi hh => h hi hh) (.cons (hx σ) .nil)).mono fun e W' ⟨q, σ', h1, _, h2, h3⟩ => ⟨by
    cases h2
    exact h1, h3⟩
theorem diyKnown_any {W : World} (hT : ∀ p ∈ lits, RowAt W p.1 p.2) (s : ByteArray) :
    Calls Tryz.prog 5 #[.string s] W fun e W' => e = .returned (.bool true) ∧ Below W.heap.size W W' := by
  by_cases hs : ∀ t ∈ kNames, (s.toList == (sB t).toList) = false
  · exact known_of hT topK8 fun σ => .ns hs
  · simp only [Classical.not_forall, Bool.not_eq_false] at hs
    obtain ⟨t, ht, e⟩ := hs
    have e1 : s = sB t := by
      have h1 : s.toList = (sB t).toList := by simpa using e
      rw [ByteArray.toList_eq, ByteArray.toList_eq] at h1
      exact WideShapes.bytes_inj h1
    subst e1
    simp only [kNames, List.mem_cons, List.not_mem_nil, or_false] at ht
    rcases ht with rfl | rfl | rfl | rfl | rfl | rfl | rfl | rfl
    · exact known_of hT topK0 fun σ => .str _ (by decide)
    · exact known_of hT topK1 fun σ => .str _ (by decide)
    · exact known_of hT topK2 fun σ => .str _ (by decide)
    · exact known_of hT topK3 fun σ => .str _ (by decide)
    · exact known_of hT topK4 fun σ => .str _ (by decide)
    · exact known_of hT topK5 fun σ => .str _ (by decide)
    · exact known_of hT topK6 fun σ => .str _ (by decide)
    · exact known_of hT topK7 fun σ => .str _ (by decide)
end GrG
