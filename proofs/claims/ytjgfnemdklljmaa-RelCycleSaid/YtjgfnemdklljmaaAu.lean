/-
  Layer 1, the laws over rows of pairs that came in.
-/
import Derived.Test.YtjgfnemdklljmaaAe
import Derived.Test.YtjgfnemdklljmaaKit
import Derived.Test.YtjgfnemdklljmaaKs
set_option linter.unusedSimpArgs false
set_option linter.unusedVariables false
namespace Go.Proofs.Ytjgfnemdklljmaa
open Go.ChangeShapes Go.WideShapes Go.ChangeAt Go.RowKit GrR

section
variable {H : Type} {enc : TypeId × Value → H} {w : World} {base : Nat} {spare : Nat → Bool} {held : Bool}
theorem open_pairR {R : List Value} {m : Nat} {y : DataW H × List MemPlace} (hf : DataW.trod enc Try.prog w base spare held m 37 R = some y) : ∃ p : Pr, R = [.int .i64 p.1, .int .i64 p.2] := by
  obtain ⟨zs, hz, rfl, _⟩ := cells_arr_int Try.underlying37 Try.underlying3 (by kernel_rfl) (by kernel_rfl) hf
  obtain ⟨a, b, rfl⟩ := arr2 zs hz
  exact ⟨(a, b), rfl⟩
end
theorem SlP_rows {v : Value} {n : Nat} {R : Nat → List Value} {w : World} (s : SlAt w v 2 n ((List.range n).flatMap R)) (g : ∀ i, i < n → ∃ p : Pr, R i = [.int .i64 p.1, .int .i64 p.2]) : ∃ P, SlP w v P := by
  obtain ⟨KX, hKX⟩ := Go.Deep.choose_lt (α := Pr) g
  refine ⟨(List.range n).map KX, ?_⟩
  have e : pairC ((List.range n).map KX) = (List.range n).flatMap R := by
    unfold pairC
    rw [List.flatMap_map]
    exact Go.Deep.flatMap_congr_range fun i hi => (hKX i hi).symm
  unfold SlP
  rw [e, List.length_map, List.length_range]
  exact s
end Go.Proofs.Ytjgfnemdklljmaa
