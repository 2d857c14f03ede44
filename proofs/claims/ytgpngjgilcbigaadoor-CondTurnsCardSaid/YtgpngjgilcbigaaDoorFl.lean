/-
  Layer 2: the page's examples (awake), walked.
-/
import Derived.Test.YtgpngjgilcbigaaDoorPr
set_option linter.unusedSimpArgs false
set_option linter.unusedVariables false
namespace Go.Proofs.YtgpngjgilcbigaaDoor
open Go.RowKit

theorem awake_parse : GrP.parse ⟨#[48, 120, 49, 70]⟩ = (31, 0) := by decide +kernel
theorem awake_get : GrF.get 43981 11 4 = 188 := by decide +kernel
theorem awake_signed : GrF.signed 255 8 = -1 := by decide +kernel

/-- what 'Below' says step by step -/
theorem Drew.then {w w1 w2 : World} (h : Drew w w1) (k : Below w1.heap.size w1 w2) : Below w.heap.size w w2 := by
  obtain ⟨m, rfl⟩ := h
  exact ⟨k.os, k.tape, k.output, k.size, k.block⟩
theorem bstep {w w1 w2 : World} (h : Below w.heap.size w w1) (k : Below w1.heap.size w1 w2) : Below w.heap.size w w2 := h.trans (k.mono h.size)

theorem slots_down {w w1 w2 w3 w5 w6 : World} (d1 : Drew w w1) (d2 : Below w1.heap.size w1 w2) (d3 : Drew w2 w3) (d5 : Drew w3 w5) (d6 : Drew w5 w6) : Below w.heap.size w w6 :=
  bstep (bstep (bstep (bstep (d1.below _) d2) (d3.below _)) (d5.below _)) (d6.below _)

end Go.Proofs.YtgpngjgilcbigaaDoor
