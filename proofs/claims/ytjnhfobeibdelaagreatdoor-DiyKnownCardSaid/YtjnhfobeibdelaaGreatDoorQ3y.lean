/-
  granulelaw24.DiyKnown in a claim's world.
-/
import Derived.Test.YtjnhfobeibdelaaGreatDoorQ3z
import Derived.Test.YtjnhfobeibdelaaGreatDoorR34
import Derived.Lay
import Derived.PinnedBridge
import Derived.Test.YtjnhfobeibdelaaGreatDoorTie
import Derived.Test.YtjnhfobeibdelaaGreatDoorKit
import Derived.LaidMore
import Derived.LaidLaws
import Derived.LaidHandle
import Derived.MakeChecks
import Derived.Stop.Joined
set_option linter.unusedSimpArgs false
set_option linter.unusedVariables false
namespace Go.Proofs.YtjnhfobeibdelaaGreatDoor
open Go.RowKit GrG
abbrev laidL : List (String × DataW Unit) := [("math/bits.deBruijn32tab", Rows.laid_math_bits_deBruijn32tab), ("math/bits.deBruijn64tab", Rows.laid_math_bits_deBruijn64tab), ("internal/strconv.uint64pow10", Rows.laid_internal_strconv_uint64pow10), ("unicode.White_Space", Rows.laid_unicode_White_Space), ("strings.asciiSpace", Rows.laid_strings_asciiSpace), ("granule/diy.names", Rows.laid_granule_diy_names)]
theorem lits_at {W : World} (hL : laidMetH Tryz.prog laidL W) (hsh : W.ShapedOpen Tryz.prog) : ∀ p ∈ GrG.lits, RowAt W p.1 p.2 := by
  rw [MakeChecks.laidMetH_plain _ _ _ (by kernel_rfl)] at hL
  obtain ⟨ps, hL, _⟩ := hL
  intro p hp
  simp only [GrG.lits, List.mem_cons, List.not_mem_nil, or_false] at hp
  rcases hp with rfl | rfl | rfl | rfl | rfl
  · exact rowAt_laid (n := "math/bits.deBruijn32tab") (t := (Tryz.prog.globals[5]?.map (·.type)).getD 0) (d := Rows.laid_math_bits_deBruijn32tab) hL hsh (by simp) (by kernel_rfl) (by kernel_rfl) (of_decide_eq_true (by kernel_rfl)) (by kernel_rfl) (by kernel_rfl) (by kernel_rfl)
  · exact rowAt_laid (n := "math/bits.deBruijn64tab") (t := (Tryz.prog.globals[6]?.map (·.type)).getD 0) (d := Rows.laid_math_bits_deBruijn64tab) hL hsh (by simp) (by kernel_rfl) (by kernel_rfl) (of_decide_eq_true (by kernel_rfl)) (by kernel_rfl) (by kernel_rfl) (by kernel_rfl)
  · exact rowAt_laid (n := "internal/strconv.uint64pow10") (t := (Tryz.prog.globals[4]?.map (·.type)).getD 0) (d := Rows.laid_internal_strconv_uint64pow10) hL hsh (by simp) (by kernel_rfl) (by kernel_rfl) (of_decide_eq_true (by kernel_rfl)) (by kernel_rfl) (by kernel_rfl) (by kernel_rfl)
  · exact rowAt_laid (n := "strings.asciiSpace") (t := (Tryz.prog.globals[0]?.map (·.type)).getD 0) (d := Rows.laid_strings_asciiSpace) hL hsh (by simp) (by kernel_rfl) (by kernel_rfl) (of_decide_eq_true (by kernel_rfl)) (by kernel_rfl) (by kernel_rfl) (by kernel_rfl)
  · exact rowAt_laid (n := "granule/diy.names") (t := (Tryz.prog.globals[1]?.map (·.type)).getD 0) (d := Rows.laid_granule_diy_names) hL hsh (by simp) (by kernel_rfl) (by kernel_rfl) (of_decide_eq_true (by kernel_rfl)) (by kernel_rfl) (by kernel_rfl) (by kernel_rfl)
theorem diyKnown_call (s : ByteArray) (W : World) (hL : laidMetH Tryz.prog laidL W) (hsh : W.ShapedOpen Tryz.prog) : Calls Tryz.prog 5 #[.string s] W fun e w' => e = .returned (.bool true) ∧ Below W.heap.size W w' :=
  GrG.diyKnown_any (lits_at hL hsh) s
end Go.Proofs.YtjnhfobeibdelaaGreatDoor
