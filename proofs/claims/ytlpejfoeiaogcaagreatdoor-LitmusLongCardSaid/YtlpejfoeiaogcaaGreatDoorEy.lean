/-
  Layer 12: awake() in a claim's world; the law LitmusLong there.
-/
import Derived.Test.YtlpejfoeiaogcaaGreatDoorEx
import Derived.Test.YtlpejfoeiaogcaaGreatDoorR34
import Derived.Lay
import Derived.PinnedBridge
import Derived.Test.YtlpejfoeiaogcaaGreatDoorTie
import Derived.Test.YtlpejfoeiaogcaaGreatDoorKit
import Derived.LaidMore
import Derived.LaidLaws
import Derived.LaidHandle
import Derived.MakeChecks
import Derived.Stop.Joined
set_option linter.unusedSimpArgs false
set_option linter.unusedVariables false
namespace Go.Proofs.YtlpejfoeiaogcaaGreatDoor
open Go.RowKit GrP GrL GrG
abbrev laidL : List (String × DataW Unit) := [("math/bits.deBruijn32tab", Rows.laid_math_bits_deBruijn32tab), ("math/bits.deBruijn64tab", Rows.laid_math_bits_deBruijn64tab), ("internal/strconv.uint64pow10", Rows.laid_internal_strconv_uint64pow10), ("unicode/utf8.acceptRanges", Rows.laid_unicode_utf8_acceptRanges), ("granule/isa.shapes", Rows.laid_granule_isa_shapes), ("granule/asm.names", Rows.laid_granule_asm_names), ("granule/asm.conds", Rows.laid_granule_asm_conds), ("granule/asm.barriers", Rows.laid_granule_asm_barriers), ("granule/asm.flushes", Rows.laid_granule_asm_flushes), ("granule/asm.systems", Rows.laid_granule_asm_systems), ("unicode/utf8.first", Rows.laid_unicode_utf8_first)]
theorem lits_at {W : World} (hL : laidMetH Tryz.prog laidL W) (hsh : W.ShapedOpen Tryz.prog) : ∀ p ∈ GrG.lits, RowAt W p.1 p.2 := by
  rw [MakeChecks.laidMetH_plain _ _ _ (by kernel_rfl)] at hL
  obtain ⟨ps, hL, _⟩ := hL
  intro p hp
  simp only [GrG.lits, List.mem_cons, List.not_mem_nil, or_false] at hp
  rcases hp with rfl | rfl | rfl | rfl | rfl | rfl | rfl | rfl | rfl | rfl
  · exact rowAt_laid (n := "math/bits.deBruijn32tab") (t := (Tryz.prog.globals[10]?.map (·.type)).getD 0) (d := Rows.laid_math_bits_deBruijn32tab) hL hsh (by simp) (by kernel_rfl) (by kernel_rfl) (of_decide_eq_true (by kernel_rfl)) (by kernel_rfl) (by kernel_rfl) (by kernel_rfl)
  · exact rowAt_laid (n := "math/bits.deBruijn64tab") (t := (Tryz.prog.globals[11]?.map (·.type)).getD 0) (d := Rows.laid_math_bits_deBruijn64tab) hL hsh (by simp) (by kernel_rfl) (by kernel_rfl) (of_decide_eq_true (by kernel_rfl)) (by kernel_rfl) (by kernel_rfl) (by kernel_rfl)
  · exact rowAt_laid (n := "internal/strconv.uint64pow10") (t := (Tryz.prog.globals[9]?.map (·.type)).getD 0) (d := Rows.laid_internal_strconv_uint64pow10) hL hsh (by simp) (by kernel_rfl) (by kernel_rfl) (of_decide_eq_true (by kernel_rfl)) (by kernel_rfl) (by kernel_rfl) (by kernel_rfl)
  · exact rowAt_laid (n := "unicode/utf8.acceptRanges") (t := (Tryz.prog.globals[7]?.map (·.type)).getD 0) (d := Rows.laid_unicode_utf8_acceptRanges) hL hsh (by simp) (by kernel_rfl) (by kernel_rfl) (of_decide_eq_true (by kernel_rfl)) (by kernel_rfl) (by kernel_rfl) (by kernel_rfl)
  · exact rowAt_laid (n := "granule/isa.shapes") (t := (Tryz.prog.globals[8]?.map (·.type)).getD 0) (d := Rows.laid_granule_isa_shapes) hL hsh (by simp) (by kernel_rfl) (by kernel_rfl) (of_decide_eq_true (by kernel_rfl)) (by kernel_rfl) (by kernel_rfl) (by kernel_rfl)
  · exact rowAt_laid (n := "granule/asm.names") (t := (Tryz.prog.globals[5]?.map (·.type)).getD 0) (d := Rows.laid_granule_asm_names) hL hsh (by simp) (by kernel_rfl) (by kernel_rfl) (of_decide_eq_true (by kernel_rfl)) (by kernel_rfl) (by kernel_rfl) (by kernel_rfl)
  · exact rowAt_laid (n := "granule/asm.conds") (t := (Tryz.prog.globals[1]?.map (·.type)).getD 0) (d := Rows.laid_granule_asm_conds) hL hsh (by simp) (by kernel_rfl) (by kernel_rfl) (of_decide_eq_true (by kernel_rfl)) (by kernel_rfl) (by kernel_rfl) (by kernel_rfl)
  · exact rowAt_laid (n := "granule/asm.barriers") (t := (Tryz.prog.globals[2]?.map (·.type)).getD 0) (d := Rows.laid_granule_asm_barriers) hL hsh (by simp) (by kernel_rfl) (by kernel_rfl) (of_decide_eq_true (by kernel_rfl)) (by kernel_rfl) (by kernel_rfl) (by kernel_rfl)
  · exact rowAt_laid (n := "granule/asm.flushes") (t := (Tryz.prog.globals[3]?.map (·.type)).getD 0) (d := Rows.laid_granule_asm_flushes) hL hsh (by simp) (by kernel_rfl) (by kernel_rfl) (of_decide_eq_true (by kernel_rfl)) (by kernel_rfl) (by kernel_rfl) (by kernel_rfl)
  · exact rowAt_laid (n := "granule/asm.systems") (t := (Tryz.prog.globals[4]?.map (·.type)).getD 0) (d := Rows.laid_granule_asm_systems) hL hsh (by simp) (by kernel_rfl) (by kernel_rfl) (of_decide_eq_true (by kernel_rfl)) (by kernel_rfl) (by kernel_rfl) (by kernel_rfl)
theorem awake_in {W : World} (hL : laidMetH Tryz.prog laidL W) (hsh : W.ShapedOpen Tryz.prog) : Calls Tryz.prog 4 #[] W fun e W' => e = .returned (.bool true) ∧ Below W.heap.size W W' := by
  obtain ⟨cs, hb⟩ := shaped_block (g := 0) (t := 3) hsh (of_decide_eq_true (by kernel_rfl)) (by kernel_rfl)
  obtain ⟨m, hm⟩ := cell_of_shapedOpen_int (zero := #[.int .i64 0]) (t := 3) (g := 0) hsh (of_decide_eq_true (by kernel_rfl)) (by kernel_rfl) rfl (by kernel_rfl) (by kernel_rfl) Tryz.underlying3
  refine GrG.awake_any (lits_at hL hsh) hb (m := m) ?_
  rw [cell_of_row W 0 0 cs _ (0, 0) hb] at hm
  exact hm
theorem litmusLong_call (s : ByteArray) (W : World) (hL : laidMetH Tryz.prog laidL W) (hsh : W.ShapedOpen Tryz.prog) : Calls Tryz.prog 3 #[.string s] W fun e w' => e = .returned (.bool true) ∧ Below W.heap.size W w' := by
  have : s = strL s.data.toList := by
    cases s
    rfl
  rw [this]
  exact litmusLong_walk _ W (awake_in hL hsh)
end Go.Proofs.YtlpejfoeiaogcaaGreatDoor
