/-
  Layer 7, the walks: Decode whole; Page, Table; the page's examples.
-/
import Derived.Test.YteiokenijmaloaaDp
import Derived.Test.YteiokenijmaloaaDb
set_option linter.unusedSimpArgs false
set_option linter.unusedVariables false
namespace Go.Proofs.Yteiokenijmaloaa
open Go.RowKit

theorem decode_any (x l : Int) (w : World) (h0 : 0 ≤ x) (h1 : x < 18446744073709551616) :
    Calls Try.prog 49 #[.int .u64 x, .int .i64 l] w fun e w' => e = .returned (dv (GrD.decode x l)) ∧ Below w.heap.size w w' := by
  by_cases b0 : GrF.bitB x 0 = true
  · by_cases b47 : GrF.get x 47 32 = 0
    · have c47 : (GrF.get x 47 32 != 0) = false := by simp [b47]
      by_cases l1 : l = 1
      · subst l1
        have hg : GrD.goodB x 1 = true := by simp [GrD.goodB, b0, b47, GrD.levelB]
        by_cases b1 : GrF.bitB x 1 = true
        · have ht : GrD.tableB x 1 = true := by simp [GrD.tableB, b1]
          rw [GrD.decode, if_pos hg, if_pos ht]
          exact decode_table x w h0 h1 b0 c47 b1
        · have b1' : GrF.bitB x 1 = false := by simpa using b1
          have ht : ¬ GrD.tableB x 1 = true := by simp [GrD.tableB, b1']
          rw [GrD.decode, if_pos hg, if_neg ht, if_pos rfl]
          exact decode_block x w h0 h1 b0 c47 b1'
      · by_cases l2 : l = 2
        · subst l2
          by_cases b1 : GrF.bitB x 1 = true
          · have hg : GrD.goodB x 2 = true := by simp [GrD.goodB, b0, b47, GrD.levelB, b1]
            have ht : ¬ GrD.tableB x 2 = true := by simp [GrD.tableB]
            rw [GrD.decode, if_pos hg, if_neg ht, if_neg (by decide)]
            exact decode_page x w h0 h1 b0 c47 b1
          · have b1' : GrF.bitB x 1 = false := by simpa using b1
            have hg : ¬ GrD.goodB x 2 = true := by simp [GrD.goodB, GrD.levelB, b1']
            rw [GrD.decode, if_neg hg]
            exact decode_no2 x 2 w h0 h1 b0 c47 l1 (fun _ => b1')
        · have hg : ¬ GrD.goodB x l = true := by simp [GrD.goodB, GrD.levelB, l1, l2]
          rw [GrD.decode, if_neg hg]
          exact decode_no2 x l w h0 h1 b0 c47 l1 (fun h => absurd h l2)
    · have c47 : (GrF.get x 47 32 != 0) = true := by simp [b47]
      have hg : ¬ GrD.goodB x l = true := by simp [GrD.goodB, b47]
      rw [GrD.decode, if_neg hg]
      exact decode_no1 x l w h0 h1 b0 c47
  · have b0' : GrF.bitB x 0 = false := by simpa using b0
    have hg : ¬ GrD.goodB x l = true := by simp [GrD.goodB, b0']
    rw [GrD.decode, if_neg hg]
    exact decode_no0 x l w h0 h1 b0'

theorem decode_a : GrD.decode 1073742851 2 = ⟨true, false, 1073741824, true, false, false, false⟩ := by
  simp only [GrD.decode, GrD.goodB, GrD.tableB, GrD.levelB, GrD.bit_0 1073742851 (by omega), GrD.bit_1 1073742851 (by omega), GrD.bit_6 1073742851 (by omega), GrD.bit_7 1073742851 (by omega), GrD.bit_10 1073742851 (by omega), GrD.bit_11 1073742851 (by omega), GrD.get_47 1073742851 (by omega), GrD.get_31_12 1073742851 (by omega)]
  rfl
theorem decode_b : GrD.decode 12288 1 = GrD.zero := by
  simp only [GrD.decode, GrD.goodB, GrD.bit_0 12288 (by omega)]
  rfl
theorem decode_c : GrD.decode 12291 1 = ⟨true, true, 12288, false, false, false, false⟩ := by
  simp only [GrD.decode, GrD.goodB, GrD.tableB, GrD.levelB, GrD.bit_0 12291 (by omega), GrD.bit_1 12291 (by omega), GrD.get_47 12291 (by omega), GrD.get_31_12 12291 (by omega)]
  rfl

theorem bstep {w w1 w2 : World} (h : Below w.heap.size w w1) (k : Below w1.heap.size w1 w2) : Below w.heap.size w w2 := h.trans (k.mono h.size)

theorem field0 (v t : Bool) (o : Int) (u r s q : Bool) (w : World) : (Instr.field 66 (.agg #[.bool v, .bool t, .int .u64 o, .bool u, .bool r, .bool s, .bool q]) 0).run Try.prog w = .ok (.bool v) w := by kernel_rfl

end Go.Proofs.Yteiokenijmaloaa