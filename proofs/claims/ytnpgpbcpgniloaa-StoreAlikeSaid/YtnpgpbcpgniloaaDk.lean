/-
  Layer 7: the laws' walks, further.
-/
import Derived.Test.YtnpgpbcpgniloaaDl
set_option linter.unusedSimpArgs false
set_option linter.unusedVariables false
namespace Go.Proofs.Ytnpgpbcpgniloaa
open Go.RowKit

theorem decode_bd (x l : Int) (h0 : 0 ≤ x) (h1 : x < 18446744073709551616) : 0 ≤ (GrD.decode x l).out ∧ (GrD.decode x l).out < 18446744073709551616 := by
  have h := GrD.right_decode x l h0
  have k := GrD.right_out (GrD.decode x l) l h.2 h.1
  exact ⟨h.2, by omega⟩

end Go.Proofs.Ytnpgpbcpgniloaa