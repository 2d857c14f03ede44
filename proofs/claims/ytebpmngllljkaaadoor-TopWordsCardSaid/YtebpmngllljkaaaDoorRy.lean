/-
  Layer 3: an instruction as a value, and in a box.
-/
import Derived.Test.YtebpmngllljkaaaDoorProg
import Derived.Test.YtebpmngllljkaaaDoorIm
import Derived.Test.YtebpmngllljkaaaDoorBr
set_option linter.unusedSimpArgs false
set_option linter.unusedVariables false
namespace Go.Proofs.YtebpmngllljkaaaDoor
open Go.RowKit

theorem ret_b {a b : Bool} (h : a = b) : Ending.returned (.bool a) = .returned (.bool b) := by rw [h]
/-- an instruction as a value -/
def iv (x : GrI.I) : Value := .agg #[.int .i64 x.op, .int .i64 x.d, .int .i64 x.n, .int .i64 x.m, .int .i64 x.imm, .int .i64 x.kind]
/-- .. in a box -/
def ibox (x : GrI.I) : Obj := .cells #[.int .i64 x.op, .int .i64 x.d, .int .i64 x.n, .int .i64 x.m, .int .i64 x.imm, .int .i64 x.kind] 23
end Go.Proofs.YtebpmngllljkaaaDoor
