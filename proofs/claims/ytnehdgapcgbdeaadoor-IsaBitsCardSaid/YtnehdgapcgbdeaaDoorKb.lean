/-
  Layer 3, the code's walks: guess, by the sorts of numbers that operations have.
-/
import Derived.Test.YtnehdgapcgbdeaaDoorKa
import Derived.Test.YtnehdgapcgbdeaaDoorRz
import Derived.Test.YtnehdgapcgbdeaaDoorBv
set_option linter.unusedSimpArgs false
set_option linter.unusedVariables false
namespace Go.Proofs.YtnehdgapcgbdeaaDoor
open Go.RowKit

set_option maxHeartbeats 800000 in
theorem width_eq (wd : Int) (d n m : Bool) (i a b k ka W : Int) (w : World) (h : (i = 12 ∧ W = 12) ∨ (i = 16 ∧ W = 16) ∨ (i = -26 ∧ W = 26) ∨ (i = -19 ∧ W = 19)) :
    Calls Tryd.prog 17 #[.agg #[.int .u32 wd, .bool d, .bool n, .bool m, .int .i64 i, .int .i64 a, .int .i64 b, .int .i64 k, .int .i64 ka]] w fun e w' => e = .returned (.int .i64 W) ∧ w.alloc (.cells #[.int .u32 wd, .bool d, .bool n, .bool m, .int .i64 i, .int .i64 a, .int .i64 b, .int .i64 k, .int .i64 ka] 40) = w' := by
  rcases h with ⟨rfl, rfl⟩ | ⟨rfl, rfl⟩ | ⟨rfl, rfl⟩ | ⟨rfl, rfl⟩
  all_goals
    go_enter Tryd.func17, Tryd.ntmps17
    go_wp2
    go_ret
    exact ⟨rfl, rfl⟩
theorem ret_iv {a b : Value} (h : a = b) : Ending.returned a = .returned b := by rw [h]

end Go.Proofs.YtnehdgapcgbdeaaDoor
