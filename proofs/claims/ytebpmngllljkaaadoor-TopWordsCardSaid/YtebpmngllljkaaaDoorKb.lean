/-
  Layer 3, the code's walks: part, guess.
  Layer 3, the code's walks: guess, by the sorts of numbers that operations have.
-/
import Derived.Test.YtebpmngllljkaaaDoorJh
import Derived.Test.YtebpmngllljkaaaDoorBr
import Derived.Test.YtebpmngllljkaaaDoorIr
import Derived.Deep.RegionWith
import Derived.Test.YtebpmngllljkaaaDoorRy
import Derived.Test.YtebpmngllljkaaaDoorBv
set_option linter.unusedSimpArgs false
set_option linter.unusedVariables false
namespace GrI
def partB (w : Int) (has : Bool) (lo : Int) : Int := if has = true then GrF.get w (lo + 4) lo else 0
end GrI
namespace Go.Proofs.YtebpmngllljkaaaDoor
open Go.RowKit

theorem get_5 (x : Int) (lo : Nat) (h : 0 ≤ x) (hl : lo ≤ 16) : 0 ≤ GrF.get x (lo + 4) lo ∧ GrF.get x (lo + 4) lo ≤ 31 := by
  obtain ⟨a, rfl⟩ := Int.eq_ofNat_of_zero_le h
  have e : GrF.get (a : Int) ((lo : Int) + 4) lo = ((a / 2 ^ lo % 2 ^ (lo + 4 + 1 - lo) : Nat) : Int) := by
    rw [GrF.get, if_pos (GrF.span_mk (by omega) (by omega) (by omega)), GrF.getN_eq]
    have : ((lo : Int) + 4).toNat = lo + 4 := by omega
    rw [this]
    simp
  rw [e, show lo + 4 + 1 - lo = 5 by omega]
  have := Nat.mod_lt (a / 2 ^ lo) (show 2 ^ 5 > 0 by decide)
  omega

set_option maxHeartbeats 1600000 in
theorem part_any (x : Int) (has : Bool) (lo : Int) (w : World) (h0 : 0 ≤ x) (h1 : x < 4294967296) (hl : lo = 0 ∨ lo = 5 ∨ lo = 16) :
    Calls Tryd.prog 56 #[.int .u32 x, .bool has, .int .i64 lo] w fun e w' => e = .returned (.int .i64 (GrI.partB x has lo)) ∧ Drew w w' := by
  have E := Lib.hid (show GrI.partB x has lo = if has = true then GrF.get x (lo + 4) lo else 0 from rfl)
  have g0 := get_5 x 0 h0 (by omega)
  have g5 := get_5 x 5 h0 (by omega)
  have g16 := get_5 x 16 h0 (by omega)
  simp at g0 g5 g16
  cases has with
  | false =>
    clear g0 g5 g16
    go_enter Tryd.func56, Tryd.ntmps56
    go_wp2
    go_ret
    exact ⟨ret_code (by rw [E.out]; simp), Drew.refl _⟩
  | true =>
    rcases hl with rfl | rfl | rfl
    all_goals
      go_enter Tryd.func56, Tryd.ntmps56
      go_wp2_with fail
      refine (get_any x _ _ _ h0 (by omega)).mono ?_
      rintro e w1 ⟨rfl, d1⟩
      go_wp2
      go_ret
      exact ⟨ret_code (by rw [E.out]; simp), d1⟩
end Go.Proofs.YtebpmngllljkaaaDoor

namespace Go.Proofs.YtebpmngllljkaaaDoor
open Go.RowKit

set_option maxHeartbeats 800000 in
theorem width_eq (wd : Int) (d n m : Bool) (i a b k ka W : Int) (w : World) (h : (i = 12 ∧ W = 12) ∨ (i = 16 ∧ W = 16) ∨ (i = -26 ∧ W = 26) ∨ (i = -19 ∧ W = 19)) :
    Calls Tryd.prog 43 #[.agg #[.int .u32 wd, .bool d, .bool n, .bool m, .int .i64 i, .int .i64 a, .int .i64 b, .int .i64 k, .int .i64 ka]] w fun e w' => e = .returned (.int .i64 W) ∧ w.alloc (.cells #[.int .u32 wd, .bool d, .bool n, .bool m, .int .i64 i, .int .i64 a, .int .i64 b, .int .i64 k, .int .i64 ka] 60) = w' := by
  rcases h with ⟨rfl, rfl⟩ | ⟨rfl, rfl⟩ | ⟨rfl, rfl⟩ | ⟨rfl, rfl⟩
  all_goals
    go_enter Tryd.func43, Tryd.ntmps43
    go_wp2
    go_ret
    exact ⟨rfl, rfl⟩
theorem ret_iv {a b : Value} (h : a = b) : Ending.returned a = .returned b := by rw [h]

end Go.Proofs.YtebpmngllljkaaaDoor
