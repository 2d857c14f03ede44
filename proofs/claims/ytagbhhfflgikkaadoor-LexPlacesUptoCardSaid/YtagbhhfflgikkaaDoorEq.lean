/-
  Layer 10: the law LexChecks, walked; what the lifts use.
-/
import Derived.Test.YtagbhhfflgikkaaDoorEp
import Derived.Lay
import Derived.PinnedBridge
import Derived.Test.YtagbhhfflgikkaaDoorTie
import Derived.Test.YtagbhhfflgikkaaDoorKit
import Derived.LaidMore
import Derived.LaidLaws
import Derived.LaidHandle
import Derived.MakeChecks
import Derived.OpenShut
import Derived.Stop.Joined
import Derived.Shelf.LaysM
set_option linter.unusedSimpArgs false
set_option linter.unusedVariables false
namespace Go.Proofs
shelf_lay LaysM.n145 Nm 145 at Tryd as Tryd.laysCutM
end Go.Proofs
namespace Go.Proofs.YtagbhhfflgikkaaDoor
open Go.RowKit GrP GrL Go.Shelf
def laidL : List (String × DataW Unit) := [("unicode/utf8.acceptRanges", Rows.laid_unicode_utf8_acceptRanges), ("unicode/utf8.first", Rows.laid_unicode_utf8_first)]
theorem max_of_shape (W : World) (h : W.ShapedOpen Tryd.prog) : ∃ m, W.cell? ⟨0, 0, none⟩ = some (.int .i64 m) := Tryd.laysCutM.s1_3 W h
theorem string_strL (s : ByteArray) : s = strL s.data.toList := by
  cases s
  rfl

set_option maxRecDepth 100000 in
set_option maxHeartbeats 3200000 in
theorem lexChecks_walk (l : Tx) (m : Int) (w : World) (hm : w.cell? ⟨0, 0, none⟩ = some (.int .i64 m)) : Calls Tryd.prog 3 #[.string (strL l)] w fun e w' => e = .returned (.bool true) ∧ Below w.heap.size w w' := by
  have AW := Lib.hid (awake_any m w hm)
  have LC := Lib.hid (fun w => lcheck_any l w)
  have RC := Lib.hid (fun w => rcheck_any l w)
  obtain ⟨a, ha⟩ : ∃ a, a = (checkL l).1 := ⟨_, rfl⟩
  obtain ⟨b, hb⟩ : ∃ b, b = (checkL l).2 := ⟨_, rfl⟩
  rw [← ha, ← hb] at LC RC
  clear ha hb hm
  go_enter Tryd.func3, Tryd.ntmps3
  go_upto_region 3 with (go_at_call 7; refine AW.out.mono ?_; rintro e w1 ⟨rfl, d⟩; obtain ⟨x1, rfl⟩ := Wb.start d; clear d)
  go_upto_region 4 with (go_at_call 8; refine (LC.out _).mono ?_; rintro e w1 ⟨rfl, d⟩; obtain ⟨x2, rfl⟩ := Wb.next d; clear d)
  refine to_pt ?_
  intro U hU
  have r_p := (Row.new x2.at [.int .i64 (a : Int), .int .i64 (b : Int)] 25).below hU
  have c_0 := r_p.cell 0
  have c_1 := r_p.cell 1
  simp only [List.getElem?_cons_zero, List.getElem?_cons_succ] at c_0 c_1
  have KU := Lib.hid (show Below w.heap.size w U from (x2.bel.alloc x2.size _).trans (hU.mono (by have := x2.size; simp; omega)))
  clear hU r_p
  go_wp2_with (go_at_call 9; refine (RC.out _).mono ?_; rintro e w1 ⟨rfl, rfl⟩)
  go_ret
  exact ⟨rfl, KU.out⟩

theorem lexChecks_call (s : ByteArray) (w : World) (h : w.ShapedOpen Tryd.prog) : Calls Tryd.prog 3 #[.string s] w fun e w' => e = .returned (.bool true) ∧ Below w.heap.size w w' := by
  obtain ⟨m, hm⟩ := max_of_shape w h
  rw [string_strL s]
  exact lexChecks_walk _ m w hm
end Go.Proofs.YtagbhhfflgikkaaDoor
