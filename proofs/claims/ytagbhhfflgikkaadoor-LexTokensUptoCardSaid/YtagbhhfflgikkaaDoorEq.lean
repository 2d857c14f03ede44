/-
  Layer 10: the law LexChecks, walked; what the lifts use.
-/
import Derived.Test.YtagbhhfflgikkaaDoorEp
import Derived.Lay
import Derived.PinnedBridge
import Derived.Test.YtagbhhfflgikkaaDoorTie
import Derived.Test.YtagbhhfflgikkaaDoorKit
import Derived.LaidMore
import Derived.LaidLaws
import Derived.LaidHandle
import Derived.MakeChecks
import Derived.OpenShut
import Derived.Stop.Joined
import Derived.Shelf.LaysM
set_option linter.unusedSimpArgs false
set_option linter.unusedVariables false
namespace Go.Proofs
def Tryd.laysCutM_ren : Go.Shelf.Ren := ⟨fun | 145 => 20 | 220 => 29 | 219 => 45 | 217 => 55 | 225 => 56 | 224 => 57 | 267 => 58 | 266 => 62 | 314 => 63 | n => n, fun | 9 => 9 | 4 => 4 | 59 => 52 | 3 => 3 | 5 => 5 | 46 => 84 | 146 => 91 | 51 => 90 | n => n, fun | 1 => 0 | n => n⟩
theorem Tryd.laysCutM : Go.Proofs.LaysM.n145 Tryd.prog Tryd.laysCutM_ren := {
  mixed := by kernel_rfl
  f145 := Tryd.func20.trans (congrArg some (by kernel_rfl))
  f217 := Tryd.func55.trans (congrArg some (by kernel_rfl))
  f219 := Tryd.func45.trans (congrArg some (by kernel_rfl))
  f220 := Tryd.func29.trans (congrArg some (by kernel_rfl))
  f224 := Tryd.func57.trans (congrArg some (by kernel_rfl))
  f225 := Tryd.func56.trans (congrArg some (by kernel_rfl))
  f266 := Tryd.func62.trans (congrArg some (by kernel_rfl))
  f267 := Tryd.func58.trans (congrArg some (by kernel_rfl))
  f314 := Tryd.func63.trans (congrArg some (by kernel_rfl))
  t3 := Tryd.underlying3
  a3 := Tryd.isAgg3
  z3 := Tryd.sizeOf3
  v3 := Tryd.zeroValue3
  t4 := Tryd.underlying4
  a4 := Tryd.isAgg4
  z4 := Tryd.sizeOf4
  v4 := Tryd.zeroValue4
  t5 := Tryd.underlying5
  a5 := Tryd.isAgg5
  z5 := Tryd.sizeOf5
  v5 := Tryd.zeroValue5
  t9 := Tryd.underlying9
  a9 := Tryd.isAgg9
  z9 := Tryd.sizeOf9
  v9 := Tryd.zeroValue9
  t46 := Tryd.underlying84
  a46 := Tryd.isAgg84
  z46 := Tryd.sizeOf84
  v46 := Tryd.zeroValue84
  t51 := Tryd.underlying90
  a51 := Tryd.isAgg90
  z51 := Tryd.sizeOf90
  v51 := Tryd.zeroValue90
  t59 := Tryd.underlying52
  a59 := Tryd.isAgg52
  z59 := Tryd.sizeOf52
  v59 := Tryd.zeroValue52
  t146 := Tryd.underlying91
  a146 := Tryd.isAgg91
  z146 := Tryd.sizeOf91
  v146 := Tryd.zeroValue91
  g1 := by kernel_rfl
  i3 := by kernel_rfl
  i4 := by kernel_rfl
  i5 := by kernel_rfl
  i9 := by kernel_rfl
  i46 := by kernel_rfl
  i51 := by kernel_rfl
  i59 := by kernel_rfl
  i146 := by kernel_rfl
  m1 := by kernel_rfl
  s1_3 := fun w h => Go.Proofs.cell_of_shapedOpen_int (zero := #[.int .i64 0]) (t := 3) h (of_decide_eq_true (by kernel_rfl)) (by kernel_rfl) rfl (by kernel_rfl) (by kernel_rfl) Tryd.underlying3 }
end Go.Proofs
namespace Go.Proofs.YtagbhhfflgikkaaDoor
open Go.RowKit GrP GrL Go.Shelf
def laidL : List (String × DataW Unit) := [("unicode/utf8.acceptRanges", Rows.laid_unicode_utf8_acceptRanges), ("unicode/utf8.first", Rows.laid_unicode_utf8_first)]
theorem max_of_shape (W : World) (h : W.ShapedOpen Tryd.prog) : ∃ m, W.cell? ⟨0, 0, none⟩ = some (.int .i64 m) := Tryd.laysCutM.s1_3 W h
theorem string_strL (s : ByteArray) : s = strL s.data.toList := by
  cases s
  rfl

set_option maxRecDepth 100000 in
set_option maxHeartbeats 3200000 in
theorem lexChecks_walk (l : Tx) (m : Int) (w : World) (hm : w.cell? ⟨0, 0, none⟩ = some (.int .i64 m)) : Calls Tryd.prog 3 #[.string (strL l)] w fun e w' => e = .returned (.bool true) ∧ Below w.heap.size w w' := by
  have AW := Lib.hid (awake_any m w hm)
  have LC := Lib.hid (fun w => lcheck_any l w)
  have RC := Lib.hid (fun w => rcheck_any l w)
  obtain ⟨a, ha⟩ : ∃ a, a = (checkL l).1 := ⟨_, rfl⟩
  obtain ⟨b, hb⟩ : ∃ b, b = (checkL l).2 := ⟨_, rfl⟩
  rw [← ha, ← hb] at LC RC
  clear ha hb hm
  go_enter Tryd.func3, Tryd.ntmps3
  go_upto_region 3 with (go_at_call 7; refine AW.out.mono ?_; rintro e w1 ⟨rfl, d⟩; obtain ⟨x1, rfl⟩ := Wb.start d; clear d)
  go_upto_region 4 with (go_at_call 8; refine (LC.out _).mono ?_; rintro e w1 ⟨rfl, d⟩; obtain ⟨x2, rfl⟩ := Wb.next d; clear d)
  refine to_pt ?_
  intro U hU
  have r_p := (Row.new x2.at [.int .i64 (a : Int), .int .i64 (b : Int)] 25).below hU
  have c_0 := r_p.cell 0
  have c_1 := r_p.cell 1
  simp only [List.getElem?_cons_zero, List.getElem?_cons_succ] at c_0 c_1
  have KU := Lib.hid (show Below w.heap.size w U from (x2.bel.alloc x2.size _).trans (hU.mono (by have := x2.size; simp; omega)))
  clear hU r_p
  go_wp2_with (go_at_call 9; refine (RC.out _).mono ?_; rintro e w1 ⟨rfl, rfl⟩)
  go_ret
  exact ⟨rfl, KU.out⟩

theorem lexChecks_call (s : ByteArray) (w : World) (h : w.ShapedOpen Tryd.prog) : Calls Tryd.prog 3 #[.string s] w fun e w' => e = .returned (.bool true) ∧ Below w.heap.size w w' := by
  obtain ⟨m, hm⟩ := max_of_shape w h
  rw [string_strL s]
  exact lexChecks_walk _ m w hm
end Go.Proofs.YtagbhhfflgikkaaDoor
