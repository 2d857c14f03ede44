/-
  Layer 1, the walks: two rows of bits, word by word.
-/
import Derived.Test.YtjgfnemdklljmaaAb
import Derived.Test.YtjgfnemdklljmaaBt
set_option linter.unusedSimpArgs false
set_option linter.unusedVariables false
namespace GrR
theorem not_eq (x y : Nat) (hx : x < 18446744073709551616) (hy : y < 18446744073709551616) : x &&& (18446744073709551615 - y) = x ^^^ (x &&& y) := by
  apply Nat.eq_of_testBit_eq
  intro i
  have e : (18446744073709551615 - y).testBit i = (decide (i < 64) && !y.testBit i) := by
    rw [show 18446744073709551615 - y = 2 ^ 64 - (y + 1) by omega]
    exact Nat.testBit_two_pow_sub_succ (by simpa using hy) i
  simp only [Nat.testBit_and, Nat.testBit_xor, e]
  by_cases c : i < 64
  · simp [c]; cases x.testBit i <;> cases y.testBit i <;> rfl
  · have : x.testBit i = false := Nat.testBit_lt_two_pow (Nat.lt_of_lt_of_le hx (show 18446744073709551616 ≤ 2 ^ i from Nat.pow_le_pow_right (by decide : 2 > 0) (show 64 ≤ i by omega)))
    simp [this]
def w_or (x y : Nat) : Nat := x ||| y
def b_or (a b : Bool) : Bool := a || b
theorem w_or_bit (x y i : Nat) : (w_or x y).testBit i = b_or (x.testBit i) (y.testBit i) := by
  unfold w_or b_or
  simp [Nat.testBit_or]
theorem w_or_lt {x y : Nat} (hx : x < 18446744073709551616) (hy : y < 18446744073709551616) : w_or x y < 18446744073709551616 := Nat.or_lt_two_pow (n := 64) hx hy
theorem w_or_int {x y : Nat} (hx : x < 18446744073709551616) (hy : y < 18446744073709551616) : Go.bits .or .u64 (x : Int) (y : Int) = ((w_or x y : Nat) : Int) := Go.bits_or_u64_nat x y hx hy
def w_and (x y : Nat) : Nat := x &&& y
def b_and (a b : Bool) : Bool := a && b
theorem w_and_bit (x y i : Nat) : (w_and x y).testBit i = b_and (x.testBit i) (y.testBit i) := by
  unfold w_and b_and
  simp [Nat.testBit_and]
theorem w_and_lt {x y : Nat} (hx : x < 18446744073709551616) (hy : y < 18446744073709551616) : w_and x y < 18446744073709551616 := Nat.lt_of_le_of_lt Nat.and_le_left hx
theorem w_and_int {x y : Nat} (hx : x < 18446744073709551616) (hy : y < 18446744073709551616) : Go.bits .and .u64 (x : Int) (y : Int) = ((w_and x y : Nat) : Int) := Go.bits_and_u64_nat x y hx hy
def w_not (x y : Nat) : Nat := x ^^^ (x &&& y)
def b_not (a b : Bool) : Bool := a && !b
theorem w_not_bit (x y i : Nat) : (w_not x y).testBit i = b_not (x.testBit i) (y.testBit i) := by
  unfold w_not b_not
  simp [Nat.testBit_xor, Nat.testBit_and]; cases x.testBit i <;> cases y.testBit i <;> rfl
theorem w_not_lt {x y : Nat} (hx : x < 18446744073709551616) (hy : y < 18446744073709551616) : w_not x y < 18446744073709551616 := Nat.xor_lt_two_pow (n := 64) hx (Nat.lt_of_le_of_lt Nat.and_le_left hx)
theorem w_not_int {x y : Nat} (hx : x < 18446744073709551616) (hy : y < 18446744073709551616) : Go.bits .andNot .u64 (x : Int) (y : Int) = ((w_not x y : Nat) : Int) := (Go.u64_andNot_nat x y hx hy).trans (congrArg (fun n : Nat => (n : Int)) (not_eq x y hx hy))
def w_win (x y : Nat) : Nat := x &&& y
def b_win (a b : Bool) : Bool := a && b
theorem w_win_bit (x y i : Nat) : (w_win x y).testBit i = b_win (x.testBit i) (y.testBit i) := by
  unfold w_win b_win
  simp [Nat.testBit_and]
theorem w_win_lt {x y : Nat} (hx : x < 18446744073709551616) (hy : y < 18446744073709551616) : w_win x y < 18446744073709551616 := Nat.lt_of_le_of_lt Nat.and_le_left hx
theorem w_win_int {x y : Nat} (hx : x < 18446744073709551616) (hy : y < 18446744073709551616) : Go.bits .and .u64 (x : Int) (y : Int) = ((w_win x y : Nat) : Int) := Go.bits_and_u64_nat x y hx hy
end GrR
namespace Go.Proofs.Ytjgfnemdklljmaa
open Go.RowKit GrR

set_option maxHeartbeats 800000 in
theorem or_any (x y : Nat) (w : World) (hx : x < 18446744073709551616) (hy : y < 18446744073709551616) :
    Calls Try.prog 55 #[.int .u64 (x : Int), .int .u64 (y : Int)] w fun e w' => e = .returned (.int .u64 ((w_or x y : Nat) : Int)) ∧ Below w.heap.size w w' := by
  have E := Lib.hid (w_or_int hx hy)
  clear hx hy
  go_enter Try.func55, Try.ntmps55
  go_wp2
  go_ret
  first | exact ⟨rfl, Below.refl _ _⟩ | exact ⟨by rw [E.out]; rfl, Below.refl _ _⟩

set_option maxRecDepth 100000 in
set_option maxHeartbeats 3200000 in
theorem with_or (x0 x1 y0 y1 : Nat) (w : World) (hx0 : x0 < 18446744073709551616) (hx1 : x1 < 18446744073709551616) (hy0 : y0 < 18446744073709551616) (hy1 : y1 < 18446744073709551616) :
    Calls Try.prog 58 #[.agg #[.int .u64 (x0 : Int), .int .u64 (x1 : Int)], .agg #[.int .u64 (y0 : Int), .int .u64 (y1 : Int)], .func (.func 55) #[] #[]] w fun e w' =>
      e = .returned (.agg #[.int .u64 ((w_or x0 y0 : Nat) : Int), .int .u64 ((w_or x1 y1 : Nat) : Int)]) ∧ Below w.heap.size w w' := by
  have C0 := Lib.hid (fun w => or_any x0 y0 w hx0 hy0)
  have C1 := Lib.hid (fun w => or_any x1 y1 w hx1 hy1)
  obtain ⟨v0, hv0⟩ : ∃ v, v = w_or x0 y0 := ⟨_, rfl⟩
  obtain ⟨v1, hv1⟩ : ∃ v, v = w_or x1 y1 := ⟨_, rfl⟩
  rw [← hv0] at C0 ⊢
  rw [← hv1] at C1 ⊢
  clear hx0 hx1 hy0 hy1 hv0 hv1
  go_enter Try.func58, Try.ntmps58
  go_upto_region 1 with fail
  refine to_cls ?_
  intro U0 hU0 z0
  have ra : ∀ z : Wb U0, Row z.at w.heap.size [.int .u64 (x0 : Int), .int .u64 (x1 : Int)] 64 := Row.next (((Row.new w [.int .u64 (x0 : Int), .int .u64 (x1 : Int)] 64).old _).old _) hU0
  have rb : ∀ z : Wb U0, Row z.at (w.heap.size + 1) [.int .u64 (y0 : Int), .int .u64 (y1 : Int)] 64 := Row.next ((Row.new' _ [.int .u64 (y0 : Int), .int .u64 (y1 : Int)] 64 _ (by simp)).old _) hU0
  have rc : ∀ z : Wb U0, Row z.at (w.heap.size + 2) [.int .u64 0, .int .u64 0] 64 := Row.next (Row.new' _ [.int .u64 0, .int .u64 0] 64 _ (by simp)) hU0
  have KK := Lib.hid (KB.next (KB.alloc (KB.alloc (KB.alloc (Below.refl _ w) _) _) _) hU0)
  have ra := Lib.hid ra
  have rb := Lib.hid rb
  have rc := Lib.hid rc
  clear hU0
  go_upto_region 2 with fail
  go_loopw [8] (fun i wr => ∃ k : Nat, k ≤ 2 ∧ i = .int .i64 (k : Int) ∧ Row wr w.heap.size [.int .u64 ((if 0 < k then v0 else x0 : Nat) : Int), .int .u64 ((if 1 < k then v1 else x1 : Nat) : Int)] 64 ∧ Row wr (w.heap.size + 1) [.int .u64 (y0 : Int), .int .u64 (y1 : Int)] 64 ∧ Row wr (w.heap.size + 2) [.int .u64 0, .int .u64 0] 64 ∧ Below w.heap.size w wr) (fun i _ => 2 - (intOf i).toNat)
  case atStart => exact ⟨0, by omega, rfl, by simpa using ra.out z0, rb.out z0, rc.out z0, KK.out z0⟩
  case round =>
    obtain ⟨k, hk, rfl, qa, qb, qc, kb⟩ := hrel
    clear ra rb rc KK
    match k, hk with
    | 0, _ =>
      simp only [Nat.lt_irrefl, if_false, Nat.not_lt_zero] at qa
      have QA := Lib.hid (qa.at)
      have QB := Lib.hid (qb.at)
      have QC := Lib.hid (qc.at)
      have BK := Lib.hid (KB.at kb)
      have ca : ∀ z : Wb wr, z.at.cell? ⟨w.heap.size, 0, none⟩ = some (.int .u64 (x0 : Int)) := fun z => (qa.at z).cell 0
      have cb : ∀ z : Wb wr, z.at.cell? ⟨w.heap.size + 1, 0, none⟩ = some (.int .u64 (y0 : Int)) := fun z => (qb.at z).cell 0
      have fa : ∀ (z : Wb wr) (i : Nat), z.at.frozen? ⟨w.heap.size, i, none⟩ = false := fun z i => (qa.at z).free i
      clear qa qb qc kb
      go_upto_region 4 with fail
      refine wp_region_wb_tail 10 (by kernel_rfl) (by kernel_rfl) ?_
      simp only [List.take_succ_cons, List.take_zero, List.drop_succ_cons, List.drop_zero]
      repeat (go_big_quiet_step ((go_at_call 55; with_reducible exact Calls.wb (x := _) (C0.out _))))
      refine wpQuiet_nil ?_
      rintro _ ⟨x1', rfl⟩
      go_wp2_with fail
      go_roundw
      case rel => exact ⟨1, by omega, by go_num, by simpa using (QA.out x1').set 0 (.int .u64 (v0 : Int)), (QB.out x1').oth (by omega) 0 _, (QC.out x1').oth (by omega) 0 _, KB.put (BK.out x1') (Nat.le_refl _) 0 _⟩
      case measure => simp [intOf]
    | 1, _ =>
      simp only [Nat.lt_irrefl, if_false, Nat.zero_lt_one, if_true] at qa
      have QA := Lib.hid (qa.at)
      have QB := Lib.hid (qb.at)
      have QC := Lib.hid (qc.at)
      have BK := Lib.hid (KB.at kb)
      have ca : ∀ z : Wb wr, z.at.cell? ⟨w.heap.size, 1, none⟩ = some (.int .u64 (x1 : Int)) := fun z => (qa.at z).cell 1
      have cb : ∀ z : Wb wr, z.at.cell? ⟨w.heap.size + 1, 1, none⟩ = some (.int .u64 (y1 : Int)) := fun z => (qb.at z).cell 1
      have fa : ∀ (z : Wb wr) (i : Nat), z.at.frozen? ⟨w.heap.size, i, none⟩ = false := fun z i => (qa.at z).free i
      clear qa qb qc kb
      go_upto_region 4 with fail
      refine wp_region_wb_tail 10 (by kernel_rfl) (by kernel_rfl) ?_
      simp only [List.take_succ_cons, List.take_zero, List.drop_succ_cons, List.drop_zero]
      repeat (go_big_quiet_step ((go_at_call 55; with_reducible exact Calls.wb (x := _) (C1.out _))))
      refine wpQuiet_nil ?_
      rintro _ ⟨x1', rfl⟩
      go_wp2_with fail
      go_roundw
      case rel => exact ⟨2, by omega, by go_num, by simpa using (QA.out x1').set 1 (.int .u64 (v1 : Int)), (QB.out x1').oth (by omega) 1 _, (QC.out x1').oth (by omega) 1 _, KB.put (BK.out x1') (Nat.le_refl _) 1 _⟩
      case measure => simp [intOf]
    | 2, _ =>
      simp only [Nat.zero_lt_two, Nat.one_lt_two, if_true] at qa
      have a0 : wr.cell? ⟨w.heap.size, 0, none⟩ = some (.int .u64 (v0 : Int)) := qa.cell 0
      have a1 : wr.cell? ⟨w.heap.size, 1, none⟩ = some (.int .u64 (v1 : Int)) := qa.cell 1
      have f0 := qc.free 0
      have f1 := qc.free 1
      have d0 : wr.cell? ⟨w.heap.size + 2, 0, none⟩ = some (.int .u64 0) := qc.cell 0
      have d1 : wr.cell? ⟨w.heap.size + 2, 1, none⟩ = some (.int .u64 0) := qc.cell 1
      have BK := Lib.hid kb
      clear qa qb qc kb
      go_wp2_with fail
      refine bodyPost_ret (v := .agg #[.int .u64 (v0 : Int), .int .u64 (v1 : Int)]) (by simp [results, Try.results58, go_sem, *]) rfl ⟨rfl, ?_⟩
      repeat' (first | exact BK.out | refine Below.setCell ?_ (by simp; try omega) _)
    | n + 3, h => exact absurd h (by omega)

set_option maxHeartbeats 800000 in
theorem and_any (x y : Nat) (w : World) (hx : x < 18446744073709551616) (hy : y < 18446744073709551616) :
    Calls Try.prog 56 #[.int .u64 (x : Int), .int .u64 (y : Int)] w fun e w' => e = .returned (.int .u64 ((w_and x y : Nat) : Int)) ∧ Below w.heap.size w w' := by
  have E := Lib.hid (w_and_int hx hy)
  clear hx hy
  go_enter Try.func56, Try.ntmps56
  go_wp2
  go_ret
  first | exact ⟨rfl, Below.refl _ _⟩ | exact ⟨by rw [E.out]; rfl, Below.refl _ _⟩

set_option maxRecDepth 100000 in
set_option maxHeartbeats 3200000 in
theorem with_and (x0 x1 y0 y1 : Nat) (w : World) (hx0 : x0 < 18446744073709551616) (hx1 : x1 < 18446744073709551616) (hy0 : y0 < 18446744073709551616) (hy1 : y1 < 18446744073709551616) :
    Calls Try.prog 58 #[.agg #[.int .u64 (x0 : Int), .int .u64 (x1 : Int)], .agg #[.int .u64 (y0 : Int), .int .u64 (y1 : Int)], .func (.func 56) #[] #[]] w fun e w' =>
      e = .returned (.agg #[.int .u64 ((w_and x0 y0 : Nat) : Int), .int .u64 ((w_and x1 y1 : Nat) : Int)]) ∧ Below w.heap.size w w' := by
  have C0 := Lib.hid (fun w => and_any x0 y0 w hx0 hy0)
  have C1 := Lib.hid (fun w => and_any x1 y1 w hx1 hy1)
  obtain ⟨v0, hv0⟩ : ∃ v, v = w_and x0 y0 := ⟨_, rfl⟩
  obtain ⟨v1, hv1⟩ : ∃ v, v = w_and x1 y1 := ⟨_, rfl⟩
  rw [← hv0] at C0 ⊢
  rw [← hv1] at C1 ⊢
  clear hx0 hx1 hy0 hy1 hv0 hv1
  go_enter Try.func58, Try.ntmps58
  go_upto_region 1 with fail
  refine to_cls ?_
  intro U0 hU0 z0
  have ra : ∀ z : Wb U0, Row z.at w.heap.size [.int .u64 (x0 : Int), .int .u64 (x1 : Int)] 64 := Row.next (((Row.new w [.int .u64 (x0 : Int), .int .u64 (x1 : Int)] 64).old _).old _) hU0
  have rb : ∀ z : Wb U0, Row z.at (w.heap.size + 1) [.int .u64 (y0 : Int), .int .u64 (y1 : Int)] 64 := Row.next ((Row.new' _ [.int .u64 (y0 : Int), .int .u64 (y1 : Int)] 64 _ (by simp)).old _) hU0
  have rc : ∀ z : Wb U0, Row z.at (w.heap.size + 2) [.int .u64 0, .int .u64 0] 64 := Row.next (Row.new' _ [.int .u64 0, .int .u64 0] 64 _ (by simp)) hU0
  have KK := Lib.hid (KB.next (KB.alloc (KB.alloc (KB.alloc (Below.refl _ w) _) _) _) hU0)
  have ra := Lib.hid ra
  have rb := Lib.hid rb
  have rc := Lib.hid rc
  clear hU0
  go_upto_region 2 with fail
  go_loopw [8] (fun i wr => ∃ k : Nat, k ≤ 2 ∧ i = .int .i64 (k : Int) ∧ Row wr w.heap.size [.int .u64 ((if 0 < k then v0 else x0 : Nat) : Int), .int .u64 ((if 1 < k then v1 else x1 : Nat) : Int)] 64 ∧ Row wr (w.heap.size + 1) [.int .u64 (y0 : Int), .int .u64 (y1 : Int)] 64 ∧ Row wr (w.heap.size + 2) [.int .u64 0, .int .u64 0] 64 ∧ Below w.heap.size w wr) (fun i _ => 2 - (intOf i).toNat)
  case atStart => exact ⟨0, by omega, rfl, by simpa using ra.out z0, rb.out z0, rc.out z0, KK.out z0⟩
  case round =>
    obtain ⟨k, hk, rfl, qa, qb, qc, kb⟩ := hrel
    clear ra rb rc KK
    match k, hk with
    | 0, _ =>
      simp only [Nat.lt_irrefl, if_false, Nat.not_lt_zero] at qa
      have QA := Lib.hid (qa.at)
      have QB := Lib.hid (qb.at)
      have QC := Lib.hid (qc.at)
      have BK := Lib.hid (KB.at kb)
      have ca : ∀ z : Wb wr, z.at.cell? ⟨w.heap.size, 0, none⟩ = some (.int .u64 (x0 : Int)) := fun z => (qa.at z).cell 0
      have cb : ∀ z : Wb wr, z.at.cell? ⟨w.heap.size + 1, 0, none⟩ = some (.int .u64 (y0 : Int)) := fun z => (qb.at z).cell 0
      have fa : ∀ (z : Wb wr) (i : Nat), z.at.frozen? ⟨w.heap.size, i, none⟩ = false := fun z i => (qa.at z).free i
      clear qa qb qc kb
      go_upto_region 4 with fail
      refine wp_region_wb_tail 10 (by kernel_rfl) (by kernel_rfl) ?_
      simp only [List.take_succ_cons, List.take_zero, List.drop_succ_cons, List.drop_zero]
      repeat (go_big_quiet_step ((go_at_call 56; with_reducible exact Calls.wb (x := _) (C0.out _))))
      refine wpQuiet_nil ?_
      rintro _ ⟨x1', rfl⟩
      go_wp2_with fail
      go_roundw
      case rel => exact ⟨1, by omega, by go_num, by simpa using (QA.out x1').set 0 (.int .u64 (v0 : Int)), (QB.out x1').oth (by omega) 0 _, (QC.out x1').oth (by omega) 0 _, KB.put (BK.out x1') (Nat.le_refl _) 0 _⟩
      case measure => simp [intOf]
    | 1, _ =>
      simp only [Nat.lt_irrefl, if_false, Nat.zero_lt_one, if_true] at qa
      have QA := Lib.hid (qa.at)
      have QB := Lib.hid (qb.at)
      have QC := Lib.hid (qc.at)
      have BK := Lib.hid (KB.at kb)
      have ca : ∀ z : Wb wr, z.at.cell? ⟨w.heap.size, 1, none⟩ = some (.int .u64 (x1 : Int)) := fun z => (qa.at z).cell 1
      have cb : ∀ z : Wb wr, z.at.cell? ⟨w.heap.size + 1, 1, none⟩ = some (.int .u64 (y1 : Int)) := fun z => (qb.at z).cell 1
      have fa : ∀ (z : Wb wr) (i : Nat), z.at.frozen? ⟨w.heap.size, i, none⟩ = false := fun z i => (qa.at z).free i
      clear qa qb qc kb
      go_upto_region 4 with fail
      refine wp_region_wb_tail 10 (by kernel_rfl) (by kernel_rfl) ?_
      simp only [List.take_succ_cons, List.take_zero, List.drop_succ_cons, List.drop_zero]
      repeat (go_big_quiet_step ((go_at_call 56; with_reducible exact Calls.wb (x := _) (C1.out _))))
      refine wpQuiet_nil ?_
      rintro _ ⟨x1', rfl⟩
      go_wp2_with fail
      go_roundw
      case rel => exact ⟨2, by omega, by go_num, by simpa using (QA.out x1').set 1 (.int .u64 (v1 : Int)), (QB.out x1').oth (by omega) 1 _, (QC.out x1').oth (by omega) 1 _, KB.put (BK.out x1') (Nat.le_refl _) 1 _⟩
      case measure => simp [intOf]
    | 2, _ =>
      simp only [Nat.zero_lt_two, Nat.one_lt_two, if_true] at qa
      have a0 : wr.cell? ⟨w.heap.size, 0, none⟩ = some (.int .u64 (v0 : Int)) := qa.cell 0
      have a1 : wr.cell? ⟨w.heap.size, 1, none⟩ = some (.int .u64 (v1 : Int)) := qa.cell 1
      have f0 := qc.free 0
      have f1 := qc.free 1
      have d0 : wr.cell? ⟨w.heap.size + 2, 0, none⟩ = some (.int .u64 0) := qc.cell 0
      have d1 : wr.cell? ⟨w.heap.size + 2, 1, none⟩ = some (.int .u64 0) := qc.cell 1
      have BK := Lib.hid kb
      clear qa qb qc kb
      go_wp2_with fail
      refine bodyPost_ret (v := .agg #[.int .u64 (v0 : Int), .int .u64 (v1 : Int)]) (by simp [results, Try.results58, go_sem, *]) rfl ⟨rfl, ?_⟩
      repeat' (first | exact BK.out | refine Below.setCell ?_ (by simp; try omega) _)
    | n + 3, h => exact absurd h (by omega)

set_option maxHeartbeats 800000 in
theorem not_any (x y : Nat) (w : World) (hx : x < 18446744073709551616) (hy : y < 18446744073709551616) :
    Calls Try.prog 57 #[.int .u64 (x : Int), .int .u64 (y : Int)] w fun e w' => e = .returned (.int .u64 ((w_not x y : Nat) : Int)) ∧ Below w.heap.size w w' := by
  have E := Lib.hid (w_not_int hx hy)
  clear hx hy
  go_enter Try.func57, Try.ntmps57
  go_wp2
  go_ret
  first | exact ⟨rfl, Below.refl _ _⟩ | exact ⟨by rw [E.out]; rfl, Below.refl _ _⟩

set_option maxRecDepth 100000 in
set_option maxHeartbeats 3200000 in
theorem with_not (x0 x1 y0 y1 : Nat) (w : World) (hx0 : x0 < 18446744073709551616) (hx1 : x1 < 18446744073709551616) (hy0 : y0 < 18446744073709551616) (hy1 : y1 < 18446744073709551616) :
    Calls Try.prog 58 #[.agg #[.int .u64 (x0 : Int), .int .u64 (x1 : Int)], .agg #[.int .u64 (y0 : Int), .int .u64 (y1 : Int)], .func (.func 57) #[] #[]] w fun e w' =>
      e = .returned (.agg #[.int .u64 ((w_not x0 y0 : Nat) : Int), .int .u64 ((w_not x1 y1 : Nat) : Int)]) ∧ Below w.heap.size w w' := by
  have C0 := Lib.hid (fun w => not_any x0 y0 w hx0 hy0)
  have C1 := Lib.hid (fun w => not_any x1 y1 w hx1 hy1)
  obtain ⟨v0, hv0⟩ : ∃ v, v = w_not x0 y0 := ⟨_, rfl⟩
  obtain ⟨v1, hv1⟩ : ∃ v, v = w_not x1 y1 := ⟨_, rfl⟩
  rw [← hv0] at C0 ⊢
  rw [← hv1] at C1 ⊢
  clear hx0 hx1 hy0 hy1 hv0 hv1
  go_enter Try.func58, Try.ntmps58
  go_upto_region 1 with fail
  refine to_cls ?_
  intro U0 hU0 z0
  have ra : ∀ z : Wb U0, Row z.at w.heap.size [.int .u64 (x0 : Int), .int .u64 (x1 : Int)] 64 := Row.next (((Row.new w [.int .u64 (x0 : Int), .int .u64 (x1 : Int)] 64).old _).old _) hU0
  have rb : ∀ z : Wb U0, Row z.at (w.heap.size + 1) [.int .u64 (y0 : Int), .int .u64 (y1 : Int)] 64 := Row.next ((Row.new' _ [.int .u64 (y0 : Int), .int .u64 (y1 : Int)] 64 _ (by simp)).old _) hU0
  have rc : ∀ z : Wb U0, Row z.at (w.heap.size + 2) [.int .u64 0, .int .u64 0] 64 := Row.next (Row.new' _ [.int .u64 0, .int .u64 0] 64 _ (by simp)) hU0
  have KK := Lib.hid (KB.next (KB.alloc (KB.alloc (KB.alloc (Below.refl _ w) _) _) _) hU0)
  have ra := Lib.hid ra
  have rb := Lib.hid rb
  have rc := Lib.hid rc
  clear hU0
  go_upto_region 2 with fail
  go_loopw [8] (fun i wr => ∃ k : Nat, k ≤ 2 ∧ i = .int .i64 (k : Int) ∧ Row wr w.heap.size [.int .u64 ((if 0 < k then v0 else x0 : Nat) : Int), .int .u64 ((if 1 < k then v1 else x1 : Nat) : Int)] 64 ∧ Row wr (w.heap.size + 1) [.int .u64 (y0 : Int), .int .u64 (y1 : Int)] 64 ∧ Row wr (w.heap.size + 2) [.int .u64 0, .int .u64 0] 64 ∧ Below w.heap.size w wr) (fun i _ => 2 - (intOf i).toNat)
  case atStart => exact ⟨0, by omega, rfl, by simpa using ra.out z0, rb.out z0, rc.out z0, KK.out z0⟩
  case round =>
    obtain ⟨k, hk, rfl, qa, qb, qc, kb⟩ := hrel
    clear ra rb rc KK
    match k, hk with
    | 0, _ =>
      simp only [Nat.lt_irrefl, if_false, Nat.not_lt_zero] at qa
      have QA := Lib.hid (qa.at)
      have QB := Lib.hid (qb.at)
      have QC := Lib.hid (qc.at)
      have BK := Lib.hid (KB.at kb)
      have ca : ∀ z : Wb wr, z.at.cell? ⟨w.heap.size, 0, none⟩ = some (.int .u64 (x0 : Int)) := fun z => (qa.at z).cell 0
      have cb : ∀ z : Wb wr, z.at.cell? ⟨w.heap.size + 1, 0, none⟩ = some (.int .u64 (y0 : Int)) := fun z => (qb.at z).cell 0
      have fa : ∀ (z : Wb wr) (i : Nat), z.at.frozen? ⟨w.heap.size, i, none⟩ = false := fun z i => (qa.at z).free i
      clear qa qb qc kb
      go_upto_region 4 with fail
      refine wp_region_wb_tail 10 (by kernel_rfl) (by kernel_rfl) ?_
      simp only [List.take_succ_cons, List.take_zero, List.drop_succ_cons, List.drop_zero]
      repeat (go_big_quiet_step ((go_at_call 57; with_reducible exact Calls.wb (x := _) (C0.out _))))
      refine wpQuiet_nil ?_
      rintro _ ⟨x1', rfl⟩
      go_wp2_with fail
      go_roundw
      case rel => exact ⟨1, by omega, by go_num, by simpa using (QA.out x1').set 0 (.int .u64 (v0 : Int)), (QB.out x1').oth (by omega) 0 _, (QC.out x1').oth (by omega) 0 _, KB.put (BK.out x1') (Nat.le_refl _) 0 _⟩
      case measure => simp [intOf]
    | 1, _ =>
      simp only [Nat.lt_irrefl, if_false, Nat.zero_lt_one, if_true] at qa
      have QA := Lib.hid (qa.at)
      have QB := Lib.hid (qb.at)
      have QC := Lib.hid (qc.at)
      have BK := Lib.hid (KB.at kb)
      have ca : ∀ z : Wb wr, z.at.cell? ⟨w.heap.size, 1, none⟩ = some (.int .u64 (x1 : Int)) := fun z => (qa.at z).cell 1
      have cb : ∀ z : Wb wr, z.at.cell? ⟨w.heap.size + 1, 1, none⟩ = some (.int .u64 (y1 : Int)) := fun z => (qb.at z).cell 1
      have fa : ∀ (z : Wb wr) (i : Nat), z.at.frozen? ⟨w.heap.size, i, none⟩ = false := fun z i => (qa.at z).free i
      clear qa qb qc kb
      go_upto_region 4 with fail
      refine wp_region_wb_tail 10 (by kernel_rfl) (by kernel_rfl) ?_
      simp only [List.take_succ_cons, List.take_zero, List.drop_succ_cons, List.drop_zero]
      repeat (go_big_quiet_step ((go_at_call 57; with_reducible exact Calls.wb (x := _) (C1.out _))))
      refine wpQuiet_nil ?_
      rintro _ ⟨x1', rfl⟩
      go_wp2_with fail
      go_roundw
      case rel => exact ⟨2, by omega, by go_num, by simpa using (QA.out x1').set 1 (.int .u64 (v1 : Int)), (QB.out x1').oth (by omega) 1 _, (QC.out x1').oth (by omega) 1 _, KB.put (BK.out x1') (Nat.le_refl _) 1 _⟩
      case measure => simp [intOf]
    | 2, _ =>
      simp only [Nat.zero_lt_two, Nat.one_lt_two, if_true] at qa
      have a0 : wr.cell? ⟨w.heap.size, 0, none⟩ = some (.int .u64 (v0 : Int)) := qa.cell 0
      have a1 : wr.cell? ⟨w.heap.size, 1, none⟩ = some (.int .u64 (v1 : Int)) := qa.cell 1
      have f0 := qc.free 0
      have f1 := qc.free 1
      have d0 : wr.cell? ⟨w.heap.size + 2, 0, none⟩ = some (.int .u64 0) := qc.cell 0
      have d1 : wr.cell? ⟨w.heap.size + 2, 1, none⟩ = some (.int .u64 0) := qc.cell 1
      have BK := Lib.hid kb
      clear qa qb qc kb
      go_wp2_with fail
      refine bodyPost_ret (v := .agg #[.int .u64 (v0 : Int), .int .u64 (v1 : Int)]) (by simp [results, Try.results58, go_sem, *]) rfl ⟨rfl, ?_⟩
      repeat' (first | exact BK.out | refine Below.setCell ?_ (by simp; try omega) _)
    | n + 3, h => exact absurd h (by omega)

set_option maxHeartbeats 800000 in
theorem win_any (x y : Nat) (w : World) (hx : x < 18446744073709551616) (hy : y < 18446744073709551616) :
    Calls Try.prog 62 #[.int .u64 (x : Int), .int .u64 (y : Int)] w fun e w' => e = .returned (.int .u64 ((w_win x y : Nat) : Int)) ∧ Below w.heap.size w w' := by
  have E := Lib.hid (w_win_int hx hy)
  clear hx hy
  go_enter Try.func62, Try.ntmps62
  go_wp2
  go_ret
  first | exact ⟨rfl, Below.refl _ _⟩ | exact ⟨by rw [E.out]; rfl, Below.refl _ _⟩

set_option maxRecDepth 100000 in
set_option maxHeartbeats 3200000 in
theorem with_win (x0 x1 y0 y1 : Nat) (w : World) (hx0 : x0 < 18446744073709551616) (hx1 : x1 < 18446744073709551616) (hy0 : y0 < 18446744073709551616) (hy1 : y1 < 18446744073709551616) :
    Calls Try.prog 58 #[.agg #[.int .u64 (x0 : Int), .int .u64 (x1 : Int)], .agg #[.int .u64 (y0 : Int), .int .u64 (y1 : Int)], .func (.func 62) #[] #[]] w fun e w' =>
      e = .returned (.agg #[.int .u64 ((w_win x0 y0 : Nat) : Int), .int .u64 ((w_win x1 y1 : Nat) : Int)]) ∧ Below w.heap.size w w' := by
  have C0 := Lib.hid (fun w => win_any x0 y0 w hx0 hy0)
  have C1 := Lib.hid (fun w => win_any x1 y1 w hx1 hy1)
  obtain ⟨v0, hv0⟩ : ∃ v, v = w_win x0 y0 := ⟨_, rfl⟩
  obtain ⟨v1, hv1⟩ : ∃ v, v = w_win x1 y1 := ⟨_, rfl⟩
  rw [← hv0] at C0 ⊢
  rw [← hv1] at C1 ⊢
  clear hx0 hx1 hy0 hy1 hv0 hv1
  go_enter Try.func58, Try.ntmps58
  go_upto_region 1 with fail
  refine to_cls ?_
  intro U0 hU0 z0
  have ra : ∀ z : Wb U0, Row z.at w.heap.size [.int .u64 (x0 : Int), .int .u64 (x1 : Int)] 64 := Row.next (((Row.new w [.int .u64 (x0 : Int), .int .u64 (x1 : Int)] 64).old _).old _) hU0
  have rb : ∀ z : Wb U0, Row z.at (w.heap.size + 1) [.int .u64 (y0 : Int), .int .u64 (y1 : Int)] 64 := Row.next ((Row.new' _ [.int .u64 (y0 : Int), .int .u64 (y1 : Int)] 64 _ (by simp)).old _) hU0
  have rc : ∀ z : Wb U0, Row z.at (w.heap.size + 2) [.int .u64 0, .int .u64 0] 64 := Row.next (Row.new' _ [.int .u64 0, .int .u64 0] 64 _ (by simp)) hU0
  have KK := Lib.hid (KB.next (KB.alloc (KB.alloc (KB.alloc (Below.refl _ w) _) _) _) hU0)
  have ra := Lib.hid ra
  have rb := Lib.hid rb
  have rc := Lib.hid rc
  clear hU0
  go_upto_region 2 with fail
  go_loopw [8] (fun i wr => ∃ k : Nat, k ≤ 2 ∧ i = .int .i64 (k : Int) ∧ Row wr w.heap.size [.int .u64 ((if 0 < k then v0 else x0 : Nat) : Int), .int .u64 ((if 1 < k then v1 else x1 : Nat) : Int)] 64 ∧ Row wr (w.heap.size + 1) [.int .u64 (y0 : Int), .int .u64 (y1 : Int)] 64 ∧ Row wr (w.heap.size + 2) [.int .u64 0, .int .u64 0] 64 ∧ Below w.heap.size w wr) (fun i _ => 2 - (intOf i).toNat)
  case atStart => exact ⟨0, by omega, rfl, by simpa using ra.out z0, rb.out z0, rc.out z0, KK.out z0⟩
  case round =>
    obtain ⟨k, hk, rfl, qa, qb, qc, kb⟩ := hrel
    clear ra rb rc KK
    match k, hk with
    | 0, _ =>
      simp only [Nat.lt_irrefl, if_false, Nat.not_lt_zero] at qa
      have QA := Lib.hid (qa.at)
      have QB := Lib.hid (qb.at)
      have QC := Lib.hid (qc.at)
      have BK := Lib.hid (KB.at kb)
      have ca : ∀ z : Wb wr, z.at.cell? ⟨w.heap.size, 0, none⟩ = some (.int .u64 (x0 : Int)) := fun z => (qa.at z).cell 0
      have cb : ∀ z : Wb wr, z.at.cell? ⟨w.heap.size + 1, 0, none⟩ = some (.int .u64 (y0 : Int)) := fun z => (qb.at z).cell 0
      have fa : ∀ (z : Wb wr) (i : Nat), z.at.frozen? ⟨w.heap.size, i, none⟩ = false := fun z i => (qa.at z).free i
      clear qa qb qc kb
      go_upto_region 4 with fail
      refine wp_region_wb_tail 10 (by kernel_rfl) (by kernel_rfl) ?_
      simp only [List.take_succ_cons, List.take_zero, List.drop_succ_cons, List.drop_zero]
      repeat (go_big_quiet_step ((go_at_call 62; with_reducible exact Calls.wb (x := _) (C0.out _))))
      refine wpQuiet_nil ?_
      rintro _ ⟨x1', rfl⟩
      go_wp2_with fail
      go_roundw
      case rel => exact ⟨1, by omega, by go_num, by simpa using (QA.out x1').set 0 (.int .u64 (v0 : Int)), (QB.out x1').oth (by omega) 0 _, (QC.out x1').oth (by omega) 0 _, KB.put (BK.out x1') (Nat.le_refl _) 0 _⟩
      case measure => simp [intOf]
    | 1, _ =>
      simp only [Nat.lt_irrefl, if_false, Nat.zero_lt_one, if_true] at qa
      have QA := Lib.hid (qa.at)
      have QB := Lib.hid (qb.at)
      have QC := Lib.hid (qc.at)
      have BK := Lib.hid (KB.at kb)
      have ca : ∀ z : Wb wr, z.at.cell? ⟨w.heap.size, 1, none⟩ = some (.int .u64 (x1 : Int)) := fun z => (qa.at z).cell 1
      have cb : ∀ z : Wb wr, z.at.cell? ⟨w.heap.size + 1, 1, none⟩ = some (.int .u64 (y1 : Int)) := fun z => (qb.at z).cell 1
      have fa : ∀ (z : Wb wr) (i : Nat), z.at.frozen? ⟨w.heap.size, i, none⟩ = false := fun z i => (qa.at z).free i
      clear qa qb qc kb
      go_upto_region 4 with fail
      refine wp_region_wb_tail 10 (by kernel_rfl) (by kernel_rfl) ?_
      simp only [List.take_succ_cons, List.take_zero, List.drop_succ_cons, List.drop_zero]
      repeat (go_big_quiet_step ((go_at_call 62; with_reducible exact Calls.wb (x := _) (C1.out _))))
      refine wpQuiet_nil ?_
      rintro _ ⟨x1', rfl⟩
      go_wp2_with fail
      go_roundw
      case rel => exact ⟨2, by omega, by go_num, by simpa using (QA.out x1').set 1 (.int .u64 (v1 : Int)), (QB.out x1').oth (by omega) 1 _, (QC.out x1').oth (by omega) 1 _, KB.put (BK.out x1') (Nat.le_refl _) 1 _⟩
      case measure => simp [intOf]
    | 2, _ =>
      simp only [Nat.zero_lt_two, Nat.one_lt_two, if_true] at qa
      have a0 : wr.cell? ⟨w.heap.size, 0, none⟩ = some (.int .u64 (v0 : Int)) := qa.cell 0
      have a1 : wr.cell? ⟨w.heap.size, 1, none⟩ = some (.int .u64 (v1 : Int)) := qa.cell 1
      have f0 := qc.free 0
      have f1 := qc.free 1
      have d0 : wr.cell? ⟨w.heap.size + 2, 0, none⟩ = some (.int .u64 0) := qc.cell 0
      have d1 : wr.cell? ⟨w.heap.size + 2, 1, none⟩ = some (.int .u64 0) := qc.cell 1
      have BK := Lib.hid kb
      clear qa qb qc kb
      go_wp2_with fail
      refine bodyPost_ret (v := .agg #[.int .u64 (v0 : Int), .int .u64 (v1 : Int)]) (by simp [results, Try.results58, go_sem, *]) rfl ⟨rfl, ?_⟩
      repeat' (first | exact BK.out | refine Below.setCell ?_ (by simp; try omega) _)
    | n + 3, h => exact absurd h (by omega)
end Go.Proofs.Ytjgfnemdklljmaa
