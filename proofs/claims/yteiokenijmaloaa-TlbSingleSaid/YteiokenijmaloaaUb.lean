/-
  Layer 9, the walks: what is ahead of what; where an entry stands.
-/
import Derived.Test.YteiokenijmaloaaUa
import Derived.Test.YteiokenijmaloaaBx
import Derived.Test.YteiokenijmaloaaBt
import Derived.Test.YteiokenijmaloaaSl
import Derived.Test.YteiokenijmaloaaTd
set_option linter.unusedSimpArgs false
set_option linter.unusedVariables false
namespace Go.Proofs.Yteiokenijmaloaa
open Go.RowKit

theorem nan_int (x : Int) (w : World) : Calls Try.prog 60 #[.int .i64 x] w fun e w' => e = .returned (.bool false) ∧ w = w' := by
  go_enter Try.func60, Try.ntmps60
  go_wp2
  go_ret
  exact ⟨by simp, rfl⟩

theorem cmp_int (x y : Int) (w : World) : Calls Try.prog 52 #[.int .i64 x, .int .i64 y] w fun e w' => e = .returned (.int .i64 (GrT.cmpI x y)) ∧ w = w' := by
  have NX := Lib.hid (nan_int x w)
  have NY := Lib.hid (nan_int y w)
  by_cases c : x < y
  · have E := Lib.hid (show GrT.cmpI x y = -1 by unfold GrT.cmpI; rw [if_pos c])
    have d : decide (x < y) = true := by simpa using c
    clear c
    go_enter Try.func52, Try.ntmps52
    go_wp2_with fail
    refine NX.out.mono ?_
    rintro e w1 ⟨rfl, rfl⟩
    go_wp2_with fail
    refine NY.out.mono ?_
    rintro e w1 ⟨rfl, rfl⟩
    go_wp2
    go_ret
    exact ⟨by rw [E.out]; rfl, rfl⟩
  · have d : decide (x < y) = false := by simpa using c
    by_cases c2 : y < x
    · have E := Lib.hid (show GrT.cmpI x y = 1 by unfold GrT.cmpI; rw [if_neg c, if_pos c2])
      have d2 : decide (y < x) = true := by simpa using c2
      clear c c2
      go_enter Try.func52, Try.ntmps52
      go_wp2_with fail
      refine NX.out.mono ?_
      rintro e w1 ⟨rfl, rfl⟩
      go_wp2_with fail
      refine NY.out.mono ?_
      rintro e w1 ⟨rfl, rfl⟩
      go_wp2
      go_ret
      exact ⟨by rw [E.out]; rfl, rfl⟩
    · have E := Lib.hid (show GrT.cmpI x y = 0 by unfold GrT.cmpI; rw [if_neg c, if_neg c2])
      have d2 : decide (y < x) = false := by simpa using c2
      clear c c2
      go_enter Try.func52, Try.ntmps52
      go_wp2_with fail
      refine NX.out.mono ?_
      rintro e w1 ⟨rfl, rfl⟩
      go_wp2_with fail
      refine NY.out.mono ?_
      rintro e w1 ⟨rfl, rfl⟩
      go_wp2
      go_ret
      exact ⟨by rw [E.out]; rfl, rfl⟩

theorem nan_uint64 (x : Int) (w : World) : Calls Try.prog 61 #[.int .u64 x] w fun e w' => e = .returned (.bool false) ∧ w = w' := by
  go_enter Try.func61, Try.ntmps61
  go_wp2
  go_ret
  exact ⟨by simp, rfl⟩

theorem cmp_uint64 (x y : Int) (w : World) : Calls Try.prog 53 #[.int .u64 x, .int .u64 y] w fun e w' => e = .returned (.int .i64 (GrT.cmpI x y)) ∧ w = w' := by
  have NX := Lib.hid (nan_uint64 x w)
  have NY := Lib.hid (nan_uint64 y w)
  by_cases c : x < y
  · have E := Lib.hid (show GrT.cmpI x y = -1 by unfold GrT.cmpI; rw [if_pos c])
    have d : decide (x < y) = true := by simpa using c
    clear c
    go_enter Try.func53, Try.ntmps53
    go_wp2_with fail
    refine NX.out.mono ?_
    rintro e w1 ⟨rfl, rfl⟩
    go_wp2_with fail
    refine NY.out.mono ?_
    rintro e w1 ⟨rfl, rfl⟩
    go_wp2
    go_ret
    exact ⟨by rw [E.out]; rfl, rfl⟩
  · have d : decide (x < y) = false := by simpa using c
    by_cases c2 : y < x
    · have E := Lib.hid (show GrT.cmpI x y = 1 by unfold GrT.cmpI; rw [if_neg c, if_pos c2])
      have d2 : decide (y < x) = true := by simpa using c2
      clear c c2
      go_enter Try.func53, Try.ntmps53
      go_wp2_with fail
      refine NX.out.mono ?_
      rintro e w1 ⟨rfl, rfl⟩
      go_wp2_with fail
      refine NY.out.mono ?_
      rintro e w1 ⟨rfl, rfl⟩
      go_wp2
      go_ret
      exact ⟨by rw [E.out]; rfl, rfl⟩
    · have E := Lib.hid (show GrT.cmpI x y = 0 by unfold GrT.cmpI; rw [if_neg c, if_neg c2])
      have d2 : decide (y < x) = false := by simpa using c2
      clear c c2
      go_enter Try.func53, Try.ntmps53
      go_wp2_with fail
      refine NX.out.mono ?_
      rintro e w1 ⟨rfl, rfl⟩
      go_wp2_with fail
      refine NY.out.mono ?_
      rintro e w1 ⟨rfl, rfl⟩
      go_wp2
      go_ret
      exact ⟨by rw [E.out]; rfl, rfl⟩

theorem or_any (a b c d : Int) (B : Nat) (T : TypeId) (w : World) (h : Row w B [.int .i64 a, .int .i64 b, .int .i64 c, .int .i64 d] T) :
    Calls Try.prog 51 #[.slice (some ⟨B, 0, none⟩) 4 4] w fun e w' => e = .returned (.int .i64 (GrT.orI a b c d)) ∧ w = w' := by
  have x0 : w.cell? ⟨B, 0, none⟩ = some (.int .i64 a) := h.cell 0
  have x1 : w.cell? ⟨B, 1, none⟩ = some (.int .i64 b) := h.cell 1
  have x2 : w.cell? ⟨B, 2, none⟩ = some (.int .i64 c) := h.cell 2
  have x3 : w.cell? ⟨B, 3, none⟩ = some (.int .i64 d) := h.cell 3
  clear h
  by_cases ka : a = 0
  · have ba : (a != 0) = false := by simpa using ka
    by_cases kb : b = 0
    · have bb : (b != 0) = false := by simpa using kb
      by_cases kc : c = 0
      · have bc : (c != 0) = false := by simpa using kc
        by_cases kd : d = 0
        · have bd : (d != 0) = false := by simpa using kd
          have E := Lib.hid (show GrT.orI a b c d = 0 by unfold GrT.orI; simp [*])
          clear ka kb kc kd
          go_enter Try.func51, Try.ntmps51
          go_wp2_with fail
          refine wp_loop_rounds 7 ?_
          rw [rounds_succ]
          go_wp2_with fail
          rw [rounds_succ]
          go_wp2_with fail
          rw [rounds_succ]
          go_wp2_with fail
          rw [rounds_succ]
          go_wp2_with fail
          rw [rounds_succ]
          go_wp2
          go_ret
          exact ⟨by rw [E.out]; rfl, rfl⟩
        · have bd : (d != 0) = true := by simpa using kd
          have E := Lib.hid (show GrT.orI a b c d = d by unfold GrT.orI; simp [*])
          clear ka kb kc kd
          go_enter Try.func51, Try.ntmps51
          go_wp2_with fail
          refine wp_loop_rounds 7 ?_
          rw [rounds_succ]
          go_wp2_with fail
          rw [rounds_succ]
          go_wp2_with fail
          rw [rounds_succ]
          go_wp2_with fail
          rw [rounds_succ]
          go_wp2
          go_ret
          exact ⟨by rw [E.out]; rfl, rfl⟩
      · have bc : (c != 0) = true := by simpa using kc
        have E := Lib.hid (show GrT.orI a b c d = c by unfold GrT.orI; simp [*])
        clear ka kb kc
        go_enter Try.func51, Try.ntmps51
        go_wp2_with fail
        refine wp_loop_rounds 7 ?_
        rw [rounds_succ]
        go_wp2_with fail
        rw [rounds_succ]
        go_wp2_with fail
        rw [rounds_succ]
        go_wp2
        go_ret
        exact ⟨by rw [E.out]; rfl, rfl⟩
    · have bb : (b != 0) = true := by simpa using kb
      have E := Lib.hid (show GrT.orI a b c d = b by unfold GrT.orI; simp [*])
      clear ka kb
      go_enter Try.func51, Try.ntmps51
      go_wp2_with fail
      refine wp_loop_rounds 7 ?_
      rw [rounds_succ]
      go_wp2_with fail
      rw [rounds_succ]
      go_wp2
      go_ret
      exact ⟨by rw [E.out]; rfl, rfl⟩
  · have ba : (a != 0) = true := by simpa using ka
    have E := Lib.hid (show GrT.orI a b c d = a by unfold GrT.orI; simp [*])
    clear ka
    go_enter Try.func51, Try.ntmps51
    go_wp2_with fail
    refine wp_loop_rounds 7 ?_
    rw [rounds_succ]
    go_wp2
    go_ret
    exact ⟨by rw [E.out]; rfl, rfl⟩

set_option maxRecDepth 100000 in
set_option maxHeartbeats 3200000 in
theorem compare_any (a b : GrT.E) (w : World) : Calls Try.prog 44 #[ev a, ev b] w fun e w' => e = .returned (.int .i64 (GrT.cmp a b)) ∧ Below w.heap.size w w' := by
  obtain ⟨a0, a1, a2, a3⟩ := a
  obtain ⟨b0, b1, b2, b3⟩ := b
  unfold ev
  simp only
  have E := Lib.hid (show GrT.cmp ⟨a0, a1, a2, a3⟩ ⟨b0, b1, b2, b3⟩ = GrT.orI (GrT.cmpI a0 b0) (GrT.cmpI a1 b1) (GrT.cmpI a2 b2) (GrT.cmpI a3 b3) from rfl)
  obtain ⟨c0, h0⟩ : ∃ c, c = GrT.cmpI a0 b0 := ⟨_, rfl⟩
  obtain ⟨c1, h1⟩ : ∃ c, c = GrT.cmpI a1 b1 := ⟨_, rfl⟩
  obtain ⟨c2, h2⟩ : ∃ c, c = GrT.cmpI a2 b2 := ⟨_, rfl⟩
  obtain ⟨c3, h3⟩ : ∃ c, c = GrT.cmpI a3 b3 := ⟨_, rfl⟩
  rw [← h0, ← h1, ← h2, ← h3] at E
  have C0 := Lib.hid (fun w => (Calls.same_below (cmp_int a0 b0 w) (Below.refl _ _)))
  have C1 := Lib.hid (fun w => (Calls.same_below (cmp_uint64 a1 b1 w) (Below.refl _ _)))
  have C2 := Lib.hid (fun w => (Calls.same_below (cmp_uint64 a2 b2 w) (Below.refl _ _)))
  have C3 := Lib.hid (fun w => (Calls.same_below (cmp_uint64 a3 b3 w) (Below.refl _ _)))
  rw [← h0] at C0
  rw [← h1] at C1
  rw [← h2] at C2
  rw [← h3] at C3
  clear h0 h1 h2 h3
  go_enter Try.func44, Try.ntmps44
  go_upto_region 1 with fail
  refine to_pt ?_
  intro V hV
  have ra : ∀ z : Wb V, Row z.at w.heap.size [.int .i64 a0, .int .u64 a1, .int .u64 a2, .int .u64 a3] 25 := Row.next ((Row.new w [.int .i64 a0, .int .u64 a1, .int .u64 a2, .int .u64 a3] _).old _) hV
  have rb : ∀ z : Wb V, Row z.at (w.heap.size + 1) [.int .i64 b0, .int .u64 b1, .int .u64 b2, .int .u64 b3] 25 := Row.next (Row.new' _ [.int .i64 b0, .int .u64 b1, .int .u64 b2, .int .u64 b3] _ _ (by simp)) hV
  have KK := Lib.hid (KB.next (KB.alloc (KB.alloc (Below.refl w.heap.size w) _) _) hV)
  clear hV
  have a_0 : ∀ z : Wb V, z.at.cell? ⟨w.heap.size, 0, none⟩ = some (.int .i64 a0) := fun z => (ra z).cell 0
  have a_1 : ∀ z : Wb V, z.at.cell? ⟨w.heap.size, 1, none⟩ = some (.int .u64 a1) := fun z => (ra z).cell 1
  have a_2 : ∀ z : Wb V, z.at.cell? ⟨w.heap.size, 2, none⟩ = some (.int .u64 a2) := fun z => (ra z).cell 2
  have a_3 : ∀ z : Wb V, z.at.cell? ⟨w.heap.size, 3, none⟩ = some (.int .u64 a3) := fun z => (ra z).cell 3
  have b_0 : ∀ z : Wb V, z.at.cell? ⟨w.heap.size + 1, 0, none⟩ = some (.int .i64 b0) := fun z => (rb z).cell 0
  have b_1 : ∀ z : Wb V, z.at.cell? ⟨w.heap.size + 1, 1, none⟩ = some (.int .u64 b1) := fun z => (rb z).cell 1
  have b_2 : ∀ z : Wb V, z.at.cell? ⟨w.heap.size + 1, 2, none⟩ = some (.int .u64 b2) := fun z => (rb z).cell 2
  have b_3 : ∀ z : Wb V, z.at.cell? ⟨w.heap.size + 1, 3, none⟩ = some (.int .u64 b3) := fun z => (rb z).cell 3
  refine wp_region_wb_tail 20 (by kernel_rfl) (by kernel_rfl) ?_
  simp only [List.take_succ_cons, List.take_zero, List.drop_succ_cons, List.drop_zero]
  repeat (go_big_quiet_step (first | (go_at_call 52; exact Calls.wb (C0.out _)) | (go_at_call 53; (with_reducible exact Calls.wb (C1.out _))) | (go_at_call 53; (with_reducible exact Calls.wb (C2.out _))) | (go_at_call 53; (with_reducible exact Calls.wb (C3.out _)))))
  refine wpQuiet_nil ?_
  rintro _ ⟨y, rfl⟩
  go_wp2_with fail
  refine (or_any c0 c1 c2 c3 y.at.heap.size _ _ (Row.new y.at [.int .i64 c0, .int .i64 c1, .int .i64 c2, .int .i64 c3] _)).mono ?_
  rintro e w1 ⟨rfl, rfl⟩
  go_wp2
  go_ret
  exact ⟨by rw [E.out]; rfl, KB.alloc (KK.out y) _⟩
end Go.Proofs.Yteiokenijmaloaa
