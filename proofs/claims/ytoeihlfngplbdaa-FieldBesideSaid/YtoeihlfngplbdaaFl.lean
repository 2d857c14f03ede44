/-
  Layer 2: the page's examples (awake), walked.
-/
import Derived.Test.YtoeihlfngplbdaaPr
namespace Go.Proofs.Ytoeihlfngplbdaa
open Go.RowKit

theorem awake_parse : GrP.parse ⟨#[48, 120, 49, 70]⟩ = (31, 0) := by decide +kernel
theorem awake_get : GrF.get 43981 11 4 = 188 := by decide +kernel
theorem awake_signed : GrF.signed 255 8 = -1 := by decide +kernel

set_option maxHeartbeats 800000 in
theorem awake_any (w : World) : Calls Try.prog 10 #[] w fun e w' => e = .returned (.bool true) ∧ Drew w w' := by
  go_enter Try.func10, Try.ntmps10
  go_wp2_with fail
  refine (parse_any _ _ (by decide)).mono ?_
  rintro e w1 ⟨rfl, hd1⟩
  rw [awake_parse]
  go_wp2_with fail
  refine (get_any _ _ _ _ (by omega) (by omega)).mono ?_
  rintro e w2 ⟨rfl, hd2⟩
  rw [awake_get]
  go_wp2_with fail
  refine (signed_any _ _ _ (by omega) (by omega) (by omega) (by omega)).mono ?_
  rintro e w3 ⟨rfl, hd3⟩
  rw [awake_signed]
  go_wp2
  go_ret
  exact ⟨rfl, (hd1.trans hd2).trans hd3⟩

theorem bd_u64 {n : Int} (h : (Lit.int .u64 n).wf = true) : 0 ≤ n ∧ n < 18446744073709551616 := by
  simp [Lit.wf, IntKind.min, IntKind.max, IntKind.signed, IntKind.bits] at h
  omega
theorem bd_i64 {n : Int} (h : (Lit.int .i64 n).wf = true) : -9223372036854775808 ≤ n ∧ n ≤ 9223372036854775807 := by
  simp [Lit.wf, IntKind.min, IntKind.max, IntKind.signed, IntKind.bits] at h
  omega
/-- what 'Below' says step by step -/
theorem Drew.then {w w1 w2 : World} (h : Drew w w1) (k : Below w1.heap.size w1 w2) : Below w.heap.size w w2 := by
  obtain ⟨m, rfl⟩ := h
  exact ⟨k.os, k.tape, k.output, k.size, k.block⟩
theorem bstep {w w1 w2 : World} (h : Below w.heap.size w w1) (k : Below w1.heap.size w1 w2) : Below w.heap.size w w2 := h.trans (k.mono h.size)

/-! ### the laws -/
set_option maxHeartbeats 800000 in
theorem gets_walk (x hi lo : Int) (w : World) (h0 : 0 ≤ x) (h1 : x < 18446744073709551616) :
    Calls Try.prog 3 #[.int .u64 x, .int .i64 hi, .int .i64 lo] w fun e w' => e = .returned (.bool true) ∧ Below w.heap.size w w' := by
  have H1 := Lib.hid h1
  clear h1
  have HB := Lib.hid (show GrF.bitB x hi = (GrF.get x hi hi == 1) from rfl)
  go_enter Try.func3, Try.ntmps3
  go_wp2_with fail
  refine (awake_any _).mono ?_
  rintro e w1 ⟨rfl, d1⟩
  go_wp2_with fail
  refine (get_any x hi lo _ h0 H1.out).mono ?_
  rintro e w2 ⟨rfl, d2⟩
  go_wp2_with fail
  refine (rget_any x hi lo _ h0 H1.out).mono ?_
  rintro e w3 ⟨rfl, d3⟩
  go_wp2_with fail
  refine (bit_any x hi _ h0 H1.out).mono ?_
  rintro e w4 ⟨rfl, d4⟩
  go_wp2_with fail
  refine (rget_any x hi hi _ h0 H1.out).mono ?_
  rintro e w5 ⟨rfl, d5⟩
  rw [HB.out]
  go_wp2
  go_ret
  exact ⟨ret_bool (by simp), bstep (bstep (bstep (bstep (d1.below _) (d2.below _)) d3) (d4.below _)) d5⟩

set_option maxHeartbeats 800000 in
theorem aligns_walk (x n : Int) (w : World) (h0 : 0 ≤ x) (h1 : x < 18446744073709551616) (h2 : -9223372036854775808 ≤ n) (h3 : n ≤ 9223372036854775807) :
    Calls Try.prog 6 #[.int .u64 x, .int .i64 n] w fun e w' => e = .returned (.bool true) ∧ Below w.heap.size w w' := by
  have H1 := Lib.hid h1
  clear h1
  have HB := Lib.hid (show GrF.alignedB x n = (GrF.down x n == x) from rfl)
  go_enter Try.func6, Try.ntmps6
  go_wp2_with fail
  refine (awake_any _).mono ?_
  rintro e w1 ⟨rfl, d1⟩
  go_wp2_with fail
  refine (rdown_any x n _ h0 H1.out h2 h3).mono ?_
  rintro e w2 ⟨rfl, d2⟩
  go_wp2_with fail
  refine (down_any x n _ h0 H1.out h2 h3).mono ?_
  rintro e w3 ⟨rfl, rfl⟩
  go_wp2_with fail
  refine (aligned_any x n _ h0 H1.out h2 h3).mono ?_
  rintro e w4 ⟨rfl, rfl⟩
  rw [HB.out]
  go_wp2_with fail
  refine (page_any x _ h0 H1.out).mono ?_
  rintro e w5 ⟨rfl, rfl⟩
  go_wp2_with fail
  refine (rdown_any x 12 _ h0 H1.out (by omega) (by omega)).mono ?_
  rintro e w6 ⟨rfl, d6⟩
  go_wp2
  go_ret
  exact ⟨ret_bool (by simp), bstep (bstep (d1.below _) d2) d6⟩

set_option maxHeartbeats 800000 in
theorem parses_walk (s : ByteArray) (w : World) (hs : s.size ≤ maxLen) :
    Calls Try.prog 7 #[.string s] w fun e w' => e = .returned (.bool true) ∧ Below w.heap.size w w' := by
  go_enter Try.func7, Try.ntmps7
  go_wp2_with fail
  refine (awake_any _).mono ?_
  rintro e w1 ⟨rfl, d1⟩
  go_wp2_with fail
  refine (parse_any s _ hs).mono ?_
  rintro e w2 ⟨rfl, d2⟩
  go_wp2_with fail
  refine (rparse_any s _ hs).mono ?_
  rintro e w3 ⟨rfl, rfl⟩
  go_wp2
  go_ret
  exact ⟨ret_bool (by simp), bstep (d1.below _) (d2.below _)⟩

theorem slots_down {w w1 w2 w3 w5 w6 : World} (d1 : Drew w w1) (d2 : Below w1.heap.size w1 w2) (d3 : Drew w2 w3) (d5 : Drew w3 w5) (d6 : Drew w5 w6) : Below w.heap.size w w6 :=
  bstep (bstep (bstep (bstep (d1.below _) d2) (d3.below _)) (d5.below _)) (d6.below _)

set_option maxHeartbeats 1600000 in
theorem slots_walk (x l : Int) (w : World) (h0 : 0 ≤ x) (h1 : x < 18446744073709551616) :
    Calls Try.prog 8 #[.int .u64 x, .int .i64 l] w fun e w' => e = .returned (.bool true) ∧ Below w.heap.size w w' := by
  have H1 := Lib.hid h1
  clear h1
  have e29 := GrF.get_29 x h0
  have e20 := GrF.get_20 x h0
  have a1 : GrF.get x 29 21 ≤ 511 := by omega
  have a2 : 0 ≤ GrF.get x 29 21 := by omega
  have b1 : GrF.get x 20 12 ≤ 511 := by omega
  have b2 : 0 ≤ GrF.get x 20 12 := by omega
  have W := Lib.hid (show x < 1073741824 → GrF.get x 29 21 * 2097152 + GrF.get x 20 12 * 4096 + x % 4096 = x by omega)
  have S1 : GrF.slot x 1 = GrF.get x 29 21 := rfl
  have S2 : GrF.slot x 2 = GrF.get x 20 12 := rfl
  have T1 := Lib.hid S1
  have T2 := Lib.hid S2
  clear e29 e20 S1 S2
  by_cases c1 : l = 1
  · subst c1
    go_enter Try.func8, Try.ntmps8
    go_wp2_with fail
    refine (awake_any _).mono ?_
    rintro e w1 ⟨rfl, d1⟩
    go_wp2_with fail
    refine (rget_any x 29 21 _ h0 H1.out).mono ?_
    rintro e w2 ⟨rfl, d2⟩
    go_wp2_with fail
    refine (slot_any x _ _ h0 H1.out).mono ?_
    rintro e w3 ⟨rfl, d3⟩
    rw [T1.out]
    go_wp2_with fail
    refine (within_any x _).mono ?_
    rintro e w4 ⟨rfl, rfl⟩
    go_wp2_with fail
    refine (slot_any x 1 _ h0 H1.out).mono ?_
    rintro e w5 ⟨rfl, d5⟩
    rw [T1.out]
    go_wp2_with fail
    refine (slot_any x 2 _ h0 H1.out).mono ?_
    rintro e w6 ⟨rfl, d6⟩
    rw [T2.out]
    go_wp2_with fail
    refine (within_any x _).mono ?_
    rintro e w7 ⟨rfl, rfl⟩
    have D := slots_down d1 d2 d3 d5 d6
    clear d1 d2 d3 d5 d6
    by_cases hx : x < 1073741824
    · have W2 := Lib.hid (W.out hx)
      go_wp2
      go_ret
      exact ⟨ret_bool (by rw [beq_iff_eq]; exact W2.out), D⟩
    · go_wp2
      go_ret
      exact ⟨rfl, D⟩
  · by_cases c2 : l = 2
    · subst c2
      go_enter Try.func8, Try.ntmps8
      go_wp2_with fail
      refine (awake_any _).mono ?_
      rintro e w1 ⟨rfl, d1⟩
      go_wp2_with fail
      refine (rget_any x 20 12 _ h0 H1.out).mono ?_
      rintro e w2 ⟨rfl, d2⟩
      go_wp2_with fail
      refine (slot_any x _ _ h0 H1.out).mono ?_
      rintro e w3 ⟨rfl, d3⟩
      rw [T2.out]
      go_wp2_with fail
      refine (within_any x _).mono ?_
      rintro e w4 ⟨rfl, rfl⟩
      go_wp2_with fail
      refine (slot_any x 1 _ h0 H1.out).mono ?_
      rintro e w5 ⟨rfl, d5⟩
      rw [T1.out]
      go_wp2_with fail
      refine (slot_any x 2 _ h0 H1.out).mono ?_
      rintro e w6 ⟨rfl, d6⟩
      rw [T2.out]
      go_wp2_with fail
      refine (within_any x _).mono ?_
      rintro e w7 ⟨rfl, rfl⟩
      have D := slots_down d1 d2 d3 d5 d6
      clear d1 d2 d3 d5 d6
      by_cases hx : x < 1073741824
      · have W2 := Lib.hid (W.out hx)
        go_wp2
        go_ret
        exact ⟨ret_bool (by rw [beq_iff_eq]; exact W2.out), D⟩
      · go_wp2
        go_ret
        exact ⟨rfl, D⟩
    · have n1 : (l == 1) = false := by simpa using c1
      have n2 : (l == 2) = false := by simpa using c2
      have T3 := Lib.hid (show GrF.slot x l = 0 by rw [GrF.slot, if_neg c1, if_neg c2])
      clear c1 c2
      go_enter Try.func8, Try.ntmps8
      go_wp2_with fail
      refine (awake_any _).mono ?_
      rintro e w1 ⟨rfl, d1⟩
      go_wp2_with fail
      obtain ⟨w2, d2, hw2⟩ : ∃ w2, Below w1.heap.size w1 w2 ∧ w1 = w2 := ⟨w1, Below.refl _ _, rfl⟩
      rw [hw2]
      clear hw2
      refine (slot_any x _ _ h0 H1.out).mono ?_
      rintro e w3 ⟨rfl, d3⟩
      rw [T3.out]
      go_wp2_with fail
      refine (within_any x _).mono ?_
      rintro e w4 ⟨rfl, rfl⟩
      go_wp2_with fail
      refine (slot_any x 1 _ h0 H1.out).mono ?_
      rintro e w5 ⟨rfl, d5⟩
      rw [T1.out]
      go_wp2_with fail
      refine (slot_any x 2 _ h0 H1.out).mono ?_
      rintro e w6 ⟨rfl, d6⟩
      rw [T2.out]
      go_wp2_with fail
      refine (within_any x _).mono ?_
      rintro e w7 ⟨rfl, rfl⟩
      have D := slots_down d1 d2 d3 d5 d6
      clear d1 d2 d3 d5 d6
      by_cases hx : x < 1073741824
      · have W2 := Lib.hid (W.out hx)
        go_wp2
        go_ret
        exact ⟨ret_bool (by rw [beq_iff_eq]; exact W2.out), D⟩
      · go_wp2
        go_ret
        exact ⟨rfl, D⟩

end Go.Proofs.Ytoeihlfngplbdaa
