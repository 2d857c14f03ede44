/-
  Layer 2: the laws' walks, further.
-/
import Derived.Test.YtoeihlfngplbdaaFl
import Derived.Test.YtoeihlfngplbdaaFn
namespace Go.Proofs.Ytoeihlfngplbdaa
open Go.RowKit

theorem wrap_conv (v : Int) : IntKind.u64.wrap v = v % 18446744073709551616 := IntKind.wrap_u64 v
theorem wrap_bd (v : Int) : 0 ≤ IntKind.u64.wrap v ∧ IntKind.u64.wrap v < 18446744073709551616 := by
  rw [IntKind.wrap_u64]; omega

set_option maxHeartbeats 800000 in
theorem signs_walk (x n v : Int) (w : World) (h0 : 0 ≤ x) (h1 : x < 18446744073709551616) (h2 : -9223372036854775808 ≤ n) (h3 : n ≤ 9223372036854775807) (h4 : -9223372036854775808 ≤ v) (h5 : v ≤ 9223372036854775807) :
    Calls Try.prog 5 #[.int .u64 x, .int .i64 n, .int .i64 v] w fun e w' => e = .returned (.bool true) ∧ Below w.heap.size w w' := by
  have H1 := Lib.hid h1
  clear h1
  have sb := GrF.signed_bd x n
  by_cases c : 1 ≤ n ∧ n ≤ 63
  · obtain ⟨c1, c2⟩ := c
    have F1 := Lib.hid (GrF.fits_own x n c1 c2)
    have F2 := Lib.hid (GrF.fits_iff v n c1 c2)
    have WB := Lib.hid (wrap_bd v)
    go_enter Try.func5, Try.ntmps5
    go_wp2_with fail
    refine (awake_any _).mono ?_
    rintro e w1 ⟨rfl, d1⟩
    go_wp2_with fail
    refine (signed_any x n _ h0 H1.out h2 h3).mono ?_
    rintro e w2 ⟨rfl, d2⟩
    go_wp2_with fail
    refine (rsigned_any x n _ h0 H1.out h2 h3).mono ?_
    rintro e w3 ⟨rfl, d3⟩
    go_wp2_with fail
    refine (signed_any x n _ h0 H1.out h2 h3).mono ?_
    rintro e w4 ⟨rfl, d4⟩
    go_wp2_with fail
    refine (fits_any (GrF.signed x n) n _ sb.1 sb.2 h2 h3).mono ?_
    rintro e w5 ⟨rfl, d5⟩
    rw [F1.out]
    go_wp2_with fail
    refine (fits_any v n _ h4 h5 h2 h3).mono ?_
    rintro e w6 ⟨rfl, d6⟩
    rw [F2.out, ← wrap_conv]
    go_wp2_with fail
    refine (rsigned_any (IntKind.u64.wrap v) n _ WB.out.1 WB.out.2 h2 h3).mono ?_
    rintro e w7 ⟨rfl, d7⟩
    go_wp2
    go_ret
    exact ⟨ret_bool (by simp), bstep (bstep (bstep (bstep (bstep (bstep (d1.below _) (d2.below _)) d3) (d4.below _)) (d5.below _)) (d6.below _)) d7⟩
  · have F := Lib.hid (GrF.fits_out v n (by omega))
    go_enter Try.func5, Try.ntmps5
    go_wp2_with fail
    refine (awake_any _).mono ?_
    rintro e w1 ⟨rfl, d1⟩
    go_wp2_with fail
    refine (signed_any x n _ h0 H1.out h2 h3).mono ?_
    rintro e w2 ⟨rfl, d2⟩
    go_wp2_with fail
    refine (rsigned_any x n _ h0 H1.out h2 h3).mono ?_
    rintro e w3 ⟨rfl, d3⟩
    have D := bstep (bstep (d1.below _) (d2.below _)) d3
    clear d1 d2 d3
    by_cases c1 : n < 1
    · clear c
      go_wp2_with fail
      refine (fits_any v n _ h4 h5 h2 h3).mono ?_
      rintro e w6 ⟨rfl, d6⟩
      rw [F.out]
      go_wp2
      go_ret
      exact ⟨rfl, bstep D (d6.below _)⟩
    · have c2 : 63 < n := by omega
      clear c
      go_wp2_with fail
      refine (fits_any v n _ h4 h5 h2 h3).mono ?_
      rintro e w6 ⟨rfl, d6⟩
      rw [F.out]
      go_wp2
      go_ret
      exact ⟨rfl, bstep D (d6.below _)⟩

theorem puts_down {w w2 w3 : World} {o : Obj} {n : Nat} (d2 : Drew ((w.alloc o).drewN n) w2) (d3 : Below w2.heap.size w2 w3) : Below w.heap.size w w3 := by
  have h1 : Below w.heap.size w (w.alloc o) := (Below.refl _ _).alloc (Nat.le_refl _) _
  have h2 : Below w.heap.size w w2 := h1.trans (((Drew.refl _).drewN n).trans d2 |>.below _)
  exact bstep h2 d3

set_option maxHeartbeats 800000 in
theorem puts_walk (x v hi lo : Int) (w : World) (h0 : 0 ≤ x) (h1 : x < 18446744073709551616) (h2 : 0 ≤ v) (h3 : v < 18446744073709551616) (h4 : -9223372036854775808 ≤ hi) (h5 : hi ≤ 9223372036854775807) (h6 : -9223372036854775808 ≤ lo) (h7 : lo ≤ 9223372036854775807) :
    Calls Try.prog 4 #[.int .u64 x, .int .u64 v, .agg #[.int .i64 hi, .int .i64 lo]] w fun e w' => e = .returned (.bool true) ∧ Below w.heap.size w w' := by
  have H1 := Lib.hid h1
  have H3 := Lib.hid h3
  clear h1 h3
  have PB := Lib.hid (GrF.put_bd x hi lo v h0 H1.out)
  go_enter Try.func4, Try.ntmps4
  go_wp2_with fail
  refine (awake_any _).mono ?_
  rintro e w1 ⟨rfl, ⟨m, rfl⟩⟩
  go_wp2_with fail
  go_quiet (fail)
  go_wp2_with fail
  refine (put_any x hi lo v _ h0 H1.out h2).mono ?_
  rintro e w2 ⟨rfl, d2⟩
  go_wp2_with fail
  refine (rput_any x hi lo v _ h0 H1.out h2 H3.out).mono ?_
  rintro e w3 ⟨rfl, d3⟩
  go_wp2_with fail
  refine (may_any hi lo _).mono ?_
  rintro e w4 ⟨rfl, rfl⟩
  have D : Below w.heap.size w w3 := puts_down d2 d3
  clear d2 d3
  by_cases hs : GrF.spanB hi lo = true
  · obtain ⟨a, b, c⟩ := GrF.span_of hs
    have G := Lib.hid (GrF.get_put x hi lo v hs)
    rw [hs]
    clear hs
    go_wp2_with fail
    refine (get_any _ hi lo _ PB.out.1 PB.out.2).mono ?_
    rintro e w5 ⟨rfl, d5⟩
    rw [G.out]
    go_wp2_with fail
    refine (rget_any v (hi - lo) 0 _ h2 H3.out).mono ?_
    rintro e w6 ⟨rfl, d6⟩
    go_wp2
    go_ret
    exact ⟨ret_bool (by simp), bstep (bstep D (d5.below _)) d6⟩
  · have hs' : GrF.spanB hi lo = false := by simpa using hs
    rw [hs']
    clear hs hs'
    go_wp2
    go_ret
    exact ⟨rfl, D⟩
theorem xor_bd (v : Int) : 0 ≤ bits .xor .u64 18446744073709551615 v := by
  unfold bits
  rw [IntKind.wrap_u64]
  omega
theorem beside_down {w w1 w2 w3 w4 w5 w6 : World} {o : Obj} {n : Nat} (d1 : Drew ((w.alloc o).drewN n) w1) (d2 : Drew w1 w2) (d3 : Drew w2 w3) (d4 : Drew w3 w4) (d5 : Drew w4 w5) (d6 : Drew w5 w6) : Below w.heap.size w w6 :=
  ((Below.refl _ _).alloc (Nat.le_refl _) _).trans ((((((((Drew.refl _).drewN n).trans d1).trans d2).trans d3).trans d4).trans d5).trans d6 |>.below _)

set_option maxHeartbeats 1600000 in
theorem beside_walk (x v a b c d : Int) (w : World) (h0 : 0 ≤ x) (h1 : x < 18446744073709551616) (h2 : 0 ≤ v) (h3 : v < 18446744073709551616) :
    Calls Try.prog 9 #[.int .u64 x, .agg #[.int .i64 a, .int .i64 b, .int .i64 c, .int .i64 d], .int .u64 v] w fun e w' => e = .returned (.bool true) ∧ Below w.heap.size w w' := by
  have H1 := Lib.hid h1
  have H3 := Lib.hid h3
  clear h1 h3
  have D0 : Below w.heap.size w (w.alloc (.cells #[.int .i64 a, .int .i64 b, .int .i64 c, .int .i64 d] 42)) := (Below.refl _ _).alloc (Nat.le_refl _) _
  by_cases hs : GrF.spanB a b = true
  · by_cases ht : GrF.spanB c d = true
    · by_cases hd : d ≤ a ∧ b ≤ c
      · obtain ⟨hd1, hd2⟩ := hd
        have HS := Lib.hid hs
        have HT := Lib.hid ht
        clear hs ht
        go_enter Try.func9, Try.ntmps9
        go_wp2_with fail
        refine (awake_any _).mono ?_
        rintro e w1 ⟨rfl, ⟨m, rfl⟩⟩
        go_wp2_with fail
        go_quiet (fail)
        go_wp2_with fail
        refine (may_any a b _).mono ?_
        rintro e w4 ⟨rfl, rfl⟩
        rw [HS.out]
        go_wp2_with fail
        refine (may_any c d _).mono ?_
        rintro e w4 ⟨rfl, rfl⟩
        rw [HT.out]
        go_wp2
        go_ret
        exact ⟨rfl, D0.trans (((Drew.refl _).drewN _).below _)⟩
      · have E := Lib.hid (fun y => GrF.put_put x a b c d v y hs ht hd)
        have G := Lib.hid (fun z => GrF.get_put z a b v hs)
        have P1 := Lib.hid (GrF.put_bd x a b v h0 H1.out)
        have P2 := Lib.hid (fun y => GrF.put_bd x c d y h0 H1.out)
        have P3 := Lib.hid (fun y => GrF.put_bd _ a b v (P2.out y).1 (P2.out y).2)
        have HS := Lib.hid hs
        have HT := Lib.hid ht
        have hsp := GrF.span_of hs
        obtain ⟨s1, s2, s3⟩ := hsp
        have Y := Lib.hid (xor_bd v)
        clear hs ht
        go_enter Try.func9, Try.ntmps9
        go_wp2_with fail
        refine (awake_any _).mono ?_
        rintro e w1 ⟨rfl, ⟨m, rfl⟩⟩
        go_wp2_with fail
        go_quiet (fail)
        go_wp2_with fail
        refine (may_any a b _).mono ?_
        rintro e w4 ⟨rfl, rfl⟩
        rw [HS.out]
        go_wp2_with fail
        refine (may_any c d _).mono ?_
        rintro e w4 ⟨rfl, rfl⟩
        rw [HT.out]
        by_cases q : d ≤ a
        · have q2 : ¬ b ≤ c := by omega
          clear hd
          go_wp2_with fail
          refine (put_any x a b v _ h0 H1.out h2).mono ?_
          rintro e w5 ⟨rfl, d1⟩
          go_wp2_with fail
          refine (put_any _ c d _ _ P1.out.1 P1.out.2 Y.out).mono ?_
          rintro e w6 ⟨rfl, d2⟩
          go_wp2_with fail
          refine (put_any x c d _ _ h0 H1.out Y.out).mono ?_
          rintro e w7 ⟨rfl, d3⟩
          go_wp2_with fail
          refine (put_any _ a b v _ (P2.out _).1 (P2.out _).2 h2).mono ?_
          rintro e w8 ⟨rfl, d4⟩
          rw [E.out]
          go_wp2_with fail
          refine (get_any _ a b _ (P3.out _).1 (P3.out _).2).mono ?_
          rintro e w9 ⟨rfl, d5⟩
          rw [G.out]
          go_wp2_with fail
          refine (get_any v (a - b) 0 _ h2 H3.out).mono ?_
          rintro e w10 ⟨rfl, d6⟩
          go_wp2
          go_ret
          exact ⟨ret_bool (by simp), beside_down d1 d2 d3 d4 d5 d6⟩
        · clear hd
          go_wp2_with fail
          refine (put_any x a b v _ h0 H1.out h2).mono ?_
          rintro e w5 ⟨rfl, d1⟩
          go_wp2_with fail
          refine (put_any _ c d _ _ P1.out.1 P1.out.2 Y.out).mono ?_
          rintro e w6 ⟨rfl, d2⟩
          go_wp2_with fail
          refine (put_any x c d _ _ h0 H1.out Y.out).mono ?_
          rintro e w7 ⟨rfl, d3⟩
          go_wp2_with fail
          refine (put_any _ a b v _ (P2.out _).1 (P2.out _).2 h2).mono ?_
          rintro e w8 ⟨rfl, d4⟩
          rw [E.out]
          go_wp2_with fail
          refine (get_any _ a b _ (P3.out _).1 (P3.out _).2).mono ?_
          rintro e w9 ⟨rfl, d5⟩
          rw [G.out]
          go_wp2_with fail
          refine (get_any v (a - b) 0 _ h2 H3.out).mono ?_
          rintro e w10 ⟨rfl, d6⟩
          go_wp2
          go_ret
          exact ⟨ret_bool (by simp), beside_down d1 d2 d3 d4 d5 d6⟩
    · have ht' : GrF.spanB c d = false := by simpa using ht
      have HS := Lib.hid hs
      have HT := Lib.hid ht'
      clear hs ht ht'
      go_enter Try.func9, Try.ntmps9
      go_wp2_with fail
      refine (awake_any _).mono ?_
      rintro e w1 ⟨rfl, ⟨m, rfl⟩⟩
      go_wp2_with fail
      go_quiet (fail)
      go_wp2_with fail
      refine (may_any a b _).mono ?_
      rintro e w4 ⟨rfl, rfl⟩
      rw [HS.out]
      go_wp2_with fail
      refine (may_any c d _).mono ?_
      rintro e w4 ⟨rfl, rfl⟩
      rw [HT.out]
      go_wp2
      go_ret
      exact ⟨rfl, D0.trans (((Drew.refl _).drewN _).below _)⟩
  · have hs' : GrF.spanB a b = false := by simpa using hs
    have HS := Lib.hid hs'
    clear hs hs'
    go_enter Try.func9, Try.ntmps9
    go_wp2_with fail
    refine (awake_any _).mono ?_
    rintro e w1 ⟨rfl, ⟨m, rfl⟩⟩
    go_wp2_with fail
    go_quiet (fail)
    go_wp2_with fail
    refine (may_any a b _).mono ?_
    rintro e w4 ⟨rfl, rfl⟩
    rw [HS.out]
    go_wp2
    go_ret
    exact ⟨rfl, D0.trans (((Drew.refl _).drewN _).below _)⟩

end Go.Proofs.Ytoeihlfngplbdaa
