/-
  Layer 1, the walks: Union, Inter, Minus, Then, Closure.
-/
import Derived.Test.YtjgfnemdklljmaaAf
set_option linter.unusedSimpArgs false
set_option linter.unusedVariables false
namespace GrR
open Go
/-- Warshall's round y, the rows below x done -/
def midW (y x : Nat) (T : Mx) : Mx := fun i j => if i < x then stepW y T i j else T i j
theorem midW_y (y x : Nat) (T : Mx) (j : Nat) : midW y x T y j = T y j := by
  unfold midW stepW
  split
  · cases T y y <;> cases T y j <;> rfl
  · rfl
theorem midW_x (y x : Nat) (T : Mx) (j : Nat) : midW y x T x j = T x j := by
  unfold midW
  rw [if_neg (by omega)]
theorem midW_no {y x : Nat} {T : Mx} (h : T x y = false) (i j : Nat) : midW y (x + 1) T i j = midW y x T i j := by
  unfold midW stepW
  by_cases c : i = x
  · subst c; rw [if_pos (by omega), if_neg (by omega), h]; simp
  · by_cases c2 : i < x
    · rw [if_pos c2, if_pos (by omega)]
    · rw [if_neg c2, if_neg (by omega)]
theorem midW_yes {y x : Nat} {T : Mx} (h : T x y = true) (i j : Nat) : rowM (midW y x T) x (fun j => T x j || T y j) i j = midW y (x + 1) T i j := by
  unfold rowM midW stepW
  by_cases c : i = x
  · subst c; rw [if_pos rfl, if_pos (by omega), h]; simp
  · by_cases c2 : i < x
    · rw [if_neg c, if_pos c2, if_pos (by omega)]
    · rw [if_neg c, if_neg c2, if_neg (by omega)]
/-- what Then has made of the rows below x, and of row x by the things below y -/
def midT (n : Nat) (A B : Mx) (x y : Nat) : Mx := fun i j => if i < x then thenM n A B i j else if i = x then (List.range y).any fun k => A i k && B k j else false
theorem midT_no {n : Nat} {A B : Mx} {x y : Nat} (h : A x y = false) (i j : Nat) : midT n A B x (y + 1) i j = midT n A B x y i j := by
  unfold midT
  by_cases c : i = x
  · subst c
    rw [if_neg (by omega), if_pos rfl, if_neg (by omega), if_pos rfl, List.range_succ, List.any_append]
    simp [h]
  · by_cases c2 : i < x
    · rw [if_pos c2, if_pos c2]
    · rw [if_neg c2, if_neg c2, if_neg c, if_neg c]
theorem midT_yes {n : Nat} {A B : Mx} {x y : Nat} (h : A x y = true) (i j : Nat) : rowM (midT n A B x y) x (fun j => midT n A B x y x j || B y j) i j = midT n A B x (y + 1) i j := by
  unfold rowM midT
  dsimp only
  by_cases c : i = x
  · subst c
    rw [if_pos rfl, if_neg (by omega), if_pos rfl, if_neg (by omega), if_pos rfl, List.range_succ, List.any_append]
    simp [h]
  · by_cases c2 : i < x
    · rw [if_neg c, if_pos c2, if_pos c2]
    · rw [if_neg c, if_neg c2, if_neg c2, if_neg c, if_neg c]
theorem midT_next {n : Nat} {A B : Mx} {x : Nat} (i j : Nat) : midT n A B x n i j = midT n A B (x + 1) 0 i j := by
  unfold midT
  by_cases c : i = x
  · subst c
    rw [if_neg (by omega), if_pos rfl, if_pos (by omega)]
    rfl
  · by_cases c2 : i < x
    · rw [if_pos c2, if_pos (by omega)]
    · rw [if_neg c2, if_neg c, if_neg (by omega)]
      simp
theorem midT_end {n : Nat} {A B : Mx} (s : Sup n A) (i j : Nat) : midT n A B n 0 i j = thenM n A B i j := by
  unfold midT
  by_cases c : i < n
  · rw [if_pos c]
  · rw [if_neg c]
    have : thenM n A B i j = false := by
      cases e : thenM n A B i j with
      | false => rfl
      | true =>
        obtain ⟨k, _, e1, _⟩ := thenM_iff.1 e
        exact absurd (s _ _ e1).1 c
    rw [this]
    simp
end GrR
namespace Go.Proofs.Ytjgfnemdklljmaa
open Go.RowKit GrR

set_option maxRecDepth 100000 in
set_option maxHeartbeats 1600000 in
theorem Union_any (A B n : Nat) (TA TB : Mx) (w : World) (hA : RelAt w A n TA) (hB : RelAt w B n TB) :
    Calls Try.prog 27 #[.pointer (some ⟨A, 0, none⟩), .pointer (some ⟨B, 0, none⟩)] w fun e w' => ∃ O, w.heap.size ≤ O ∧ e = .returned (.tuple #[.pointer (some ⟨O, 0, none⟩), .int .i64 0]) ∧ RelAt w' O n (unionM TA TB) ∧ Below w.heap.size w w' := by
  have MO := Lib.hid (merge_or A B n TA TB w hA hB)
  clear hA hB
  go_enter Try.func27, Try.ntmps27
  go_wp2_with fail
  refine MO.out.mono ?_
  rintro e w1 ⟨O, h1, rfl, h2, h3⟩
  have H1 := Lib.hid h1
  have H2 := Lib.hid h2
  have H3 := Lib.hid h3
  clear h1 h2 h3
  go_wp2
  exact bodyPost_ret (v := .tuple #[.pointer (some ⟨O, 0, none⟩), .int .i64 0]) (by simp [results, Try.results27, go_sem]) rfl ⟨O, H1.out, rfl, H2.out, H3.out⟩

set_option maxRecDepth 100000 in
set_option maxHeartbeats 1600000 in
theorem Inter_any (A B n : Nat) (TA TB : Mx) (w : World) (hA : RelAt w A n TA) (hB : RelAt w B n TB) :
    Calls Try.prog 28 #[.pointer (some ⟨A, 0, none⟩), .pointer (some ⟨B, 0, none⟩)] w fun e w' => ∃ O, w.heap.size ≤ O ∧ e = .returned (.tuple #[.pointer (some ⟨O, 0, none⟩), .int .i64 0]) ∧ RelAt w' O n (interM TA TB) ∧ Below w.heap.size w w' := by
  have MO := Lib.hid (merge_and A B n TA TB w hA hB)
  clear hA hB
  go_enter Try.func28, Try.ntmps28
  go_wp2_with fail
  refine MO.out.mono ?_
  rintro e w1 ⟨O, h1, rfl, h2, h3⟩
  have H1 := Lib.hid h1
  have H2 := Lib.hid h2
  have H3 := Lib.hid h3
  clear h1 h2 h3
  go_wp2
  exact bodyPost_ret (v := .tuple #[.pointer (some ⟨O, 0, none⟩), .int .i64 0]) (by simp [results, Try.results28, go_sem]) rfl ⟨O, H1.out, rfl, H2.out, H3.out⟩

set_option maxRecDepth 100000 in
set_option maxHeartbeats 1600000 in
theorem Minus_any (A B n : Nat) (TA TB : Mx) (w : World) (hA : RelAt w A n TA) (hB : RelAt w B n TB) :
    Calls Try.prog 29 #[.pointer (some ⟨A, 0, none⟩), .pointer (some ⟨B, 0, none⟩)] w fun e w' => ∃ O, w.heap.size ≤ O ∧ e = .returned (.tuple #[.pointer (some ⟨O, 0, none⟩), .int .i64 0]) ∧ RelAt w' O n (minusM TA TB) ∧ Below w.heap.size w w' := by
  have MO := Lib.hid (merge_not A B n TA TB w hA hB)
  clear hA hB
  go_enter Try.func29, Try.ntmps29
  go_wp2_with fail
  refine MO.out.mono ?_
  rintro e w1 ⟨O, h1, rfl, h2, h3⟩
  have H1 := Lib.hid h1
  have H2 := Lib.hid h2
  have H3 := Lib.hid h3
  clear h1 h2 h3
  go_wp2
  exact bodyPost_ret (v := .tuple #[.pointer (some ⟨O, 0, none⟩), .int .i64 0]) (by simp [results, Try.results29, go_sem]) rfl ⟨O, H1.out, rfl, H2.out, H3.out⟩

set_option maxRecDepth 100000 in
set_option maxHeartbeats 1600000 in
theorem merge_no (A B n m : Nat) (TA TB : Mx) (w : World) (v : Value) (hn : n ≠ m) (hA : RelAt w A n TA) (hB : RelAt w B m TB) :
    Calls Try.prog 54 #[.pointer (some ⟨A, 0, none⟩), .pointer (some ⟨B, 0, none⟩), v] w fun e w' => e = .returned (.tuple #[.pointer none, .int .i64 10]) ∧ Below w.heap.size w w' := by
  have cA := hA.size'
  have cB := hB.size'
  have cn : ((n : Int) != (m : Int)) = true := by simp; omega
  clear hA hB
  go_enter Try.func54, Try.ntmps54
  go_upto_region 1 with fail
  refine wp_region_wb (by kernel_rfl) (by kernel_rfl) ?_
  repeat (go_big_quiet_step (fail))
  refine wpQuiet_nil ?_
  rintro _ ⟨z1, rfl⟩
  have BB := Lib.hid z1.bel
  clear cA cB cn
  go_wp2
  exact bodyPost_ret (v := .tuple #[.pointer none, .int .i64 10]) (by simp [results, Try.results54, go_sem]) rfl ⟨rfl, BB.out⟩
set_option maxRecDepth 100000 in
set_option maxHeartbeats 1600000 in
theorem Union_no (A B n m : Nat) (TA TB : Mx) (w : World) (hn : n ≠ m) (hA : RelAt w A n TA) (hB : RelAt w B m TB) :
    Calls Try.prog 27 #[.pointer (some ⟨A, 0, none⟩), .pointer (some ⟨B, 0, none⟩)] w fun e w' => e = .returned (.tuple #[.pointer none, .int .i64 10]) ∧ Below w.heap.size w w' := by
  have MO := Lib.hid (fun v => merge_no A B n m TA TB w v hn hA hB)
  clear hA hB
  go_enter Try.func27, Try.ntmps27
  go_wp2_with fail
  refine (MO.out _).mono ?_
  rintro e w1 ⟨rfl, h3⟩
  have H3 := Lib.hid h3
  clear h3
  go_wp2
  exact bodyPost_ret (v := .tuple #[.pointer none, .int .i64 10]) (by simp [results, Try.results27, go_sem]) rfl ⟨rfl, H3.out⟩
set_option maxRecDepth 100000 in
set_option maxHeartbeats 1600000 in
theorem then_no (A B n m : Nat) (TA TB : Mx) (w : World) (hn : n ≠ m) (hA : RelAt w A n TA) (hB : RelAt w B m TB) :
    Calls Try.prog 32 #[.pointer (some ⟨A, 0, none⟩), .pointer (some ⟨B, 0, none⟩)] w fun e w' => e = .returned (.tuple #[.pointer none, .int .i64 10]) ∧ Below w.heap.size w w' := by
  have cA := hA.size'
  have cB := hB.size'
  have cn : ((n : Int) != (m : Int)) = true := by simp; omega
  clear hA hB
  go_enter Try.func32, Try.ntmps32
  go_upto_region 1 with fail
  refine wp_region_wb (by kernel_rfl) (by kernel_rfl) ?_
  repeat (go_big_quiet_step (fail))
  refine wpQuiet_nil ?_
  rintro _ ⟨z1, rfl⟩
  have BB := Lib.hid z1.bel
  clear cA cB cn
  go_wp2
  exact bodyPost_ret (v := .tuple #[.pointer none, .int .i64 10]) (by simp [results, Try.results32, go_sem]) rfl ⟨rfl, BB.out⟩

set_option maxRecDepth 100000 in
set_option maxHeartbeats 3200000 in
theorem then_any (A B n : Nat) (TA TB : Mx) (w : World) (hA : RelAt w A n TA) (hB : RelAt w B n TB) :
    Calls Try.prog 32 #[.pointer (some ⟨A, 0, none⟩), .pointer (some ⟨B, 0, none⟩)] w fun e w' => ∃ O, w.heap.size ≤ O ∧ e = .returned (.tuple #[.pointer (some ⟨O, 0, none⟩), .int .i64 0]) ∧ RelAt w' O n (thenM n TA TB) ∧ Below w.heap.size w w' := by
  have HA := Lib.hid hA
  have HB := Lib.hid hB
  have M := Lib.hid hA.most
  have cA := hA.size'
  have cB := hB.size'
  have cn : ((n : Int) != (n : Int)) = false := by simp
  clear hA hB
  go_enter Try.func32, Try.ntmps32
  go_upto_region 1 with fail
  refine wp_region_wb (by kernel_rfl) (by kernel_rfl) ?_
  repeat (go_big_quiet_step (fail))
  refine wpQuiet_nil ?_
  rintro _ ⟨z1, rfl⟩
  have c0 := cA z1
  clear cA cB cn
  have RN := Lib.hid (RelAt.new z1.at n M.out)
  have BN := Lib.hid (show Below w.heap.size w (z1.at.alloc (.cells ((Try.zeroCells67 : Array Value).setIfInBounds 0 (.int .i64 n)) 67)) from KB.alloc z1.bel _)
  have OW := Lib.hid z1.size
  go_upto_region 4 with fail
  clear c0
  refine to_cls ?_
  intro U0 hU0 z0
  have R0 := Lib.hid ((RN.out.below hU0).below z0.bel)
  have B0 := Lib.hid (KB.next BN.out hU0 z0)
  have c0 := (HA.out.below B0.out).size
  clear hU0 RN BN
  obtain ⟨O, hO⟩ : ∃ O, O = z1.at.heap.size := ⟨_, rfl⟩
  rw [← hO] at R0 OW
  simp only [← hO]
  clear hO
  go_upto_region 5 with fail
  clear c0
  go_loopw [7, 8, 36] (fun _ _ i wr => ∃ k : Nat, k ≤ n ∧ i = .int .i64 (k : Int) ∧ RelAt wr O n (midT n TA TB k 0) ∧ Below w.heap.size w wr) (fun _ _ i _ => n - (intOf i).toNat)
  case atStart => exact ⟨0, by omega, rfl, R0.out.eqT (fun i j => by simp [emptyM, midT]), B0.out⟩
  case round =>
    clear R0 B0
    obtain ⟨k, hk, rfl, hr, hb⟩ := hrel
    have HR := Lib.hid hr
    have HW := Lib.hid hb
    clear hr hb
    by_cases ck : k < n
    · have k1 : (k : Int) < (n : Int) := by omega
      have k0 : (0 : Int) ≤ (k : Int) := by omega
      have k2 : (k : Int) < 128 := by have := M.out; omega
      have c0 := (HA.out.below HW.out).size
      go_upto_region 8 with fail
      clear c0
      go_loopw [8, 43] (fun _ i wr => ∃ m : Nat, m ≤ n ∧ i = .int .i64 (m : Int) ∧ RelAt wr O n (midT n TA TB k m) ∧ Below w.heap.size w wr) (fun _ i _ => n - (intOf i).toNat)
      case atStart => exact ⟨0, by omega, rfl, HR.out, HW.out⟩
      case round =>
        clear HR HW
        obtain ⟨m, hm, rfl, hr, hb⟩ := hrel
        have HR := Lib.hid hr
        have HW := Lib.hid hb
        have fz := hr.free
        clear hr hb
        by_cases cm : m < n
        · have m1 : (m : Int) < (n : Int) := by omega
          have m0 : (0 : Int) ≤ (m : Int) := by omega
          have m2 : (m : Int) < 128 := by have := M.out; omega
          have BA := Lib.hid (bit_any A n TA k m wr (HA.out.below HW.out) (by omega) (by omega))
          cases c : TA k m with
          | false =>
            rw [c] at BA
            go_wp2_with (go_at_call 51; refine BA.out.mono ?_; rintro e w1 ⟨rfl, rfl⟩)
            go_roundw
            case rel => exact ⟨m + 1, by omega, by go_num, HR.out.eqT (fun i j => (midT_no c i j).symm), HW.out⟩
            case measure => simp [intOf]; omega
          | true =>
            rw [c] at BA
            obtain ⟨p, q, r1, g1⟩ := HR.out.row2 k (by omega)
            obtain ⟨r, s, r2, g2⟩ := HB.out.row2 m (by omega)
            have E := Lib.hid (r1.or r2)
            have a0 : ∀ z : Wb wr, z.at.cell? ⟨O, 1 + k * 2, none⟩ = some (.int .u64 (p : Int)) := fun z => (g1 _ z.bel).1
            have a1 : ∀ z : Wb wr, z.at.cell? ⟨O, 1 + k * 2 + 1, none⟩ = some (.int .u64 (q : Int)) := fun z => (g1 _ z.bel).2
            have b0 : ∀ z : Wb wr, z.at.cell? ⟨B, 1 + m * 2, none⟩ = some (.int .u64 (r : Int)) := fun z => (g2 _ (KB.at HW.out z)).1
            have b1 : ∀ z : Wb wr, z.at.cell? ⟨B, 1 + m * 2 + 1, none⟩ = some (.int .u64 (s : Int)) := fun z => (g2 _ (KB.at HW.out z)).2
            have CC := Lib.hid (fun w => with_or p q r s w r1.b0 r1.b1 r2.b0 r2.b1)
            obtain ⟨v0, hv0⟩ : ∃ v, v = w_or p r := ⟨_, rfl⟩
            obtain ⟨v1, hv1⟩ : ∃ v, v = w_or q s := ⟨_, rfl⟩
            rw [← hv0, ← hv1] at E CC
            clear r1 r2 g1 g2 hv0 hv1
            go_upto_region 11 with (go_at_call 51; refine BA.out.mono ?_; rintro e w1 ⟨rfl, rfl⟩)
            refine wp_region_wb_tail 18 (by kernel_rfl) (by kernel_rfl) ?_
            simp only [List.take_succ_cons, List.take_zero, List.drop_succ_cons, List.drop_zero]
            repeat (go_big_quiet_step ((go_at_call 58; with_reducible exact Calls.wb (x := _) (CC.out _))))
            refine wpQuiet_nil ?_
            rintro _ ⟨x1, rfl⟩
            clear b0 b1 CC
            go_wp2_with fail
            have R3 := Lib.hid (((HR.out.below x1.bel).setrow (t := fun j => midT n TA TB k m k j || TB m j) ck (fun j e => by
              simp only [Bool.or_eq_true] at e
              rcases e with e | e
              · exact (HR.out.sup k j e).2
              · exact (HB.out.sup m j e).2) E.out).eqT (fun i j => midT_yes c i j))
            have B3 := Lib.hid (KB.put (KB.put (KB.at HW.out x1) OW.out (1 + k * 2) (.int .u64 (v0 : Nat))) OW.out (1 + k * 2 + 1) (.int .u64 (v1 : Nat)))
            go_roundw
            case rel => exact ⟨m + 1, by omega, by go_num, R3.out, B3.out⟩
            case measure => simp [intOf]; omega
        · obtain rfl : m = n := by omega
          have i2 : ¬ (m : Int) < (m : Int) := by omega
          clear fz
          go_wp2_with fail
          go_roundw
          case rel => exact ⟨k + 1, by omega, by go_num, HR.out.eqT (fun i j => midT_next i j), HW.out⟩
          case measure => simp [intOf]; omega
    · obtain rfl : k = n := by omega
      have i2 : ¬ (k : Int) < (k : Int) := by omega
      have S := Lib.hid HA.out.sup
      go_wp2
      exact bodyPost_ret (v := .tuple #[.pointer (some ⟨O, 0, none⟩), .int .i64 0]) (by simp [results, Try.results32, go_sem]) rfl ⟨O, OW.out, rfl, HR.out.eqT (fun i j => midT_end S.out i j), HW.out⟩

set_option maxRecDepth 100000 in
set_option maxHeartbeats 3200000 in
theorem closure_any (A n : Nat) (T : Mx) (w : World) (hA : RelAt w A n T) :
    Calls Try.prog 36 #[.pointer (some ⟨A, 0, none⟩)] w fun e w' => e = .returned (.pointer (some ⟨w.heap.size, 0, none⟩)) ∧ RelAt w' w.heap.size n (wars T n) ∧ Below w.heap.size w w' := by
  have M := Lib.hid hA.most
  have CP := Lib.hid (copy_any A n T w hA)
  have SZ := Lib.hid (fun w h => size_any w.heap.size n T w h)
  have SY := Lib.hid (fun B w h => size_any B n T w h)
  clear hA
  go_enter Try.func36, Try.ntmps36
  go_wp2_with fail
  refine CP.out.mono ?_
  rintro e w1 ⟨rfl, h2, h3⟩
  have R0 := Lib.hid h2
  have B0 := Lib.hid h3
  clear h2 h3 CP
  go_wp2_with fail
  refine (SY.out _ w1 R0.out).mono ?_
  rintro e w2 ⟨rfl, rfl⟩
  go_wp2_with fail
  go_loopw [4, 5, 10] (fun _ _ i wr => ∃ k : Nat, k ≤ n ∧ i = .int .i64 (k : Int) ∧ RelAt wr w.heap.size n (wars T k) ∧ Below w.heap.size w wr) (fun _ _ i _ => n - (intOf i).toNat)
  case atStart => exact ⟨0, by omega, rfl, R0.out, B0.out⟩
  case round =>
    clear R0 B0
    obtain ⟨k, hk, rfl, hr, hb⟩ := hrel
    have HR := Lib.hid hr
    have HW := Lib.hid hb
    clear hr hb
    by_cases ck : k < n
    · have k1 : (k : Int) < (n : Int) := by omega
      have k0 : (0 : Int) ≤ (k : Int) := by omega
      have k2 : (k : Int) < 128 := by have := M.out; omega
      have c0 := HR.out.size
      obtain ⟨TK, hTK⟩ : ∃ TK, TK = wars T k := ⟨_, rfl⟩
      have TS := Lib.hid (show wars T (k + 1) = stepW k TK by rw [hTK]; rfl)
      rw [← hTK] at HR
      clear hTK
      go_upto_region 6 with fail
      clear c0
      go_loopw [5, 17] (fun _ i wr => ∃ m : Nat, m ≤ n ∧ i = .int .i64 (m : Int) ∧ RelAt wr w.heap.size n (midW k m TK) ∧ Below w.heap.size w wr) (fun _ i _ => n - (intOf i).toNat)
      case atStart => exact ⟨0, by omega, rfl, HR.out.eqT (fun i j => by simp [midW]), HW.out⟩
      case round =>
        clear HR HW
        obtain ⟨m, hm, rfl, hr, hb⟩ := hrel
        have HR := Lib.hid hr
        have HW := Lib.hid hb
        have fz := hr.free
        clear hr hb
        by_cases cm : m < n
        · have m1 : (m : Int) < (n : Int) := by omega
          have m0 : (0 : Int) ≤ (m : Int) := by omega
          have m2 : (m : Int) < 128 := by have := M.out; omega
          have BA := Lib.hid (bit_any w.heap.size n _ m k wr HR.out (by omega) (by omega))
          rw [midW_x] at BA
          cases c : TK m k with
          | false =>
            rw [c] at BA
            go_wp2_with (go_at_call 51; refine BA.out.mono ?_; rintro e w1 ⟨rfl, rfl⟩)
            go_roundw
            case rel => exact ⟨m + 1, by omega, by go_num, HR.out.eqT (fun i j => (midW_no c i j).symm), HW.out⟩
            case measure => simp [intOf]; omega
          | true =>
            rw [c] at BA
            obtain ⟨p, q, r1, g1⟩ := HR.out.row2 m (by omega)
            obtain ⟨r, s, r2, g2⟩ := HR.out.row2 k (by omega)
            have r1' : RowW p q (TK m) := by have : midW k m TK m = TK m := by { funext j; exact midW_x k m TK j }; exact this ▸ r1
            have r2' : RowW r s (TK k) := by have : midW k m TK k = TK k := by { funext j; exact midW_y k m TK j }; exact this ▸ r2
            have E := Lib.hid (r1'.or r2')
            have SP := Lib.hid (show ∀ j, (TK m j || TK k j) = true → j < n from fun j e => by
              simp only [Bool.or_eq_true] at e
              rcases e with e | e
              · exact (HR.out.sup m j (by rw [midW_x]; exact e)).2
              · exact (HR.out.sup k j (by rw [midW_y]; exact e)).2)
            have a0 : ∀ z : Wb wr, z.at.cell? ⟨w.heap.size, 1 + m * 2, none⟩ = some (.int .u64 (p : Int)) := fun z => (g1 _ z.bel).1
            have a1 : ∀ z : Wb wr, z.at.cell? ⟨w.heap.size, 1 + m * 2 + 1, none⟩ = some (.int .u64 (q : Int)) := fun z => (g1 _ z.bel).2
            have b0 : ∀ z : Wb wr, z.at.cell? ⟨w.heap.size, 1 + k * 2, none⟩ = some (.int .u64 (r : Int)) := fun z => (g2 _ z.bel).1
            have b1 : ∀ z : Wb wr, z.at.cell? ⟨w.heap.size, 1 + k * 2 + 1, none⟩ = some (.int .u64 (s : Int)) := fun z => (g2 _ z.bel).2
            have CC := Lib.hid (fun w => with_or p q r s w r1.b0 r1.b1 r2.b0 r2.b1)
            obtain ⟨v0, hv0⟩ : ∃ v, v = w_or p r := ⟨_, rfl⟩
            obtain ⟨v1, hv1⟩ : ∃ v, v = w_or q s := ⟨_, rfl⟩
            rw [← hv0, ← hv1] at E CC
            clear r1 r2 r1' r2' g1 g2 hv0 hv1
            go_upto_region 9 with (go_at_call 51; refine BA.out.mono ?_; rintro e w1 ⟨rfl, rfl⟩)
            refine wp_region_wb_tail 18 (by kernel_rfl) (by kernel_rfl) ?_
            simp only [List.take_succ_cons, List.take_zero, List.drop_succ_cons, List.drop_zero]
            repeat (go_big_quiet_step ((go_at_call 58; with_reducible exact Calls.wb (x := _) (CC.out _))))
            refine wpQuiet_nil ?_
            rintro _ ⟨x1, rfl⟩
            clear b0 b1 CC
            go_wp2_with fail
            have R3 := Lib.hid (((HR.out.below x1.bel).setrow cm SP.out E.out).eqT (fun i j => midW_yes c i j))
            have B3 := Lib.hid (KB.put (KB.put (KB.at HW.out x1) (Nat.le_refl _) (1 + m * 2) (.int .u64 (v0 : Nat))) (Nat.le_refl _) (1 + m * 2 + 1) (.int .u64 (v1 : Nat)))
            go_roundw
            case rel => exact ⟨m + 1, by omega, by go_num, R3.out, B3.out⟩
            case measure => simp [intOf]; omega
        · obtain rfl : m = n := by omega
          have i2 : ¬ (m : Int) < (m : Int) := by omega
          clear fz
          have S := Lib.hid (show ∀ i j, midW k m TK i j = wars T (k + 1) i j from fun i j => by
            rw [TS.out]
            unfold midW
            by_cases c : i < m
            · rw [if_pos c]
            · rw [if_neg c]
              have SU := HR.out.sup
              have z : ∀ j, TK i j = false := fun j => by
                cases e : TK i j with
                | false => rfl
                | true => exact absurd (SU i j (by unfold midW; rw [if_neg c]; exact e)).1 c
              unfold stepW
              rw [z, z]
              rfl)
          go_wp2_with fail
          go_roundw
          case rel => exact ⟨k + 1, by omega, by go_num, HR.out.eqT S.out, HW.out⟩
          case measure => simp [intOf]; omega
    · obtain rfl : k = n := by omega
      have i2 : ¬ (k : Int) < (k : Int) := by omega
      go_wp2
      go_ret
      exact ⟨rfl, HR.out, HW.out⟩
end Go.Proofs.Ytjgfnemdklljmaa
