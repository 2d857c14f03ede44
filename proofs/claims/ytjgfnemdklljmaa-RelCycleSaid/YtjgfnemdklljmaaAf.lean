/-
  Layer 1, the walks: Inverse, Same, Union, Inter, Minus, Then, Closure.
-/
import Derived.Test.YtjgfnemdklljmaaAe
import Derived.ChangeKeysEq
set_option linter.unusedSimpArgs false
set_option linter.unusedVariables false
namespace GrR
open Go
def sameB (n : Nat) (T U : Mx) : Bool := (List.range n).all fun i => (List.range 128).all fun j => T i j == U i j
theorem sameB_iff {n : Nat} {T U : Mx} : sameB n T U = true ↔ ∀ i, i < n → ∀ j, j < 128 → T i j = U i j := by
  simp only [sameB, List.all_eq_true, List.mem_range, beq_iff_eq]
theorem sameB_no {n : Nat} {T U : Mx} (h : ¬ ∀ i, i < n → ∀ j, j < 128 → T i j = U i j) : sameB n T U = false := by
  cases c : sameB n T U
  · rfl
  · exact absurd (sameB_iff.1 c) h
def minM (T U : Mx) : Mx := fun i j => T i j && !U i j
end GrR
namespace Go.Proofs.Ytjgfnemdklljmaa
open Go.RowKit GrR

theorem RelAt.row2 {w : World} {B n : Nat} {T : Mx} (h : RelAt w B n T) (a : Nat) (ha : a < 128) : ∃ p q, RowW p q (T a) ∧ ∀ U, Below w.heap.size w U → U.cell? ⟨B, 1 + a * 2, none⟩ = some (.int .u64 (p : Nat)) ∧ U.cell? ⟨B, 1 + a * 2 + 1, none⟩ = some (.int .u64 (q : Nat)) := by
  obtain ⟨X, h1, h2⟩ := h
  refine ⟨_, _, h2.rowW a ha, fun U k => ⟨relC_word U (h1.below k) h2.len (a * 2) (by omega), ?_⟩⟩
  rw [Nat.add_assoc]
  exact relC_word U (h1.below k) h2.len (a * 2 + 1) (by omega)
theorem RelAt.setrow {w : World} {B n : Nat} {T : Mx} (h : RelAt w B n T) {a p q : Nat} {t : Nat → Bool} (ha : a < n) (ht : ∀ j, t j = true → j < n) (k : RowW p q t) :
    RelAt ((w.setCell ⟨B, 1 + a * 2, none⟩ (.int .u64 (p : Nat))).setCell ⟨B, 1 + a * 2 + 1, none⟩ (.int .u64 (q : Nat))) B n (rowM T a t) := by
  obtain ⟨X, h1, h2⟩ := h
  refine ⟨_, ?_, h2.row ha ht k⟩
  rw [← relC_row]
  exact (h1.set _ _).set _ _
theorem RelAt.free {w : World} {B n : Nat} {T : Mx} (h : RelAt w B n T) : ∀ (z : Wb w) (i : Nat), z.at.frozen? ⟨B, i, none⟩ = false := fun z i => by
  obtain ⟨X, h1, _⟩ := h
  exact (h1.at z).free i
theorem RelAt.oth2 {w : World} {B C n : Nat} {T : Mx} (h : RelAt w B n T) (hn : B ≠ C) (i j : Nat) (u v : Value) : RelAt ((w.setCell ⟨C, i, none⟩ u).setCell ⟨C, j, none⟩ v) B n T :=
  h.other ((OnlyB.set w _).trans (OnlyB.set _ _)) hn
theorem run_neq_arr2 {t e : TypeId} {k : IntKind} {i : TypeInfo} (ht : Try.prog.underlying t = some (.array 2 e)) (he : Try.prog.underlying e = some (.int k)) (hi : Try.prog.info? e = some i) (hc : Try.prog.cellsOf e = 1) (hp : Try.prog.plainKey e = true) (p q r s : Int) (w : World) :
    (binOp .neq t (.agg #[.int k p, .int k q]) (.agg #[.int k r, .int k s])).run Try.prog w = .ok (.bool (decide (¬(p = r ∧ q = s)))) w := by
  have e1 : decide (¬(p = r ∧ q = s)) = !((p == r) && (q == s)) := by
    rw [Bool.eq_iff_iff]
    simp
  have q0 : ∀ (x y : Int) (w : World), (part e #[.int k x, .int k y] 0).run Try.prog w = .ok (.int k x) w := fun x y w => run_part_plain w hp rfl
  have q1 : ∀ (x y : Int) (w : World), (part e #[.int k x, .int k y] 1).run Try.prog w = .ok (.int k y) w := fun x y w => run_part_plain w hp rfl
  rw [e1, run_neq_struct, show (10000 : Nat) = 9998 + 1 + 1 from rfl, run_equalIn_array w (9998 + 1) _ _ ht hi, hc]
  show (((Op.eqItems (9998 + 1) e 1 _ _ [0, 1]).run Try.prog w).andThen _) = _
  simp only [Op.eqItems, Sem.run_bind, Nat.zero_mul, Nat.one_mul, q0, q1, Result.andThen_ok, run_equalIn_int w 9998 e k k _ _ he]
  cases c0 : (p == r) <;> cases c1 : (q == s) <;> simp only [Bool.not_true, Bool.not_false, Bool.false_eq_true, if_false, if_true, Sem.run_bind, Sem.run_pure, q1, Result.andThen_ok, run_equalIn_int w 9998 e k k _ _ he, c1, Bool.and_true, Bool.and_false, Bool.true_and, Bool.false_and]
theorem run_neq_row (p q r s : Int) (w : World) : (binOp .neq 64 (.agg #[.int .u64 p, .int .u64 q]) (.agg #[.int .u64 r, .int .u64 s])).run Try.prog w = .ok (.bool (decide (¬(p = r ∧ q = s)))) w := by
  obtain ⟨i, hi⟩ : ∃ i, Try.prog.info? 62 = some i := by
    cases c : Try.prog.info? 62 with
    | some i => exact ⟨i, rfl⟩
    | none => exact absurd c (by decide +kernel)
  exact run_neq_arr2 Try.underlying64 Try.underlying62 hi (by kernel_rfl) (by kernel_rfl) p q r s w
theorem run_neq_rowN (p q r s : Nat) (w : World) : (binOp .neq 64 (.agg #[.int .u64 (p : Int), .int .u64 (q : Int)]) (.agg #[.int .u64 (r : Int), .int .u64 (s : Int)])).run Try.prog w = .ok (.bool (decide (¬(p = r ∧ q = s)))) w := by
  have : decide (¬((p : Int) = (r : Int) ∧ (q : Int) = (s : Int))) = decide (¬(p = r ∧ q = s)) := by
    rw [Bool.eq_iff_iff]
    simp only [decide_eq_true_eq]
    omega
  rw [run_neq_row, this]

set_option maxRecDepth 100000 in
set_option maxHeartbeats 3200000 in
theorem same_any (A B n m : Nat) (T U : Mx) (w : World) (h : RelAt w A n T) (k : RelAt w B m U) :
    Calls Try.prog 25 #[.pointer (some ⟨A, 0, none⟩), .pointer (some ⟨B, 0, none⟩)] w fun e w' => e = .returned (.bool (decide (n = m) && sameB n T U)) ∧ Below w.heap.size w w' := by
  have H := Lib.hid h
  have K := Lib.hid k
  have M := Lib.hid h.most
  have cA := h.size'
  have cB := k.size'
  clear h k
  go_enter Try.func25, Try.ntmps25
  go_upto_region 3 with fail
  by_cases cn : n = m
  · subst cn
    have cn : ((n : Int) != (n : Int)) = false := by simp
    refine wp_region_wb (by kernel_rfl) (by kernel_rfl) ?_
    repeat (go_big_quiet_step (fail))
    refine wpQuiet_nil ?_
    rintro _ ⟨z1, rfl⟩
    have c0 := cA z1
    have BB := Lib.hid z1.bel
    clear cA cB
    go_wp2_with fail
    go_loopw [28] (fun i wr => ∃ k : Nat, k ≤ n ∧ i = .int .i64 (k : Int) ∧ (∀ i, i < k → ∀ j, j < 128 → T i j = U i j) ∧ Below w.heap.size w wr) (fun i _ => n - (intOf i).toNat)
    case atStart => exact ⟨0, by omega, rfl, fun i hi => absurd hi (by omega), BB.out⟩
    case round =>
      obtain ⟨k, hk, rfl, ht, hb⟩ := hrel
      have HT := Lib.hid ht
      have HB := Lib.hid hb
      clear ht hb
      by_cases ck : k < n
      · have k1 : (k : Int) < (n : Int) := by omega
        have k0 : (0 : Int) ≤ (k : Int) := by omega
        have k2 : (k : Int) < 128 := by have := M.out; omega
        obtain ⟨p, q, r1, g1⟩ := H.out.row2 k (by omega)
        obtain ⟨r, s, r2, g2⟩ := K.out.row2 k (by omega)
        have E := Lib.hid (r1.eq r2)
        have a0 : ∀ z : Wb wr, z.at.cell? ⟨A, 1 + k * 2, none⟩ = some (.int .u64 (p : Int)) := fun z => (g1 _ (KB.at HB.out z)).1
        have a1 : ∀ z : Wb wr, z.at.cell? ⟨A, 1 + k * 2 + 1, none⟩ = some (.int .u64 (q : Int)) := fun z => (g1 _ (KB.at HB.out z)).2
        have b0 : ∀ z : Wb wr, z.at.cell? ⟨B, 1 + k * 2, none⟩ = some (.int .u64 (r : Int)) := fun z => (g2 _ (KB.at HB.out z)).1
        have b1 : ∀ z : Wb wr, z.at.cell? ⟨B, 1 + k * 2 + 1, none⟩ = some (.int .u64 (s : Int)) := fun z => (g2 _ (KB.at HB.out z)).2
        obtain ⟨b, hb⟩ : ∃ b, b = decide (¬(p = r ∧ q = s)) := ⟨_, rfl⟩
        have EQ : ∀ w, (binOp .neq 64 (.agg #[.int .u64 (p : Int), .int .u64 (q : Int)]) (.agg #[.int .u64 (r : Int), .int .u64 (s : Int)])).run Try.prog w = .ok (.bool b) w := fun w => by rw [run_neq_rowN, hb]
        have BT := Lib.hid (fun (kb : b = true) => show sameB n T U = false from sameB_no fun h => by
          rw [hb] at kb
          exact of_decide_eq_true kb (E.out.2 (h k ck)))
        have BF := Lib.hid (fun (kb : b = false) => show ∀ i, i < k + 1 → ∀ j, j < 128 → T i j = U i j from fun i hi j hj => by
          rw [hb] at kb
          by_cases e : i = k
          · subst e
            exact E.out.1 (Decidable.of_not_not (of_decide_eq_false kb)) j hj
          · exact HT.out i (by omega) j hj)
        clear r1 r2 g1 g2 hb
        go_wp2_with fail
        refine wp_region_wb (by kernel_rfl) (by kernel_rfl) ?_
        repeat (go_big_quiet_step (fail))
        refine wpQuiet_nil ?_
        rintro _ ⟨z2, rfl⟩
        have B3 := Lib.hid (KB.at HB.out z2)
        clear a0 a1 b0 b1 EQ
        cases b with
        | false =>
          go_wp2
          go_roundw
          case rel => exact ⟨k + 1, by omega, by go_num, BF.out (by first | rfl | trivial), B3.out⟩
          case measure => simp [intOf]; omega
        | true =>
          go_wp2
          go_ret
          exact ⟨(by rw [BT.out (by first | rfl | trivial)]; simp), B3.out⟩
      · obtain rfl : k = n := by omega
        have D := Lib.hid (show sameB k T U = true from sameB_iff.2 HT.out)
        have i2 : ¬ (k : Int) < (k : Int) := by omega
        go_wp2
        go_ret
        exact ⟨(by rw [D.out]; simp), HB.out⟩
  · have D := Lib.hid (show (decide (n = m) && sameB n T U) = false by simp [cn])
    have cn : ((n : Int) != (m : Int)) = true := by simp; omega
    refine wp_region_wb (by kernel_rfl) (by kernel_rfl) ?_
    repeat (go_big_quiet_step (fail))
    refine wpQuiet_nil ?_
    rintro _ ⟨z1, rfl⟩
    have BB := Lib.hid z1.bel
    clear cA cB
    go_wp2
    go_ret
    exact ⟨by rw [D.out]; rfl, BB.out⟩

set_option maxRecDepth 100000 in
set_option maxHeartbeats 3200000 in
theorem inv_any (B n : Nat) (T : Mx) (w : World) (h : RelAt w B n T) :
    Calls Try.prog 34 #[.pointer (some ⟨B, 0, none⟩)] w fun e w' => e = .returned (.pointer (some ⟨w.heap.size, 0, none⟩)) ∧ RelAt w' w.heap.size n (invM T) ∧ Below w.heap.size w w' := by
  have H := Lib.hid h
  have M := Lib.hid h.most
  have NE := Lib.hid (show B ≠ w.heap.size by have := h.lt; omega)
  have c0 := h.size
  have c1 := Lib.hid (fun (U : World) (k : Below w.heap.size w U) => (h.below k).size)
  have RN := Lib.hid (RelAt.new w n h.most)
  have BN := Lib.hid (show Below w.heap.size w (w.alloc (.cells ((Try.zeroCells67 : Array Value).setIfInBounds 0 (.int .i64 n)) 67)) from KB.alloc (Below.refl _ _) _)
  clear h
  go_enter Try.func34, Try.ntmps34
  go_upto_region 4 with fail
  clear c0
  refine to_cls ?_
  intro U0 hU0 z0
  have R0 := Lib.hid ((RN.out.below hU0).below z0.bel)
  have B0 := Lib.hid (KB.next BN.out hU0 z0)
  have c0 := c1.out _ B0.out
  clear hU0 RN BN
  go_upto_region 5 with fail
  clear c0
  go_loopw [4, 18] (fun _ i wr => ∃ k : Nat, k ≤ n ∧ i = .int .i64 (k : Int) ∧ RelAt wr w.heap.size n (fun i j => T j i && decide (j < k)) ∧ Below w.heap.size w wr) (fun _ i _ => n - (intOf i).toNat)
  case atStart => exact ⟨0, by omega, rfl, R0.out.eqT (fun i j => by simp [emptyM]), B0.out⟩
  case round =>
    clear R0 B0
    obtain ⟨k, hk, rfl, hr, hb⟩ := hrel
    have HR := Lib.hid hr
    have HB := Lib.hid hb
    clear hr hb
    by_cases ck : k < n
    · have k1 : (k : Int) < (n : Int) := by omega
      have k0 : (0 : Int) ≤ (k : Int) := by omega
      have k2 : (k : Int) < 128 := by have := M.out; omega
      have c0 := c1.out _ HB.out
      go_upto_region 8 with fail
      clear c0
      go_loopw [5, 25] (fun _ i wr => ∃ m : Nat, m ≤ n ∧ i = .int .i64 (m : Int) ∧ RelAt wr w.heap.size n (fun i j => T j i && (decide (j < k) || (j == k && decide (i < m)))) ∧ Below w.heap.size w wr) (fun _ i _ => n - (intOf i).toNat)
      case atStart => exact ⟨0, by omega, rfl, HR.out.eqT (fun i j => by simp), HB.out⟩
      case round =>
        clear HR HB
        obtain ⟨m, hm, rfl, hr, hb⟩ := hrel
        have HR := Lib.hid hr
        have HB := Lib.hid hb
        clear hr hb
        by_cases cm : m < n
        · have m1 : (m : Int) < (n : Int) := by omega
          have m0 : (0 : Int) ≤ (m : Int) := by omega
          have m2 : (m : Int) < 128 := by have := M.out; omega
          have BA := Lib.hid (bit_any B n T k m wr (H.out.below HB.out) (by omega) (by omega))
          have PA := Lib.hid (put_any w.heap.size n _ m k wr HR.out cm ck)
          cases c : T k m with
          | false =>
            rw [c] at BA
            go_wp2_with (go_at_call 51; refine BA.out.mono ?_; rintro e w1 ⟨rfl, rfl⟩)
            go_roundw
            case rel => exact ⟨m + 1, by omega, by go_num, HR.out.eqT (fun i j => by
              by_cases e : j = k
              · by_cases e2 : i = m
                · rw [e, e2, c]; simp
                · have : decide (i < m + 1) = decide (i < m) := by simp; omega
                  rw [this]
              · have : (j == k) = false := by simp [e]
                rw [this]; simp), HB.out⟩
            case measure => simp [intOf]; omega
          | true =>
            rw [c] at BA
            go_wp2_with (first | (go_at_call 51; refine BA.out.mono ?_; rintro e w1 ⟨rfl, rfl⟩) | (go_at_call 48; refine PA.out.mono ?_; rintro e w1 ⟨rfl, g1, g2⟩))
            have R3 := Lib.hid (g1.eqT (U := fun i j => T j i && (decide (j < k) || (j == k && decide (i < m + 1)))) (fun i j => by
              unfold addM
              by_cases e : j = k
              · by_cases e2 : i = m
                · rw [e, e2, c]; simp
                · have : decide (i < m + 1) = decide (i < m) := by simp; omega
                  have e3 : (i == m) = false := by simp [e2]
                  rw [this, e3]; simp
              · have : (j == k) = false := by simp [e]
                simp [this]))
            have B3 := Lib.hid (HB.out.trans (g2.below (Nat.le_refl _) HB.out.size))
            clear g1 g2
            go_roundw
            case rel => exact ⟨m + 1, by omega, by go_num, R3.out, B3.out⟩
            case measure => simp [intOf]; omega
        · obtain rfl : m = n := by omega
          have i2 : ¬ (m : Int) < (m : Int) := by omega
          have S := Lib.hid H.out.sup
          go_wp2_with fail
          go_roundw
          case rel => exact ⟨k + 1, by omega, by go_num, HR.out.eqT (fun i j => by
            cases c : T j i with
            | false => rfl
            | true =>
              have := S.out j i c
              have e : decide (i < m) = true := decide_eq_true this.2
              rw [e]
              simp only [Bool.true_and, Bool.and_true]
              rw [Bool.eq_iff_iff]
              simp only [Bool.or_eq_true, decide_eq_true_eq, beq_iff_eq]
              omega), HB.out⟩
          case measure => simp [intOf]; omega
    · obtain rfl : k = n := by omega
      have i2 : ¬ (k : Int) < (k : Int) := by omega
      have S := Lib.hid H.out.sup
      go_wp2
      go_ret
      exact ⟨rfl, HR.out.eqT (fun i j => by
        unfold invM
        cases c : T j i with
        | false => rfl
        | true => simp [(S.out j i c).1]), HB.out⟩

set_option maxRecDepth 100000 in
set_option maxHeartbeats 3200000 in
theorem merge_or (A B n : Nat) (TA TB : Mx) (w : World) (hA : RelAt w A n TA) (hB : RelAt w B n TB) :
    Calls Try.prog 54 #[.pointer (some ⟨A, 0, none⟩), .pointer (some ⟨B, 0, none⟩), .func (.func 55) #[] #[]] w fun e w' => ∃ O, w.heap.size ≤ O ∧ e = .returned (.tuple #[.pointer (some ⟨O, 0, none⟩), .int .i64 0]) ∧ RelAt w' O n (unionM TA TB) ∧ Below w.heap.size w w' := by
  have HA := Lib.hid hA
  have HB := Lib.hid hB
  have LT := Lib.hid (show A < w.heap.size ∧ B < w.heap.size from ⟨hA.lt, hB.lt⟩)
  have M := Lib.hid hA.most
  have cA := hA.size'
  have cB := hB.size'
  have cn : ((n : Int) != (n : Int)) = false := by simp
  clear hA hB
  go_enter Try.func54, Try.ntmps54
  go_upto_region 1 with fail
  refine wp_region_wb (by kernel_rfl) (by kernel_rfl) ?_
  repeat (go_big_quiet_step (fail))
  refine wpQuiet_nil ?_
  rintro _ ⟨z1, rfl⟩
  have c0 := cA z1
  clear cA cB cn
  have RN := Lib.hid (RelAt.new z1.at n M.out)
  have BN := Lib.hid (show Below w.heap.size w (z1.at.alloc (.cells ((Try.zeroCells67 : Array Value).setIfInBounds 0 (.int .i64 n)) 67)) from KB.alloc z1.bel _)
  have OW := Lib.hid z1.size
  go_upto_region 4 with fail
  clear c0
  refine to_cls ?_
  intro U0 hU0 z0
  have R0 := Lib.hid ((RN.out.below hU0).below z0.bel)
  have B0 := Lib.hid (KB.next BN.out hU0 z0)
  have c0 := (HA.out.below B0.out).size
  clear hU0 RN BN
  obtain ⟨O, hO⟩ : ∃ O, O = z1.at.heap.size := ⟨_, rfl⟩
  rw [← hO] at R0 OW
  simp only [← hO]
  clear hO
  go_upto_region 5 with fail
  clear c0
  go_loopw [9, 37] (fun _ i wr => ∃ k : Nat, k ≤ n ∧ i = .int .i64 (k : Int) ∧ RelAt wr O n (fun i j => decide (i < k) && (TA i j || TB i j)) ∧ Below w.heap.size w wr) (fun _ i _ => n - (intOf i).toNat)
  case atStart => exact ⟨0, by omega, rfl, R0.out.eqT (fun i j => by simp [emptyM]), B0.out⟩
  case round =>
    clear R0 B0
    obtain ⟨k, hk, rfl, hr, hb⟩ := hrel
    have HR := Lib.hid hr
    have HW := Lib.hid hb
    have fz := hr.free
    clear hr hb
    by_cases ck : k < n
    · have k1 : (k : Int) < (n : Int) := by omega
      have k0 : (0 : Int) ≤ (k : Int) := by omega
      have k2 : (k : Int) < 128 := by have := M.out; omega
      obtain ⟨p, q, r1, g1⟩ := HA.out.row2 k (by omega)
      obtain ⟨r, s, r2, g2⟩ := HB.out.row2 k (by omega)
      have E := Lib.hid (r1.or r2)
      have a0 : ∀ z : Wb wr, z.at.cell? ⟨A, 1 + k * 2, none⟩ = some (.int .u64 (p : Int)) := fun z => (g1 _ (KB.at HW.out z)).1
      have a1 : ∀ z : Wb wr, z.at.cell? ⟨A, 1 + k * 2 + 1, none⟩ = some (.int .u64 (q : Int)) := fun z => (g1 _ (KB.at HW.out z)).2
      have b0 : ∀ z : Wb wr, z.at.cell? ⟨B, 1 + k * 2, none⟩ = some (.int .u64 (r : Int)) := fun z => (g2 _ (KB.at HW.out z)).1
      have b1 : ∀ z : Wb wr, z.at.cell? ⟨B, 1 + k * 2 + 1, none⟩ = some (.int .u64 (s : Int)) := fun z => (g2 _ (KB.at HW.out z)).2
      obtain ⟨p9, q9, r9, g9⟩ := HR.out.row2 k (by omega)
      have o0 : ∀ z : Wb wr, z.at.cell? ⟨O, 1 + k * 2, none⟩ = some (.int .u64 (p9 : Int)) := fun z => (g9 _ z.bel).1
      have o1 : ∀ z : Wb wr, z.at.cell? ⟨O, 1 + k * 2 + 1, none⟩ = some (.int .u64 (q9 : Int)) := fun z => (g9 _ z.bel).2
      clear r9 g9
      have CC := Lib.hid (fun w => with_or p q r s w r1.b0 r1.b1 r2.b0 r2.b1)
      obtain ⟨v0, hv0⟩ : ∃ v, v = w_or p r := ⟨_, rfl⟩
      obtain ⟨v1, hv1⟩ : ∃ v, v = w_or q s := ⟨_, rfl⟩
      rw [← hv0, ← hv1] at E CC
      clear r1 r2 g1 g2 hv0 hv1
      go_wp2_with fail
      refine wp_region_wb_tail 19 (by kernel_rfl) (by kernel_rfl) ?_
      simp only [List.take_succ_cons, List.take_zero, List.drop_succ_cons, List.drop_zero]
      repeat (go_big_quiet_step ((go_at_call 58; with_reducible exact Calls.wb (x := _) (CC.out _))))
      refine wpQuiet_nil ?_
      rintro _ ⟨x1, rfl⟩
      clear a0 a1 b0 b1 CC
      go_wp2_with fail
      have SA := Lib.hid HA.out.sup
      have R3 := Lib.hid (((HR.out.below x1.bel).setrow (t := fun j => TA k j || TB k j) ck (fun j e => by
        simp only [Bool.or_eq_true, Bool.and_eq_true] at e
        rcases e with e | e
        · exact (HA.out.sup k j e).2
        · exact (HB.out.sup k j e).2) E.out).eqT (U := fun i j => decide (i < k + 1) && (TA i j || TB i j)) (fun i j => by
        unfold rowM
        by_cases e : i = k
        · rw [if_pos e, e]; simp
        · rw [if_neg e]
          have : decide (i < k + 1) = decide (i < k) := by simp; omega
          rw [this]))
      have B3 := Lib.hid (KB.put (KB.put (KB.at HW.out x1) OW.out (1 + k * 2) (.int .u64 (v0 : Nat))) OW.out (1 + k * 2 + 1) (.int .u64 (v1 : Nat)))
      go_roundw
      case rel => exact ⟨k + 1, by omega, by go_num, R3.out, B3.out⟩
      case measure => simp [intOf]; omega
    · obtain rfl : k = n := by omega
      have i2 : ¬ (k : Int) < (k : Int) := by omega
      have S := Lib.hid HA.out.sup
      have S2 := Lib.hid HB.out.sup
      clear fz
      go_wp2
      refine bodyPost_ret (v := .tuple #[.pointer (some ⟨O, 0, none⟩), .int .i64 0]) (by simp [results, Try.results54, go_sem]) rfl ⟨O, OW.out, rfl, HR.out.eqT (fun i j => ?_), HW.out⟩
      unfold unionM
      by_cases e : i < k
      · simp [e]
      · have e1 : TA i j = false := by cases c : TA i j with | false => rfl | true => exact absurd (S.out i j c).1 e
        have e2 : TB i j = false := by cases c : TB i j with | false => rfl | true => exact absurd (S2.out i j c).1 e
        simp [e, e1, e2]

set_option maxRecDepth 100000 in
set_option maxHeartbeats 3200000 in
theorem merge_and (A B n : Nat) (TA TB : Mx) (w : World) (hA : RelAt w A n TA) (hB : RelAt w B n TB) :
    Calls Try.prog 54 #[.pointer (some ⟨A, 0, none⟩), .pointer (some ⟨B, 0, none⟩), .func (.func 56) #[] #[]] w fun e w' => ∃ O, w.heap.size ≤ O ∧ e = .returned (.tuple #[.pointer (some ⟨O, 0, none⟩), .int .i64 0]) ∧ RelAt w' O n (interM TA TB) ∧ Below w.heap.size w w' := by
  have HA := Lib.hid hA
  have HB := Lib.hid hB
  have LT := Lib.hid (show A < w.heap.size ∧ B < w.heap.size from ⟨hA.lt, hB.lt⟩)
  have M := Lib.hid hA.most
  have cA := hA.size'
  have cB := hB.size'
  have cn : ((n : Int) != (n : Int)) = false := by simp
  clear hA hB
  go_enter Try.func54, Try.ntmps54
  go_upto_region 1 with fail
  refine wp_region_wb (by kernel_rfl) (by kernel_rfl) ?_
  repeat (go_big_quiet_step (fail))
  refine wpQuiet_nil ?_
  rintro _ ⟨z1, rfl⟩
  have c0 := cA z1
  clear cA cB cn
  have RN := Lib.hid (RelAt.new z1.at n M.out)
  have BN := Lib.hid (show Below w.heap.size w (z1.at.alloc (.cells ((Try.zeroCells67 : Array Value).setIfInBounds 0 (.int .i64 n)) 67)) from KB.alloc z1.bel _)
  have OW := Lib.hid z1.size
  go_upto_region 4 with fail
  clear c0
  refine to_cls ?_
  intro U0 hU0 z0
  have R0 := Lib.hid ((RN.out.below hU0).below z0.bel)
  have B0 := Lib.hid (KB.next BN.out hU0 z0)
  have c0 := (HA.out.below B0.out).size
  clear hU0 RN BN
  obtain ⟨O, hO⟩ : ∃ O, O = z1.at.heap.size := ⟨_, rfl⟩
  rw [← hO] at R0 OW
  simp only [← hO]
  clear hO
  go_upto_region 5 with fail
  clear c0
  go_loopw [9, 37] (fun _ i wr => ∃ k : Nat, k ≤ n ∧ i = .int .i64 (k : Int) ∧ RelAt wr O n (fun i j => decide (i < k) && (TA i j && TB i j)) ∧ Below w.heap.size w wr) (fun _ i _ => n - (intOf i).toNat)
  case atStart => exact ⟨0, by omega, rfl, R0.out.eqT (fun i j => by simp [emptyM]), B0.out⟩
  case round =>
    clear R0 B0
    obtain ⟨k, hk, rfl, hr, hb⟩ := hrel
    have HR := Lib.hid hr
    have HW := Lib.hid hb
    have fz := hr.free
    clear hr hb
    by_cases ck : k < n
    · have k1 : (k : Int) < (n : Int) := by omega
      have k0 : (0 : Int) ≤ (k : Int) := by omega
      have k2 : (k : Int) < 128 := by have := M.out; omega
      obtain ⟨p, q, r1, g1⟩ := HA.out.row2 k (by omega)
      obtain ⟨r, s, r2, g2⟩ := HB.out.row2 k (by omega)
      have E := Lib.hid (r1.and r2)
      have a0 : ∀ z : Wb wr, z.at.cell? ⟨A, 1 + k * 2, none⟩ = some (.int .u64 (p : Int)) := fun z => (g1 _ (KB.at HW.out z)).1
      have a1 : ∀ z : Wb wr, z.at.cell? ⟨A, 1 + k * 2 + 1, none⟩ = some (.int .u64 (q : Int)) := fun z => (g1 _ (KB.at HW.out z)).2
      have b0 : ∀ z : Wb wr, z.at.cell? ⟨B, 1 + k * 2, none⟩ = some (.int .u64 (r : Int)) := fun z => (g2 _ (KB.at HW.out z)).1
      have b1 : ∀ z : Wb wr, z.at.cell? ⟨B, 1 + k * 2 + 1, none⟩ = some (.int .u64 (s : Int)) := fun z => (g2 _ (KB.at HW.out z)).2
      obtain ⟨p9, q9, r9, g9⟩ := HR.out.row2 k (by omega)
      have o0 : ∀ z : Wb wr, z.at.cell? ⟨O, 1 + k * 2, none⟩ = some (.int .u64 (p9 : Int)) := fun z => (g9 _ z.bel).1
      have o1 : ∀ z : Wb wr, z.at.cell? ⟨O, 1 + k * 2 + 1, none⟩ = some (.int .u64 (q9 : Int)) := fun z => (g9 _ z.bel).2
      clear r9 g9
      have CC := Lib.hid (fun w => with_and p q r s w r1.b0 r1.b1 r2.b0 r2.b1)
      obtain ⟨v0, hv0⟩ : ∃ v, v = w_and p r := ⟨_, rfl⟩
      obtain ⟨v1, hv1⟩ : ∃ v, v = w_and q s := ⟨_, rfl⟩
      rw [← hv0, ← hv1] at E CC
      clear r1 r2 g1 g2 hv0 hv1
      go_wp2_with fail
      refine wp_region_wb_tail 19 (by kernel_rfl) (by kernel_rfl) ?_
      simp only [List.take_succ_cons, List.take_zero, List.drop_succ_cons, List.drop_zero]
      repeat (go_big_quiet_step ((go_at_call 58; with_reducible exact Calls.wb (x := _) (CC.out _))))
      refine wpQuiet_nil ?_
      rintro _ ⟨x1, rfl⟩
      clear a0 a1 b0 b1 CC
      go_wp2_with fail
      have SA := Lib.hid HA.out.sup
      have R3 := Lib.hid (((HR.out.below x1.bel).setrow (t := fun j => TA k j && TB k j) ck (fun j e => by
        simp only [Bool.or_eq_true, Bool.and_eq_true] at e
        exact (HA.out.sup k j e.1).2) E.out).eqT (U := fun i j => decide (i < k + 1) && (TA i j && TB i j)) (fun i j => by
        unfold rowM
        by_cases e : i = k
        · rw [if_pos e, e]; simp
        · rw [if_neg e]
          have : decide (i < k + 1) = decide (i < k) := by simp; omega
          rw [this]))
      have B3 := Lib.hid (KB.put (KB.put (KB.at HW.out x1) OW.out (1 + k * 2) (.int .u64 (v0 : Nat))) OW.out (1 + k * 2 + 1) (.int .u64 (v1 : Nat)))
      go_roundw
      case rel => exact ⟨k + 1, by omega, by go_num, R3.out, B3.out⟩
      case measure => simp [intOf]; omega
    · obtain rfl : k = n := by omega
      have i2 : ¬ (k : Int) < (k : Int) := by omega
      have S := Lib.hid HA.out.sup
      have S2 := Lib.hid HB.out.sup
      clear fz
      go_wp2
      refine bodyPost_ret (v := .tuple #[.pointer (some ⟨O, 0, none⟩), .int .i64 0]) (by simp [results, Try.results54, go_sem]) rfl ⟨O, OW.out, rfl, HR.out.eqT (fun i j => ?_), HW.out⟩
      unfold interM
      by_cases e : i < k
      · simp [e]
      · have e1 : TA i j = false := by cases c : TA i j with | false => rfl | true => exact absurd (S.out i j c).1 e
        have e2 : TB i j = false := by cases c : TB i j with | false => rfl | true => exact absurd (S2.out i j c).1 e
        simp [e, e1, e2]

set_option maxRecDepth 100000 in
set_option maxHeartbeats 3200000 in
theorem merge_not (A B n : Nat) (TA TB : Mx) (w : World) (hA : RelAt w A n TA) (hB : RelAt w B n TB) :
    Calls Try.prog 54 #[.pointer (some ⟨A, 0, none⟩), .pointer (some ⟨B, 0, none⟩), .func (.func 57) #[] #[]] w fun e w' => ∃ O, w.heap.size ≤ O ∧ e = .returned (.tuple #[.pointer (some ⟨O, 0, none⟩), .int .i64 0]) ∧ RelAt w' O n (minusM TA TB) ∧ Below w.heap.size w w' := by
  have HA := Lib.hid hA
  have HB := Lib.hid hB
  have LT := Lib.hid (show A < w.heap.size ∧ B < w.heap.size from ⟨hA.lt, hB.lt⟩)
  have M := Lib.hid hA.most
  have cA := hA.size'
  have cB := hB.size'
  have cn : ((n : Int) != (n : Int)) = false := by simp
  clear hA hB
  go_enter Try.func54, Try.ntmps54
  go_upto_region 1 with fail
  refine wp_region_wb (by kernel_rfl) (by kernel_rfl) ?_
  repeat (go_big_quiet_step (fail))
  refine wpQuiet_nil ?_
  rintro _ ⟨z1, rfl⟩
  have c0 := cA z1
  clear cA cB cn
  have RN := Lib.hid (RelAt.new z1.at n M.out)
  have BN := Lib.hid (show Below w.heap.size w (z1.at.alloc (.cells ((Try.zeroCells67 : Array Value).setIfInBounds 0 (.int .i64 n)) 67)) from KB.alloc z1.bel _)
  have OW := Lib.hid z1.size
  go_upto_region 4 with fail
  clear c0
  refine to_cls ?_
  intro U0 hU0 z0
  have R0 := Lib.hid ((RN.out.below hU0).below z0.bel)
  have B0 := Lib.hid (KB.next BN.out hU0 z0)
  have c0 := (HA.out.below B0.out).size
  clear hU0 RN BN
  obtain ⟨O, hO⟩ : ∃ O, O = z1.at.heap.size := ⟨_, rfl⟩
  rw [← hO] at R0 OW
  simp only [← hO]
  clear hO
  go_upto_region 5 with fail
  clear c0
  go_loopw [9, 37] (fun _ i wr => ∃ k : Nat, k ≤ n ∧ i = .int .i64 (k : Int) ∧ RelAt wr O n (fun i j => decide (i < k) && (TA i j && !TB i j)) ∧ Below w.heap.size w wr) (fun _ i _ => n - (intOf i).toNat)
  case atStart => exact ⟨0, by omega, rfl, R0.out.eqT (fun i j => by simp [emptyM]), B0.out⟩
  case round =>
    clear R0 B0
    obtain ⟨k, hk, rfl, hr, hb⟩ := hrel
    have HR := Lib.hid hr
    have HW := Lib.hid hb
    have fz := hr.free
    clear hr hb
    by_cases ck : k < n
    · have k1 : (k : Int) < (n : Int) := by omega
      have k0 : (0 : Int) ≤ (k : Int) := by omega
      have k2 : (k : Int) < 128 := by have := M.out; omega
      obtain ⟨p, q, r1, g1⟩ := HA.out.row2 k (by omega)
      obtain ⟨r, s, r2, g2⟩ := HB.out.row2 k (by omega)
      have E := Lib.hid (r1.not r2)
      have a0 : ∀ z : Wb wr, z.at.cell? ⟨A, 1 + k * 2, none⟩ = some (.int .u64 (p : Int)) := fun z => (g1 _ (KB.at HW.out z)).1
      have a1 : ∀ z : Wb wr, z.at.cell? ⟨A, 1 + k * 2 + 1, none⟩ = some (.int .u64 (q : Int)) := fun z => (g1 _ (KB.at HW.out z)).2
      have b0 : ∀ z : Wb wr, z.at.cell? ⟨B, 1 + k * 2, none⟩ = some (.int .u64 (r : Int)) := fun z => (g2 _ (KB.at HW.out z)).1
      have b1 : ∀ z : Wb wr, z.at.cell? ⟨B, 1 + k * 2 + 1, none⟩ = some (.int .u64 (s : Int)) := fun z => (g2 _ (KB.at HW.out z)).2
      obtain ⟨p9, q9, r9, g9⟩ := HR.out.row2 k (by omega)
      have o0 : ∀ z : Wb wr, z.at.cell? ⟨O, 1 + k * 2, none⟩ = some (.int .u64 (p9 : Int)) := fun z => (g9 _ z.bel).1
      have o1 : ∀ z : Wb wr, z.at.cell? ⟨O, 1 + k * 2 + 1, none⟩ = some (.int .u64 (q9 : Int)) := fun z => (g9 _ z.bel).2
      clear r9 g9
      have CC := Lib.hid (fun w => with_not p q r s w r1.b0 r1.b1 r2.b0 r2.b1)
      obtain ⟨v0, hv0⟩ : ∃ v, v = w_not p r := ⟨_, rfl⟩
      obtain ⟨v1, hv1⟩ : ∃ v, v = w_not q s := ⟨_, rfl⟩
      rw [← hv0, ← hv1] at E CC
      clear r1 r2 g1 g2 hv0 hv1
      go_wp2_with fail
      refine wp_region_wb_tail 19 (by kernel_rfl) (by kernel_rfl) ?_
      simp only [List.take_succ_cons, List.take_zero, List.drop_succ_cons, List.drop_zero]
      repeat (go_big_quiet_step ((go_at_call 58; with_reducible exact Calls.wb (x := _) (CC.out _))))
      refine wpQuiet_nil ?_
      rintro _ ⟨x1, rfl⟩
      clear a0 a1 b0 b1 CC
      go_wp2_with fail
      have SA := Lib.hid HA.out.sup
      have R3 := Lib.hid (((HR.out.below x1.bel).setrow (t := fun j => TA k j && !TB k j) ck (fun j e => by
        simp only [Bool.or_eq_true, Bool.and_eq_true] at e
        exact (HA.out.sup k j e.1).2) E.out).eqT (U := fun i j => decide (i < k + 1) && (TA i j && !TB i j)) (fun i j => by
        unfold rowM
        by_cases e : i = k
        · rw [if_pos e, e]; simp
        · rw [if_neg e]
          have : decide (i < k + 1) = decide (i < k) := by simp; omega
          rw [this]))
      have B3 := Lib.hid (KB.put (KB.put (KB.at HW.out x1) OW.out (1 + k * 2) (.int .u64 (v0 : Nat))) OW.out (1 + k * 2 + 1) (.int .u64 (v1 : Nat)))
      go_roundw
      case rel => exact ⟨k + 1, by omega, by go_num, R3.out, B3.out⟩
      case measure => simp [intOf]; omega
    · obtain rfl : k = n := by omega
      have i2 : ¬ (k : Int) < (k : Int) := by omega
      have S := Lib.hid HA.out.sup
      have S2 := Lib.hid HB.out.sup
      clear fz
      go_wp2
      refine bodyPost_ret (v := .tuple #[.pointer (some ⟨O, 0, none⟩), .int .i64 0]) (by simp [results, Try.results54, go_sem]) rfl ⟨O, OW.out, rfl, HR.out.eqT (fun i j => ?_), HW.out⟩
      unfold minusM
      by_cases e : i < k
      · simp [e]
      · have e1 : TA i j = false := by cases c : TA i j with | false => rfl | true => exact absurd (S.out i j c).1 e
        have e2 : TB i j = false := by cases c : TB i j with | false => rfl | true => exact absurd (S2.out i j c).1 e
        simp [e, e1, e2]
end Go.Proofs.Ytjgfnemdklljmaa
