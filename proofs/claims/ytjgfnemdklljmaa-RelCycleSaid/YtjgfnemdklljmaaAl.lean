/-
  Layer 1, the walks: Count, Pairs, the page's Of and Pairs; is, both.
-/
import Derived.Test.YtjgfnemdklljmaaAk
set_option linter.unusedSimpArgs false
set_option linter.unusedVariables false
namespace GrR
open Go
def rowP (T : Mx) (a m : Nat) : List Pr := ((List.range m).filter (T a)).map fun b : Nat => ((a : Int), (b : Int))
def pairsK (n : Nat) (T : Mx) (k : Nat) : List Pr := (List.range k).flatMap fun a => rowP T a n
theorem rowP_no {T : Mx} {a m : Nat} (h : T a m = false) : rowP T a (m + 1) = rowP T a m := by
  unfold rowP
  rw [List.range_succ, List.filter_append]
  simp [h]
theorem rowP_yes {T : Mx} {a m : Nat} (h : T a m = true) : rowP T a (m + 1) = rowP T a m ++ [((a : Int), (m : Int))] := by
  unfold rowP
  rw [List.range_succ, List.filter_append, List.map_append]
  simp [h]
theorem pairsK_succ (n : Nat) (T : Mx) (k : Nat) : pairsK n T (k + 1) = pairsK n T k ++ rowP T k n := by
  unfold pairsK
  rw [List.range_succ, List.flatMap_append]
  simp
theorem rowP_len (T : Mx) (a m : Nat) : (rowP T a m).length = cntR m (T a) := by
  unfold rowP cntR
  rw [List.length_map, List.countP_eq_length_filter]
theorem pairsK_len (n : Nat) (T : Mx) : ∀ k, (pairsK n T k).length = ((List.range k).map fun a => cntR n (T a)).sum
  | 0 => rfl
  | k + 1 => by rw [pairsK_succ, List.length_append, pairsK_len n T k, rowP_len, List.range_succ, List.map_append, List.sum_append]; simp
theorem pairs_len (n : Nat) (T : Mx) : (pairsK n T n).length = cntM n T := pairsK_len n T n
theorem pairsK_le (n : Nat) (T : Mx) : ∀ k, (pairsK n T k).length ≤ k * n
  | 0 => by simp [pairsK]
  | k + 1 => by
    rw [pairsK_succ, List.length_append, rowP_len, Nat.succ_mul]
    have := pairsK_le n T k
    have := cntR_le n (T k)
    omega
theorem part_le (n : Nat) (T : Mx) (k m : Nat) (hk : k < n) (hm : m ≤ n) (hn : n ≤ 128) : (pairsK n T k ++ rowP T k m).length ≤ 16384 := by
  rw [List.length_append, rowP_len]
  have h1 := pairsK_le n T k
  have h2 := cntR_le m (T k)
  have h3 : (k + 1) * n ≤ 128 * 128 := Nat.mul_le_mul (by omega) hn
  rw [Nat.succ_mul] at h3
  omega
theorem cntR_ext {n : Nat} {f g : Nat → Bool} (h : ∀ i, i < n → f i = g i) : cntR n f = cntR n g := List.countP_congr fun i hi => by rw [h i (List.mem_range.1 hi)]
theorem cntR_add (k m : Nat) (f : Nat → Bool) : cntR (k + m) f = cntR k f + cntR m fun i => f (k + i) := by
  unfold cntR
  rw [List.range_add, List.countP_append, List.countP_map]
  rfl
theorem RowW.cnt {p q n : Nat} {t : Nat → Bool} (h : RowW p q t) (hn : n ≤ 128) (ht : ∀ j, t j = true → j < n) : cntR 64 p.testBit + cntR 64 q.testBit = cntR n t := by
  have e : cntR 128 t = cntR n t := by
    rw [show 128 = n + (128 - n) by omega, cntR_add]
    have : cntR (128 - n) (fun i => t (n + i)) = 0 := by
      unfold cntR
      rw [List.countP_eq_zero]
      intro i _ hi
      have := ht _ hi
      omega
    omega
  rw [← e, show (128 : Nat) = 64 + 64 from rfl, cntR_add, cntR_ext (fun i hi => h.t0 i hi), cntR_ext (fun i hi => h.t1 i hi)]
theorem sumK_succ (n : Nat) (T : Mx) (k : Nat) : ((List.range (k + 1)).map fun a => cntR n (T a)).sum = ((List.range k).map fun a => cntR n (T a)).sum + cntR n (T k) := by
  rw [List.range_succ, List.map_append, List.sum_append]
  simp
theorem sumK_le (n : Nat) (T : Mx) (k : Nat) : ((List.range k).map fun a => cntR n (T a)).sum ≤ k * n := by
  rw [← pairsK_len]
  exact pairsK_le n T k
end GrR
namespace Go.Proofs.Ytjgfnemdklljmaa
open Go.RowKit GrR

theorem two_new (w : World) (u v : Value) (T : TypeId) : ∀ (j : Nat) (x : Value), [u, v][j]? = some x → (w.alloc (.cells #[u, v] T)).cell? (({ block := w.heap.size, off := 0 } : Addr).add j) = some x := by
  intro j x hj
  have h := Row.new w [u, v] T
  match j, hj with
  | 0, hj =>
    simp at hj; subst hj
    exact h.cell 0
  | 1, hj =>
    simp at hj; subst hj
    exact h.cell 1
theorem two_one (k l : Int) : ∀ u ∈ [Value.int .i64 k, Value.int .i64 l], u.oneCell' = true := by
  intro u hu
  simp at hu
  rcases hu with rfl | rfl <;> rfl
theorem pairInfo : (Try.prog.info? 37).map (fun i => (i.zero, i.size, i.bytes)) = some (some (.agg #[.int .i64 0, .int .i64 0]), 2, 16) := by kernel_rfl

set_option maxRecDepth 100000 in
set_option maxHeartbeats 3200000 in
theorem count_any (B n : Nat) (T : Mx) (w : World) (h : RelAt w B n T) :
    Calls Try.prog 18 #[.pointer (some ⟨B, 0, none⟩)] w fun e w' => e = .returned (.int .i64 ((cntM n T : Nat) : Int)) ∧ w = w' := by
  have H := Lib.hid h
  have M := Lib.hid h.most
  have SZ := Lib.hid (size_any B n T w h)
  clear h
  go_enter Try.func18, Try.ntmps18
  go_wp2_with fail
  refine SZ.out.mono ?_
  rintro e w1 ⟨rfl, rfl⟩
  clear SZ
  go_wp2_with fail
  go_loop [3, 9] (fun s i => ∃ k : Nat, k ≤ n ∧ i = .int .i64 (k : Int) ∧ s = .int .i64 ((((List.range k).map fun a => cntR n (T a)).sum : Nat) : Int)) (fun _ i => n - (intOf i).toNat)
  case atStart => exact ⟨0, by omega, rfl, rfl⟩
  case round =>
    obtain ⟨k, hk, rfl, rfl⟩ := hrel
    have SL := Lib.hid (sumK_le n T k)
    have SS := Lib.hid (sumK_succ n T k)
    obtain ⟨S, hS⟩ : ∃ S, S = ((List.range k).map fun a => cntR n (T a)).sum := ⟨_, rfl⟩
    rw [← hS] at SL SS ⊢
    have HS := Lib.hid hS
    clear hS
    by_cases ck : k < n
    · have k1 : (k : Int) < (n : Int) := by omega
      have k0 : (0 : Int) ≤ (k : Int) := by omega
      have k2 : (k : Int) < 128 := by have := M.out; omega
      have S9 : (S : Int) ≤ 16384 := by
        have h1 := SL.out
        have h2 : k * n ≤ 128 * 128 := Nat.mul_le_mul (by omega) M.out
        omega
      obtain ⟨p, q, r1, g1⟩ := H.out.row2 k (by omega)
      obtain ⟨a0, a1⟩ := g1 w (Below.refl _ _)
      have O0 := Lib.hid (ones_any p w r1.b0)
      have O1 := Lib.hid (ones_any q w r1.b1)
      have CN := Lib.hid (r1.cnt (n := n) M.out (fun j hj => (H.out.sup k j hj).2))
      have L0 := Lib.hid (cntR_le 64 p.testBit)
      have L1 := Lib.hid (cntR_le 64 q.testBit)
      obtain ⟨c0, hc0⟩ : ∃ c, c = cntR 64 p.testBit := ⟨_, rfl⟩
      obtain ⟨c1, hc1⟩ : ∃ c, c = cntR 64 q.testBit := ⟨_, rfl⟩
      rw [← hc0] at O0 CN L0
      rw [← hc1] at O1 CN L1
      have C0 := L0.out
      have C1 := L1.out
      clear r1 g1 hc0 hc1 L0 L1
      have i0 : ∀ w, (Instr.index 64 (.agg #[.int .u64 (p : Int), .int .u64 (q : Int)]) (.int .i64 0)).run Try.prog w = .ok (.int .u64 (p : Int)) w := fun _ => by kernel_rfl
      have i1 : ∀ w, (Instr.index 64 (.agg #[.int .u64 (p : Int), .int .u64 (q : Int)]) (.int .i64 1)).run Try.prog w = .ok (.int .u64 (q : Int)) w := fun _ => by kernel_rfl
      go_wp2_with fail
      clear a0 a1
      refine wp_loop_rounds 3 ?_
      rw [rounds_succ]
      go_wp2_with (go_at_call 49; refine O0.out.mono ?_; rintro e w1 ⟨rfl, rfl⟩)
      rw [rounds_succ]
      go_wp2_with (go_at_call 49; refine O1.out.mono ?_; rintro e w1 ⟨rfl, rfl⟩)
      rw [rounds_succ]
      go_wp2_with fail
      clear i0 i1
      go_round
      case rel => exact ⟨k + 1, by omega, by go_num, by rw [SS.out, ← CN.out]; congr 1; omega⟩
      case measure => simp [intOf]; omega
    · obtain rfl : k = n := by omega
      have i2 : ¬ (k : Int) < (k : Int) := by omega
      go_wp2
      go_ret
      exact ⟨(by rw [HS.out]; rfl), rfl⟩

set_option maxRecDepth 100000 in
set_option maxHeartbeats 6400000 in
theorem pairs_any (B n : Nat) (T : Mx) (w : World) (h : RelAt w B n T) :
    Calls Try.prog 52 #[.pointer (some ⟨B, 0, none⟩)] w fun e w' => ∃ v, e = .returned v ∧ SlP w' v (pairsK n T n) ∧ Below w.heap.size w w' := by
  obtain ⟨i0, hi, hz0, hz1, hz2⟩ := info_parts pairInfo
  have H := Lib.hid h
  have M := Lib.hid h.most
  have SZ := Lib.hid (size_any B n T w h)
  clear h
  go_enter Try.func52, Try.ntmps52
  go_wp2_with fail
  refine SZ.out.mono ?_
  rintro e w1 ⟨rfl, rfl⟩
  clear SZ
  go_wp2_with fail
  go_loopw [3, 8] (fun v i wr => ∃ k : Nat, k ≤ n ∧ i = .int .i64 (k : Int) ∧ wr.ownsRow w.heap.size 37 2 v (pairsK n T k).length (pairC (pairsK n T k)) ∧ Below w.heap.size w wr) (fun _ i _ => n - (intOf i).toNat)
  case atStart => exact ⟨0, by omega, rfl, World.ownsRow_nil _ _ _ _, Below.refl _ _⟩
  case round =>
    obtain ⟨k, hk, rfl, ho, hb⟩ := hrel
    have HO := Lib.hid ho
    have HB := Lib.hid hb
    clear ho hb
    by_cases ck : k < n
    · have k1 : (k : Int) < (n : Int) := by omega
      have k0 : (0 : Int) ≤ (k : Int) := by omega
      have k2 : (k : Int) < 128 := by have := M.out; omega
      have c0 := (H.out.below HB.out).size
      go_upto_region 6 with fail
      clear c0
      go_loopw [3, 15] (fun v i wr => ∃ m : Nat, m ≤ n ∧ i = .int .i64 (m : Int) ∧ wr.ownsRow w.heap.size 37 2 v (pairsK n T k ++ rowP T k m).length (pairC (pairsK n T k ++ rowP T k m)) ∧ Below w.heap.size w wr) (fun _ i _ => n - (intOf i).toNat)
      case atStart => exact ⟨0, by omega, rfl, by simpa [rowP] using HO.out, HB.out⟩
      case round =>
        clear HO HB
        obtain ⟨m, hm, rfl, ho, hb⟩ := hrel
        have HO := Lib.hid ho
        have HB := Lib.hid hb
        clear ho hb
        by_cases cm : m < n
        · have m1 : (m : Int) < (n : Int) := by omega
          have m0 : (0 : Int) ≤ (m : Int) := by omega
          have m2 : (m : Int) < 128 := by have := M.out; omega
          have PL := Lib.hid (part_le n T k m ck (by omega) M.out)
          cases c : T k m with
          | false =>
            have RN := Lib.hid (rowP_no (a := k) c)
            have BA := Lib.hid (bit_any B n T k m wr (H.out.below HB.out) (by omega) (by omega))
            rw [c] at BA
            go_wp2_with (go_at_call 51; refine BA.out.mono ?_; rintro e w1 ⟨rfl, rfl⟩)
            go_roundw
            case rel => exact ⟨m + 1, by omega, by go_num, by rw [RN.out]; exact HO.out, HB.out⟩
            case measure => simp [intOf]; omega
          | true =>
            have RY := Lib.hid (show pairsK n T k ++ rowP T k (m + 1) = (pairsK n T k ++ rowP T k m) ++ [((k : Int), (m : Int))] by rw [rowP_yes c, List.append_assoc])
            obtain ⟨L, hL⟩ : ∃ L, L = pairsK n T k ++ rowP T k m := ⟨_, rfl⟩
            rw [← hL] at HO PL RY
            clear hL
            have BA := Lib.hid (bit_any B n T k m wr (H.out.below HB.out) (by omega) (by omega))
            rw [c] at BA
            go_upto_region 9 with (go_at_call 51; refine BA.out.mono ?_; rintro e w1 ⟨rfl, rfl⟩)
            go_wp2_with (at_builtin; refine wpList_append_own _ rfl (.tmp 25) (.tmp 29) 22 rfl w.heap.size 37 i0 (.agg #[.int .i64 0, .int .i64 0]) 2 16 Try.underlying22 hi hz0 hz1 hz2 rfl (by decide) _ _ _ rfl (HO.out.alloc _) ⟨wr.heap.size, 0, none⟩ 1 1 [.int .i64 (k : Int), .int .i64 (m : Int)] rfl rfl ?c1 ?c2 ?c3 ?c4 ?c5 ?_)
            case c1 => exact two_new _ _ _ _
            case c2 => exact two_one _ _
            case c3 => unfold maxLen; have := PL.out; omega
            case c4 => have := PL.out; omega
            case c5 => have := HB.out.size; simp; omega
            intro v' w1 hown' hgrow _
            have R1 := Lib.hid (show w1.ownsRow w.heap.size 37 2 v' (pairsK n T k ++ rowP T k (m + 1)).length (pairC (pairsK n T k ++ rowP T k (m + 1))) by
              rw [RY.out, pairC_app, List.length_append]
              exact hown')
            have R2 := Lib.hid (show Below w.heap.size w w1 from (HB.out.alloc HB.out.size _).grown hgrow (by have := HB.out.size; simp; omega) (fun j hj => (HO.out.lt j hj).1))
            clear hown' hgrow
            go_wp2_with fail
            go_roundw
            case rel => exact ⟨m + 1, by omega, by go_num, R1.out, R2.out⟩
            case measure => simp [intOf]; omega
        · obtain rfl : m = n := by omega
          have i2 : ¬ (m : Int) < (m : Int) := by omega
          have PS := Lib.hid (pairsK_succ m T k)
          go_wp2_with fail
          go_roundw
          case rel => exact ⟨k + 1, by omega, by go_num, by rw [PS.out]; exact HO.out, HB.out⟩
          case measure => simp [intOf]; omega
    · obtain rfl : k = n := by omega
      have i2 : ¬ (k : Int) < (k : Int) := by omega
      go_wp2
      go_ret
      exact ⟨_, rfl, SlAt.own HO.out, HB.out⟩

set_option maxRecDepth 100000 in
set_option maxHeartbeats 6400000 in
theorem rpairs_any (B n : Nat) (T : Mx) (w : World) (hn : n ≤ 128) (h : TabAt w B n T) :
    Calls Try.prog 53 #[.slice (some ⟨B, 0, none⟩) n n] w fun e w' => ∃ v, e = .returned v ∧ SlP w' v (pairsK n T n) ∧ Below w.heap.size w w' := by
  obtain ⟨i0, hi, hz0, hz1, hz2⟩ := info_parts pairInfo
  have H := Lib.hid h
  have M := Lib.hid hn
  clear hn
  clear h
  go_enter Try.func53, Try.ntmps53
  go_wp2_with fail
  go_loopw [3, 4] (fun v i wr => ∃ k : Nat, k ≤ n ∧ i = .int .i64 (k : Int) ∧ wr.ownsRow w.heap.size 37 2 v (pairsK n T k).length (pairC (pairsK n T k)) ∧ Below w.heap.size w wr) (fun _ i _ => n - (intOf i).toNat)
  case atStart => exact ⟨0, by omega, rfl, World.ownsRow_nil _ _ _ _, Below.refl _ _⟩
  case round =>
    obtain ⟨k, hk, rfl, ho, hb⟩ := hrel
    have HO := Lib.hid ho
    have HB := Lib.hid hb
    clear ho hb
    by_cases ck : k < n
    · have k1 : (k : Int) < (n : Int) := by omega
      have k0 : (0 : Int) ≤ (k : Int) := by omega
      have k2 : (k : Int) < 128 := by have := M.out; omega
      go_wp2_with fail
      go_loopw [3, 5] (fun v i wr => ∃ m : Nat, m ≤ n ∧ i = .int .i64 (m : Int) ∧ wr.ownsRow w.heap.size 37 2 v (pairsK n T k ++ rowP T k m).length (pairC (pairsK n T k ++ rowP T k m)) ∧ Below w.heap.size w wr) (fun _ i _ => n - (intOf i).toNat)
      case atStart => exact ⟨0, by omega, rfl, by simpa [rowP] using HO.out, HB.out⟩
      case round =>
        clear HO HB
        obtain ⟨m, hm, rfl, ho, hb⟩ := hrel
        have HO := Lib.hid ho
        have HB := Lib.hid hb
        clear ho hb
        by_cases cm : m < n
        · have m1 : (m : Int) < (n : Int) := by omega
          have m0 : (0 : Int) ≤ (m : Int) := by omega
          have m2 : (m : Int) < 128 := by have := M.out; omega
          have PL := Lib.hid (part_le n T k m ck (by omega) M.out)
          cases c : T k m with
          | false =>
            have RN := Lib.hid (rowP_no (a := k) c)
            have a0 := H.out.row k ck wr HB.out
            have a1 := H.out.bit k m ck cm wr HB.out
            rw [c] at a1
            go_wp2_with fail
            clear a0 a1
            go_roundw
            case rel => exact ⟨m + 1, by omega, by go_num, by rw [RN.out]; exact HO.out, HB.out⟩
            case measure => simp [intOf]; omega
          | true =>
            have RY := Lib.hid (show pairsK n T k ++ rowP T k (m + 1) = (pairsK n T k ++ rowP T k m) ++ [((k : Int), (m : Int))] by rw [rowP_yes c, List.append_assoc])
            obtain ⟨L, hL⟩ : ∃ L, L = pairsK n T k ++ rowP T k m := ⟨_, rfl⟩
            rw [← hL] at HO PL RY
            clear hL
            have a0 := H.out.row k ck wr HB.out
            have a1 := H.out.bit k m ck cm wr HB.out
            rw [c] at a1
            go_upto_region 9 with fail
            clear a0 a1
            go_wp2_with (at_builtin; refine wpList_append_own _ rfl (.tmp 25) (.tmp 29) 22 rfl w.heap.size 37 i0 (.agg #[.int .i64 0, .int .i64 0]) 2 16 Try.underlying22 hi hz0 hz1 hz2 rfl (by decide) _ _ _ rfl (HO.out.alloc _) ⟨wr.heap.size, 0, none⟩ 1 1 [.int .i64 (k : Int), .int .i64 (m : Int)] rfl rfl ?c1 ?c2 ?c3 ?c4 ?c5 ?_)
            case c1 => exact two_new _ _ _ _
            case c2 => exact two_one _ _
            case c3 => unfold maxLen; have := PL.out; omega
            case c4 => have := PL.out; omega
            case c5 => have := HB.out.size; simp; omega
            intro v' w1 hown' hgrow _
            have R1 := Lib.hid (show w1.ownsRow w.heap.size 37 2 v' (pairsK n T k ++ rowP T k (m + 1)).length (pairC (pairsK n T k ++ rowP T k (m + 1))) by
              rw [RY.out, pairC_app, List.length_append]
              exact hown')
            have R2 := Lib.hid (show Below w.heap.size w w1 from (HB.out.alloc HB.out.size _).grown hgrow (by have := HB.out.size; simp; omega) (fun j hj => (HO.out.lt j hj).1))
            clear hown' hgrow
            go_wp2_with fail
            go_roundw
            case rel => exact ⟨m + 1, by omega, by go_num, R1.out, R2.out⟩
            case measure => simp [intOf]; omega
        · obtain rfl : m = n := by omega
          have i2 : ¬ (m : Int) < (m : Int) := by omega
          have PS := Lib.hid (pairsK_succ m T k)
          go_wp2_with fail
          go_roundw
          case rel => exact ⟨k + 1, by omega, by go_num, by rw [PS.out]; exact HO.out, HB.out⟩
          case measure => simp [intOf]; omega
    · obtain rfl : k = n := by omega
      have i2 : ¬ (k : Int) < (k : Int) := by omega
      go_wp2
      go_ret
      exact ⟨_, rfl, SlAt.own HO.out, HB.out⟩
end Go.Proofs.Ytjgfnemdklljmaa
