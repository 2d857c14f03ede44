/-
  Layer 9, the walks: the page's Same.
-/
import Derived.Test.YteiokenijmaloaaUi
set_option linter.unusedSimpArgs false
set_option linter.unusedVariables false
namespace Go.Proofs.Yteiokenijmaloaa
open Go.RowKit GrT

set_option maxRecDepth 100000 in
set_option maxHeartbeats 3200000 in
theorem rsame_any (v1 v2 : Value) (L1 L2 : List E) (w : World) (h1 : SlE w v1 L1) (h2 : SlE w v2 L2) (hn : L1.length ≤ 1000000) :
    Calls Try.prog 10 #[v1, v2] w fun e w' => e = .returned (.bool (decide (L1 = L2))) ∧ Below w.heap.size w w' := by
  obtain ⟨p1, n1, c1, rfl⟩ := SlAt.form h1
  obtain ⟨p2, n2, c2, rfl⟩ := SlAt.form h2
  have e1 := h1.len
  have e2 := h2.len
  by_cases en : n1 = n2
  · subst en
    obtain ⟨V, rfl⟩ : ∃ V, V = w := ⟨_, rfl⟩
    have H1 := Lib.hid h1
    have H2 := Lib.hid h2
    have E1 := Lib.hid e1
    have E2 := Lib.hid e2
    have q9 : (n1 : Int) ≤ 1000000 := by omega
    clear h1 h2 e1 e2 hn
    go_enter Try.func10, Try.ntmps10
    go_wp2_with fail
    go_loopw [5] (fun i wr => ∃ k : Nat, k ≤ n1 ∧ i = .int .i64 (k : Int) ∧ L1.take k = L2.take k ∧ Below V.heap.size V wr) (fun i _ => n1 - (intOf i).toNat)
    case atStart => exact ⟨0, by omega, rfl, by simp, Below.refl _ _⟩
    case round =>
      obtain ⟨k, hk, rfl, htk, hb⟩ := hrel
      have TK := Lib.hid htk
      have BB := Lib.hid hb
      clear htk hb
      by_cases ck : k < n1
      · have l1 : k < L1.length := by have := E1.out; omega
        have l2 : k < L2.length := by have := E2.out; omega
        obtain ⟨a1, rfl⟩ := SlE.addr H1.out (by omega)
        obtain ⟨a2, rfl⟩ := SlE.addr H2.out (by omega)
        have z1 := Lib.hid (fun y : Wb wr => (H1.out.below (BB.out.trans (y.bel.mono BB.out.size))).at k l1)
        have z2 := Lib.hid (fun y : Wb wr => (H2.out.below (BB.out.trans (y.bel.mono BB.out.size))).at k l2)
        have S1 := Lib.hid (show L1.take (k + 1) = L1.take k ++ [L1[k]] from List.take_succ_eq_append_getElem l1)
        have S2 := Lib.hid (show L2.take (k + 1) = L2.take k ++ [L2[k]] from List.take_succ_eq_append_getElem l2)
        have NE := Lib.hid (show L1[k] ≠ L2[k] → L1 ≠ L2 from fun h e => h (by subst e; rfl))
        obtain ⟨⟨u0, u1, u2, u3⟩, hu⟩ : ∃ p, p = L1[k] := ⟨_, rfl⟩
        obtain ⟨⟨s0, s1, s2, s3⟩, hs⟩ : ∃ p, p = L2[k] := ⟨_, rfl⟩
        rw [← hu] at z1 S1 NE
        rw [← hs] at z2 S2 NE
        clear hu hs
        have x0 := fun y : Wb wr => (z1.out y).1
        have y0 := fun y : Wb wr => (z2.out y).1
        have x1 := fun y : Wb wr => (z1.out y).2.1
        have y1 := fun y : Wb wr => (z2.out y).2.1
        have x2 := fun y : Wb wr => (z1.out y).2.2.1
        have y2 := fun y : Wb wr => (z2.out y).2.2.1
        have x3 := fun y : Wb wr => (z1.out y).2.2.2
        have y3 := fun y : Wb wr => (z2.out y).2.2.2
        clear z1 z2 l1 l2
        have i0 : (0 : Int) ≤ (k : Int) := by omega
        have i1 : (k : Int) < (n1 : Int) := by omega
        obtain ⟨b, hb⟩ : ∃ b, b = decide ((⟨u0, u1, u2, u3⟩ : E) ≠ ⟨s0, s1, s2, s3⟩) := ⟨_, rfl⟩
        have EQ : ∀ w, (binOp .neq 25 (.agg #[.int .i64 u0, .int .u64 u1, .int .u64 u2, .int .u64 u3]) (.agg #[.int .i64 s0, .int .u64 s1, .int .u64 s2, .int .u64 s3])).run Try.prog w = .ok (.bool b) w := fun w => by rw [run_neq_ev, hb]
        have BN := Lib.hid (fun (k : b = true) => NE.out (by rw [hb] at k; exact of_decide_eq_true k))
        have BE := Lib.hid (fun (kb : b = false) => show L1.take (k + 1) = L2.take (k + 1) by rw [hb] at kb; rw [S1.out, S2.out, TK.out, Decidable.of_not_not (of_decide_eq_false kb)])
        clear hb
        go_wp2_with fail
        refine wp_region_wb (by kernel_rfl) (by kernel_rfl) ?_
        repeat (go_big_quiet_step (fail))
        refine wpQuiet_nil ?_
        rintro _ ⟨y, rfl⟩
        clear x0 x1 x2 x3 y0 y1 y2 y3 EQ
        cases b with
        | false =>
          go_wp2
          go_roundw
          case rel => exact ⟨k + 1, by omega, by go_num, BE.out (by first | rfl | trivial), BB.out.trans (y.bel.mono BB.out.size)⟩
          case measure => simp [intOf]; omega
        | true =>
          go_wp2
          go_ret
          exact ⟨(by rw [decide_eq_false (BN.out (by first | rfl | trivial))]; rfl), (BB.out.trans (y.bel.mono BB.out.size))⟩
      · obtain rfl : k = n1 := by omega
        have EQ := Lib.hid (show L1 = L2 by have := TK.out; rwa [List.take_of_length_le (by have := E1.out; omega), List.take_of_length_le (by have := E2.out; omega)] at this)
        have i2 : ¬ (k : Int) < (k : Int) := by omega
        go_wp2
        go_ret
        exact ⟨(by rw [decide_eq_true EQ.out]; rfl), BB.out⟩
  · have ne : decide (L1 = L2) = false := decide_eq_false (fun e => en (by rw [e1, e2, e]))
    have d : ((n1 : Int) != (n2 : Int)) = true := by simp; omega
    rw [ne]
    clear h1 h2 e1 e2 en ne hn
    go_enter Try.func10, Try.ntmps10
    go_wp2
    go_ret
    exact ⟨rfl, Below.refl _ _⟩
end Go.Proofs.Yteiokenijmaloaa
