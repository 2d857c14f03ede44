/-
  Layer 6, the walks: with.
-/
import Derived.Test.YtnpgpbcpgniloaaSd
set_option linter.unusedSimpArgs false
set_option linter.unusedVariables false
namespace Go.Proofs.Ytnpgpbcpgniloaa
open Go.RowKit GrS

theorem bit_and1 (b K : Nat) (h : K < 18446744073709551616) : (bits .and .u64 ((K : Int) / 2 ^ b) 1 == 1) = decide (bit b K = 1) := by
  have e : ((K : Int) / 2 ^ b) = ((K / 2 ^ b : Nat) : Int) := by simp
  have lt : K / 2 ^ b ≤ K := Nat.div_le_self _ _
  rw [e]
  unfold bit
  obtain ⟨q, hq⟩ : ∃ q, q = K / 2 ^ b := ⟨_, rfl⟩
  rw [← hq] at lt ⊢
  rw [and_one _ (by omega) (by omega)]
  by_cases c : q % 2 = 1
  · rw [decide_eq_true c, beq_iff_eq]; omega
  · rw [decide_eq_false c, beq_eq_false_iff_ne]; omega
theorem xor_nat (a b : Nat) (ha : a < 18446744073709551616) (hb : b < 18446744073709551616) : bits .xor .u64 (a : Int) (b : Int) = ((a ^^^ b : Nat) : Int) := u64_xor_nat a b ha hb
theorem shr_and (X b : Nat) : ((X : Int) / 2 ^ b / 2 == 0) = decide (X / 2 ^ b / 2 = 0) := by
  have e : ((X : Int) / 2 ^ b / 2) = ((X / 2 ^ b / 2 : Nat) : Int) := by simp
  rw [e]
  by_cases c : X / 2 ^ b / 2 = 0
  · rw [decide_eq_true c, c]; rfl
  · rw [decide_eq_false c, beq_eq_false_iff_ne]; exact fun h => c (by exact_mod_cast h)
theorem wrap_len (X m : Nat) (h0 : X ≠ 0) (hm : m = bitLen X - 1) (hX : X < 18446744073709551616) : wrap64 (((bitLen X : Nat) : Int) - 1) = (m : Int) := by
  have h1 : 0 < bitLen X := by unfold bitLen; rw [if_neg h0]; omega
  have h2 := (bitLen_spec X).2 h0
  have h3 : bitLen X - 1 < 64 := (Nat.pow_lt_pow_iff_right (a := 2) (by decide)).1 (Nat.lt_of_le_of_lt h2 (by simpa using hX))
  rw [wrap64_small _ (by omega) (by omega)]
  omega

set_option maxRecDepth 100000 in
set_option maxHeartbeats 6400000 in
theorem with_some (S : Nat → Prop) (t : Tr) : ∀ (B LB k : Nat) (v : Int) (w : World), TrS w S B t → t.WF → S LB → Row w LB (leafCells k v) 129 → k < 18446744073709551616 → (∀ C, w.heap.size ≤ C → S C) →
    Calls Try.prog 71 #[.pointer (some ⟨B, 0, none⟩), .pointer (some ⟨LB, 0, none⟩)] w fun e w' => ∃ B2, e = .returned (.pointer (some ⟨B2, 0, none⟩)) ∧ Below w.heap.size w w' ∧ TrS w' S B2 (t.ins k v) := by
  induction t generalizing S with
  | leaf a u =>
    intro B LB k v w h hw hLB hL hk hnew
    have ha : a < 18446744073709551616 := hw
    have HT := Lib.hid h
    have HB := Lib.hid h.2
    have HL := Lib.hid hL
    clear h hL hw
    by_cases hak : a = k
    · have hka := hak.symm
      subst hka
      have ca : (((k : Nat) : Int) == (k : Int)) = true := by simp
      have rB : ∀ z : Wb w, Row z.at B (leafCells k u) 129 := Row.at HB.out
      have rL : ∀ z : Wb w, Row z.at LB (leafCells k v) 129 := Row.at HL.out
      have cB_0 : ∀ z : Wb w, z.at.cell? ⟨B, 0, none⟩ = some (.int .u64 (k : Int)) := fun z => (rB z).cell 0
      have cB_3 : ∀ z : Wb w, z.at.cell? ⟨B, 3, none⟩ = some (.pointer none) := fun z => (rB z).cell 3
      have fB : ∀ (z : Wb w) (i : Nat), z.at.frozen? ⟨B, i, none⟩ = false := fun z i => (rB z).free i
      have cL_0 : ∀ z : Wb w, z.at.cell? ⟨LB, 0, none⟩ = some (.int .u64 (k : Int)) := fun z => (rL z).cell 0
      have fL : ∀ (z : Wb w) (i : Nat), z.at.frozen? ⟨LB, i, none⟩ = false := fun z i => (rL z).free i
      go_enter Try.func71, Try.ntmps71
      go_wp2_with fail
      refine wp_region_wb (by kernel_rfl) (by kernel_rfl) ?_
      repeat (go_big_quiet_step (fail))
      refine wpQuiet_nil ?_
      rintro _ ⟨z1, rfl⟩
      go_wp2
      go_ret
      exact ⟨LB, rfl, z1.bel, by simp only [Tr.ins, if_true]; exact TrS.below z1.bel (.leaf k v) LB ⟨hLB, HL.out⟩⟩
    · have hne : a ≠ k := hak
      have ca : (((a : Nat) : Int) == (k : Int)) = false := by simp; omega
      obtain ⟨X, hX⟩ : ∃ X, X = a ^^^ k := ⟨_, rfl⟩
      have XOR : bits .xor .u64 (a : Int) (k : Int) = (X : Int) := by rw [hX]; exact xor_nat a k ha hk
      have XL := Lib.hid (show X < 18446744073709551616 by rw [hX]; exact Nat.xor_lt_two_pow (n := 64) (by simpa using ha) (by simpa using hk))
      obtain ⟨m, hm⟩ : ∃ m, m = bitLen X - 1 := ⟨_, rfl⟩
      have M64 := Lib.hid (show m < 64 by rw [hm, hX]; exact part_lt ha hk hne)
      have MM := Lib.hid (show m = bitLen ((.leaf a u : Tr).key ^^^ k) - 1 by rw [hm, hX]; rfl)
      have WM := Lib.hid (show wrap64 (((bitLen X : Nat) : Int) - 1) = (m : Int) from wrap_len X m (by rw [hX]; exact fun h => hne ((xor_zero _ _).1 h)) hm XL.out)
      have EJ := Lib.hid (show (.leaf a u : Tr).ins k v = join (.leaf a u) k v by simp only [Tr.ins]; rw [if_neg hak])
      clear hak hX hm hne
      have rB : ∀ z : Wb w, Row z.at B (leafCells a u) 129 := Row.at HB.out
      have rL : ∀ z : Wb w, Row z.at LB (leafCells k v) 129 := Row.at HL.out
      have cB_0 : ∀ z : Wb w, z.at.cell? ⟨B, 0, none⟩ = some (.int .u64 (a : Int)) := fun z => (rB z).cell 0
      have cB_3 : ∀ z : Wb w, z.at.cell? ⟨B, 3, none⟩ = some (.pointer none) := fun z => (rB z).cell 3
      have fB : ∀ (z : Wb w) (i : Nat), z.at.frozen? ⟨B, i, none⟩ = false := fun z i => (rB z).free i
      have cL_0 : ∀ z : Wb w, z.at.cell? ⟨LB, 0, none⟩ = some (.int .u64 (k : Int)) := fun z => (rL z).cell 0
      have fL : ∀ (z : Wb w) (i : Nat), z.at.frozen? ⟨LB, i, none⟩ = false := fun z i => (rL z).free i
      go_enter Try.func71, Try.ntmps71
      go_wp2_with fail
      refine wp_region_wb (by kernel_rfl) (by kernel_rfl) ?_
      repeat (go_big_quiet_step (fail))
      refine wpQuiet_nil ?_
      rintro _ ⟨z1, rfl⟩
      go_upto_region 3 with fail
      refine to_pt ?_
      intro U1 hU1
      have bU1 : Below w.heap.size w U1 := (z1.bel).trans (hU1.mono (z1.bel).size)
      clear cB_0 cB_3 fB cL_0 fL
      have rB : ∀ z : Wb U1, Row z.at B (leafCells a u) 129 := Row.at (HB.out.below bU1)
      have rL : ∀ z : Wb U1, Row z.at LB (leafCells k v) 129 := Row.at (HL.out.below bU1)
      have cB_0 : ∀ z : Wb U1, z.at.cell? ⟨B, 0, none⟩ = some (.int .u64 (a : Int)) := fun z => (rB z).cell 0
      have cB_3 : ∀ z : Wb U1, z.at.cell? ⟨B, 3, none⟩ = some (.pointer none) := fun z => (rB z).cell 3
      have fB : ∀ (z : Wb U1) (i : Nat), z.at.frozen? ⟨B, i, none⟩ = false := fun z i => (rB z).free i
      have cL_0 : ∀ z : Wb U1, z.at.cell? ⟨LB, 0, none⟩ = some (.int .u64 (k : Int)) := fun z => (rL z).cell 0
      have fL : ∀ (z : Wb U1) (i : Nat), z.at.frozen? ⟨LB, i, none⟩ = false := fun z i => (rL z).free i
      refine wp_region_wb (by kernel_rfl) (by kernel_rfl) ?_
      repeat (go_big_quiet_step (fail))
      refine wpQuiet_nil ?_
      rintro _ ⟨z2, rfl⟩
      clear XOR
      go_upto_region 10 with fail
      refine to_pt ?_
      intro U2 hU2
      have bU2 : Below w.heap.size w U2 := (bU1.trans (z2.bel.mono bU1.size)).trans (hU2.mono (bU1.trans (z2.bel.mono bU1.size)).size)
      clear cB_0 cB_3 fB cL_0 fL
      have rB : ∀ z : Wb U2, Row z.at B (leafCells a u) 129 := Row.at (HB.out.below bU2)
      have rL : ∀ z : Wb U2, Row z.at LB (leafCells k v) 129 := Row.at (HL.out.below bU2)
      have cB_0 : ∀ z : Wb U2, z.at.cell? ⟨B, 0, none⟩ = some (.int .u64 (a : Int)) := fun z => (rB z).cell 0
      have cB_3 : ∀ z : Wb U2, z.at.cell? ⟨B, 3, none⟩ = some (.pointer none) := fun z => (rB z).cell 3
      have fB : ∀ (z : Wb U2) (i : Nat), z.at.frozen? ⟨B, i, none⟩ = false := fun z i => (rB z).free i
      have cL_0 : ∀ z : Wb U2, z.at.cell? ⟨LB, 0, none⟩ = some (.int .u64 (k : Int)) := fun z => (rL z).cell 0
      have fL : ∀ (z : Wb U2) (i : Nat), z.at.frozen? ⟨LB, i, none⟩ = false := fun z i => (rL z).free i
      have LEN := Lib.hid (fun (z : Wb U2) => Calls.same_below (len64_any X z.at XL.out) (Below.refl _ _))
      have W1 := WM.out
      refine wp_region_wb_tail 10 (by kernel_rfl) (by kernel_rfl) ?_
      simp only [List.take_succ_cons, List.take_zero, List.drop_succ_cons, List.drop_zero]
      repeat (go_big_quiet_step ((go_at_call 72; exact Calls.wb (LEN.out _))))
      refine wpQuiet_nil ?_
      rintro _ ⟨z3, rfl⟩
      clear W1 LEN
      go_upto_region 11 with fail
      refine to_pt ?_
      intro U3 hU3
      have q3 : Below w.heap.size w z3.at := bU2.trans (z3.bel.mono bU2.size)
      have b3 : Below w.heap.size w U3 := (KB.alloc q3 _).trans (hU3.mono (KB.alloc q3 _).size)
      have p3 : Below z3.at.heap.size z3.at U3 := KB.alloc (Below.refl _ _) _ |>.trans (hU3.mono (by simp))
      clear cB_0 cB_3 fB cL_0 fL
      have rL : ∀ z : Wb U3, Row z.at LB (leafCells k v) 129 := Row.at (HL.out.below b3)
      have cL_0 : ∀ z : Wb U3, z.at.cell? ⟨LB, 0, none⟩ = some (.int .u64 (k : Int)) := fun z => (rL z).cell 0
      have fL : ∀ (z : Wb U3) (i : Nat), z.at.frozen? ⟨LB, i, none⟩ = false := fun z i => (rL z).free i
      have rP : ∀ z : Wb U3, Row z.at z3.at.heap.size [.int .u64 (k : Int), .int .u64 0, .int .i64 (m : Int), .pointer (some ⟨LB, 0, none⟩), .pointer (some ⟨B, 0, none⟩)] 129 := Row.next (Row.new _ [.int .u64 (k : Int), .int .u64 0, .int .i64 (m : Int), .pointer (some ⟨LB, 0, none⟩), .pointer (some ⟨B, 0, none⟩)] _) hU3
      obtain ⟨P, hP⟩ : ∃ P, P = z3.at.heap.size := ⟨_, rfl⟩
      rw [← hP] at rP
      simp only [← hP]
      have HP := Lib.hid hP
      clear hP
      have cP_2 : ∀ z : Wb U3, z.at.cell? ⟨P, 2, none⟩ = some (.int .i64 (m : Int)) := fun z => (rP z).cell 2
      have cP_3 : ∀ z : Wb U3, z.at.cell? ⟨P, 3, none⟩ = some (.pointer (some ⟨LB, 0, none⟩)) := fun z => (rP z).cell 3
      have cP_4 : ∀ z : Wb U3, z.at.cell? ⟨P, 4, none⟩ = some (.pointer (some ⟨B, 0, none⟩)) := fun z => (rP z).cell 4
      have fP : ∀ (z : Wb U3) (i : Nat), z.at.frozen? ⟨P, i, none⟩ = false := fun z i => (rP z).free i
      have BA := bit_and m k hk
      have m0 : (0 : Int) ≤ (m : Int) := by omega
      have m1 : (m : Int) < 64 := by have := M64.out; omega
      have m2 : m < 64 := M64.out
      by_cases c : bit m k = 1
      · have BA1 : (bits .and .u64 ((k : Int) / 2 ^ m) 1 == 1) = true := by rw [bit_and1 m k hk, decide_eq_true c]
        clear BA
        refine wp_region_wb (by kernel_rfl) (by kernel_rfl) ?_
        repeat (go_big_quiet_step (fail))
        refine wpQuiet_nil ?_
        rintro _ ⟨z4, rfl⟩
        go_wp2
        go_ret
        have q4 : Below P z3.at ((z4.at.setCell ⟨P, 3, none⟩ (.pointer (some ⟨B, 0, none⟩))).setCell ⟨P, 4, none⟩ (.pointer (some ⟨LB, 0, none⟩))) := by rw [HP.out]; exact KB.put (KB.put (p3.trans (z4.bel.mono p3.size)) (Nat.le_refl _) 3 _) (Nat.le_refl _) 4 _
        refine ⟨P, rfl, q3.trans (q4.mono (by rw [HP.out]; exact q3.size)), ?_⟩
        rw [EJ.out]
        unfold join
        rw [if_pos (by rw [← MM.out]; exact c)]
        rw [← MM.out]
        exact ⟨hnew _ (by rw [HP.out]; exact q3.size), B, LB, ((rP z4).set 3 _).set 4 _, TrS.mono (fun _ h => h.1) _ _ (TrS.upto q4 (fun C h => by rw [HP.out]; exact h.2) _ B (TrS.lt _ B (TrS.below q3 _ B HT.out))), TrS.mono (fun _ h => h.1) _ _ (TrS.upto q4 (fun C h => by rw [HP.out]; exact h.2) (.leaf k v) LB (TrS.lt (.leaf k v) LB (TrS.below (S := S) q3 (.leaf k v) LB ⟨hLB, HL.out⟩)))⟩
      · have BA1 : (bits .and .u64 ((k : Int) / 2 ^ m) 1 == 1) = false := by rw [bit_and1 m k hk, decide_eq_false c]
        clear BA
        refine wp_region_wb (by kernel_rfl) (by kernel_rfl) ?_
        repeat (go_big_quiet_step (fail))
        refine wpQuiet_nil ?_
        rintro _ ⟨z4, rfl⟩
        go_wp2
        go_ret
        have q4 : Below P z3.at z4.at := by rw [HP.out]; exact p3.trans (z4.bel.mono p3.size)
        refine ⟨P, rfl, q3.trans (q4.mono (by rw [HP.out]; exact q3.size)), ?_⟩
        rw [EJ.out]
        unfold join
        rw [if_neg (by rw [← MM.out]; exact c)]
        rw [← MM.out]
        exact ⟨hnew _ (by rw [HP.out]; exact q3.size), LB, B, rP z4, TrS.mono (fun _ h => h.1) _ _ (TrS.upto q4 (fun C h => by rw [HP.out]; exact h.2) (.leaf k v) LB (TrS.lt (.leaf k v) LB (TrS.below (S := S) q3 (.leaf k v) LB ⟨hLB, HL.out⟩))), TrS.mono (fun _ h => h.1) _ _ (TrS.upto q4 (fun C h => by rw [HP.out]; exact h.2) _ B (TrS.lt _ B (TrS.below q3 _ B HT.out)))⟩
  | node a b l r ihl ihr =>
    intro B LB k v w h hw hLB hL hk hnew
    have ha : a < 18446744073709551616 := hw.2.1
    have HT := Lib.hid h
    obtain ⟨sB, x, y, hr, hl, hrr⟩ := h
    have HB := Lib.hid hr
    have HLs := Lib.hid hl
    have HRs := Lib.hid hrr
    have HL := Lib.hid hL
    have WL := Lib.hid hw.2.2.2.2.1
    have WR := Lib.hid hw.2.2.2.2.2
    have nb0 : (0 : Int) ≤ (b : Int) := by omega
    have nb1 : (b : Int) < 64 := by have := hw.1; omega
    have nb2 : b < 64 := hw.1
    clear hr hl hrr hL hw
    by_cases hc : (a ^^^ k) / 2 ^ b / 2 = 0
    · obtain ⟨X, hX⟩ : ∃ X, X = a ^^^ k := ⟨_, rfl⟩
      have XOR : bits .xor .u64 (a : Int) (k : Int) = (X : Int) := by rw [hX]; exact xor_nat a k ha hk
      have SH : ((X : Int) / 2 ^ b / 2 == 0) = true := by rw [shr_and X b, hX, decide_eq_true hc]
      by_cases c : bit b k = 0
      · have BA := bit_and b k hk
        rw [decide_eq_true c] at BA
        have EI := Lib.hid (show (Tr.node a b l r).ins k v = .node a b (l.ins k v) r by simp only [Tr.ins]; rw [if_pos hc, if_pos c])
        clear c hc hX
        clear ihr
        have rB : ∀ z : Wb w, Row z.at B (nodeCells a b x y) 129 := Row.at HB.out
        have rL : ∀ z : Wb w, Row z.at LB (leafCells k v) 129 := Row.at HL.out
        have cB_0 : ∀ z : Wb w, z.at.cell? ⟨B, 0, none⟩ = some (.int .u64 (a : Int)) := fun z => (rB z).cell 0
        have cB_2 : ∀ z : Wb w, z.at.cell? ⟨B, 2, none⟩ = some (.int .i64 (b : Int)) := fun z => (rB z).cell 2
        have cB_3 : ∀ z : Wb w, z.at.cell? ⟨B, 3, none⟩ = some (.pointer (some ⟨x, 0, none⟩)) := fun z => (rB z).cell 3
        have cB_4 : ∀ z : Wb w, z.at.cell? ⟨B, 4, none⟩ = some (.pointer (some ⟨y, 0, none⟩)) := fun z => (rB z).cell 4
        have cB_1 : ∀ z : Wb w, z.at.cell? ⟨B, 1, none⟩ = some (.int .u64 0) := fun z => (rB z).cell 1
        have fB : ∀ (z : Wb w) (i : Nat), z.at.frozen? ⟨B, i, none⟩ = false := fun z i => (rB z).free i
        have cL_0 : ∀ z : Wb w, z.at.cell? ⟨LB, 0, none⟩ = some (.int .u64 (k : Int)) := fun z => (rL z).cell 0
        have fL : ∀ (z : Wb w) (i : Nat), z.at.frozen? ⟨LB, i, none⟩ = false := fun z i => (rL z).free i
        go_enter Try.func71, Try.ntmps71
        go_wp2_with fail
        refine wp_region_wb (by kernel_rfl) (by kernel_rfl) ?_
        repeat (go_big_quiet_step (fail))
        refine wpQuiet_nil ?_
        rintro _ ⟨z1, rfl⟩
        go_upto_region 3 with fail
        refine to_pt ?_
        intro U1 hU1
        have bU1 : Below w.heap.size w U1 := (z1.bel).trans (hU1.mono (z1.bel).size)
        clear cB_0 cB_2 cB_3 cB_4 cB_1 fB cL_0 fL
        have rB : ∀ z : Wb U1, Row z.at B (nodeCells a b x y) 129 := Row.at (HB.out.below bU1)
        have rL : ∀ z : Wb U1, Row z.at LB (leafCells k v) 129 := Row.at (HL.out.below bU1)
        have cB_0 : ∀ z : Wb U1, z.at.cell? ⟨B, 0, none⟩ = some (.int .u64 (a : Int)) := fun z => (rB z).cell 0
        have cB_2 : ∀ z : Wb U1, z.at.cell? ⟨B, 2, none⟩ = some (.int .i64 (b : Int)) := fun z => (rB z).cell 2
        have cB_3 : ∀ z : Wb U1, z.at.cell? ⟨B, 3, none⟩ = some (.pointer (some ⟨x, 0, none⟩)) := fun z => (rB z).cell 3
        have cB_4 : ∀ z : Wb U1, z.at.cell? ⟨B, 4, none⟩ = some (.pointer (some ⟨y, 0, none⟩)) := fun z => (rB z).cell 4
        have cB_1 : ∀ z : Wb U1, z.at.cell? ⟨B, 1, none⟩ = some (.int .u64 0) := fun z => (rB z).cell 1
        have fB : ∀ (z : Wb U1) (i : Nat), z.at.frozen? ⟨B, i, none⟩ = false := fun z i => (rB z).free i
        have cL_0 : ∀ z : Wb U1, z.at.cell? ⟨LB, 0, none⟩ = some (.int .u64 (k : Int)) := fun z => (rL z).cell 0
        have fL : ∀ (z : Wb U1) (i : Nat), z.at.frozen? ⟨LB, i, none⟩ = false := fun z i => (rL z).free i
        refine wp_region_wb (by kernel_rfl) (by kernel_rfl) ?_
        repeat (go_big_quiet_step (fail))
        refine wpQuiet_nil ?_
        rintro _ ⟨z2, rfl⟩
        clear XOR
        go_upto_region 6 with fail
        have q2 : Below w.heap.size w z2.at := bU1.trans (z2.bel.mono bU1.size)
        refine to_pt ?_
        intro U2 hU2
        have bU2 : Below w.heap.size w U2 := (KB.alloc q2 _).trans (hU2.mono (KB.alloc q2 _).size)
        have p2 : Below z2.at.heap.size z2.at U2 := KB.alloc (Below.refl _ _) _ |>.trans (hU2.mono (by simp))
        clear cB_0 cB_2 cB_3 cB_4 cB_1 fB cL_0 fL
        clear SH
        have rB : ∀ z : Wb U2, Row z.at B (nodeCells a b x y) 129 := Row.at (HB.out.below bU2)
        have rL : ∀ z : Wb U2, Row z.at LB (leafCells k v) 129 := Row.at (HL.out.below bU2)
        have rP : ∀ z : Wb U2, Row z.at z2.at.heap.size (nodeCells a b x y) 129 := Row.next (Row.new _ (nodeCells a b x y) _) hU2
        obtain ⟨P, hP⟩ : ∃ P, P = z2.at.heap.size := ⟨_, rfl⟩
        rw [← hP] at rP p2
        simp only [← hP]
        have HP := Lib.hid hP
        clear hP
        have cB_0 : ∀ z : Wb U2, z.at.cell? ⟨B, 0, none⟩ = some (.int .u64 (a : Int)) := fun z => (rB z).cell 0
        have cB_2 : ∀ z : Wb U2, z.at.cell? ⟨B, 2, none⟩ = some (.int .i64 (b : Int)) := fun z => (rB z).cell 2
        have cB_3 : ∀ z : Wb U2, z.at.cell? ⟨B, 3, none⟩ = some (.pointer (some ⟨x, 0, none⟩)) := fun z => (rB z).cell 3
        have cB_4 : ∀ z : Wb U2, z.at.cell? ⟨B, 4, none⟩ = some (.pointer (some ⟨y, 0, none⟩)) := fun z => (rB z).cell 4
        have cB_1 : ∀ z : Wb U2, z.at.cell? ⟨B, 1, none⟩ = some (.int .u64 0) := fun z => (rB z).cell 1
        have fB : ∀ (z : Wb U2) (i : Nat), z.at.frozen? ⟨B, i, none⟩ = false := fun z i => (rB z).free i
        have cL_0 : ∀ z : Wb U2, z.at.cell? ⟨LB, 0, none⟩ = some (.int .u64 (k : Int)) := fun z => (rL z).cell 0
        have fL : ∀ (z : Wb U2) (i : Nat), z.at.frozen? ⟨LB, i, none⟩ = false := fun z i => (rL z).free i
        have cP_0 : ∀ z : Wb U2, z.at.cell? ⟨P, 0, none⟩ = some (.int .u64 (a : Int)) := fun z => (rP z).cell 0
        have cP_2 : ∀ z : Wb U2, z.at.cell? ⟨P, 2, none⟩ = some (.int .i64 (b : Int)) := fun z => (rP z).cell 2
        have cP_3 : ∀ z : Wb U2, z.at.cell? ⟨P, 3, none⟩ = some (.pointer (some ⟨x, 0, none⟩)) := fun z => (rP z).cell 3
        have cP_4 : ∀ z : Wb U2, z.at.cell? ⟨P, 4, none⟩ = some (.pointer (some ⟨y, 0, none⟩)) := fun z => (rP z).cell 4
        have cP_1 : ∀ z : Wb U2, z.at.cell? ⟨P, 1, none⟩ = some (.int .u64 0) := fun z => (rP z).cell 1
        have fP : ∀ (z : Wb U2) (i : Nat), z.at.frozen? ⟨P, i, none⟩ = false := fun z i => (rP z).free i
        refine wp_region_wb (by kernel_rfl) (by kernel_rfl) ?_
        repeat (go_big_quiet_step (fail))
        refine wpQuiet_nil ?_
        rintro _ ⟨z3, rfl⟩
        have q3 : Below w.heap.size w z3.at := bU2.trans (z3.bel.mono bU2.size)
        have p3 : Below P z2.at z3.at := p2.trans (z3.bel.mono (by have := p2.size; rw [HP.out]; exact this))
        have wP : w.heap.size ≤ P := by rw [HP.out]; exact q2.size
        have lbP : LB < P := Nat.lt_of_lt_of_le HL.out.lt wP
        have IH := Lib.hid (ihl (fun C => S C ∧ C ≠ P) x LB k v z3.at (TrS.mono (fun C h => ⟨h.1, by have := h.2; rw [← HP.out] at this; omega⟩) _ _ (TrS.upto p3 (fun C h => by rw [HP.out]; exact h.2) _ x (TrS.lt _ x (TrS.below q2 _ x HLs.out)))) WL.out ⟨hLB, by omega⟩ (HL.out.below q3) hk (fun C hC => ⟨hnew C (Nat.le_trans q3.size hC), by have := (rP z3).lt; omega⟩))
        clear ihl
        go_wp2_with fail
        refine IH.out.mono ?_
        rintro e w4 ⟨B2, rfl, b4, t4⟩
        have T4 := Lib.hid t4
        clear t4 IH
        obtain ⟨z4, rfl⟩ := Wb.next (x := z3) b4
        have B4 := Lib.hid b4
        clear b4
        go_wp2
        go_ret
        have q4 : Below w.heap.size w z4.at := bU2.trans (z4.bel.mono bU2.size)
        have p4 : Below P z2.at z4.at := p2.trans (z4.bel.mono (by have := p2.size; rw [HP.out]; exact this))
        refine ⟨P, rfl, KB.put q4 wP 3 _, ?_⟩
        rw [EI.out]
        have TO := TrS.mono (fun C (h : S C ∧ C < z2.at.heap.size) => (⟨h.1, by have := h.2; rw [← HP.out] at this; omega⟩ : S C ∧ C ≠ P)) _ _ (TrS.upto p4 (fun C h => by rw [HP.out]; exact h.2) _ y (TrS.lt _ y (TrS.below q2 _ y HRs.out)))
        exact ⟨hnew P wP, B2, y, (rP z4).set 3 _, TrS.mono (fun _ h => h.1) _ _ (TrS.set (fun h => h.2 rfl) 3 _ _ B2 T4.out), TrS.mono (fun _ h => h.1) _ _ (TrS.set (fun h => h.2 rfl) 3 _ _ y TO)⟩
      · have BA := bit_and b k hk
        rw [decide_eq_false c] at BA
        have EI := Lib.hid (show (Tr.node a b l r).ins k v = .node a b l (r.ins k v) by simp only [Tr.ins]; rw [if_pos hc, if_neg c])
        clear c hc hX
        clear ihl
        have rB : ∀ z : Wb w, Row z.at B (nodeCells a b x y) 129 := Row.at HB.out
        have rL : ∀ z : Wb w, Row z.at LB (leafCells k v) 129 := Row.at HL.out
        have cB_0 : ∀ z : Wb w, z.at.cell? ⟨B, 0, none⟩ = some (.int .u64 (a : Int)) := fun z => (rB z).cell 0
        have cB_2 : ∀ z : Wb w, z.at.cell? ⟨B, 2, none⟩ = some (.int .i64 (b : Int)) := fun z => (rB z).cell 2
        have cB_3 : ∀ z : Wb w, z.at.cell? ⟨B, 3, none⟩ = some (.pointer (some ⟨x, 0, none⟩)) := fun z => (rB z).cell 3
        have cB_4 : ∀ z : Wb w, z.at.cell? ⟨B, 4, none⟩ = some (.pointer (some ⟨y, 0, none⟩)) := fun z => (rB z).cell 4
        have cB_1 : ∀ z : Wb w, z.at.cell? ⟨B, 1, none⟩ = some (.int .u64 0) := fun z => (rB z).cell 1
        have fB : ∀ (z : Wb w) (i : Nat), z.at.frozen? ⟨B, i, none⟩ = false := fun z i => (rB z).free i
        have cL_0 : ∀ z : Wb w, z.at.cell? ⟨LB, 0, none⟩ = some (.int .u64 (k : Int)) := fun z => (rL z).cell 0
        have fL : ∀ (z : Wb w) (i : Nat), z.at.frozen? ⟨LB, i, none⟩ = false := fun z i => (rL z).free i
        go_enter Try.func71, Try.ntmps71
        go_wp2_with fail
        refine wp_region_wb (by kernel_rfl) (by kernel_rfl) ?_
        repeat (go_big_quiet_step (fail))
        refine wpQuiet_nil ?_
        rintro _ ⟨z1, rfl⟩
        go_upto_region 3 with fail
        refine to_pt ?_
        intro U1 hU1
        have bU1 : Below w.heap.size w U1 := (z1.bel).trans (hU1.mono (z1.bel).size)
        clear cB_0 cB_2 cB_3 cB_4 cB_1 fB cL_0 fL
        have rB : ∀ z : Wb U1, Row z.at B (nodeCells a b x y) 129 := Row.at (HB.out.below bU1)
        have rL : ∀ z : Wb U1, Row z.at LB (leafCells k v) 129 := Row.at (HL.out.below bU1)
        have cB_0 : ∀ z : Wb U1, z.at.cell? ⟨B, 0, none⟩ = some (.int .u64 (a : Int)) := fun z => (rB z).cell 0
        have cB_2 : ∀ z : Wb U1, z.at.cell? ⟨B, 2, none⟩ = some (.int .i64 (b : Int)) := fun z => (rB z).cell 2
        have cB_3 : ∀ z : Wb U1, z.at.cell? ⟨B, 3, none⟩ = some (.pointer (some ⟨x, 0, none⟩)) := fun z => (rB z).cell 3
        have cB_4 : ∀ z : Wb U1, z.at.cell? ⟨B, 4, none⟩ = some (.pointer (some ⟨y, 0, none⟩)) := fun z => (rB z).cell 4
        have cB_1 : ∀ z : Wb U1, z.at.cell? ⟨B, 1, none⟩ = some (.int .u64 0) := fun z => (rB z).cell 1
        have fB : ∀ (z : Wb U1) (i : Nat), z.at.frozen? ⟨B, i, none⟩ = false := fun z i => (rB z).free i
        have cL_0 : ∀ z : Wb U1, z.at.cell? ⟨LB, 0, none⟩ = some (.int .u64 (k : Int)) := fun z => (rL z).cell 0
        have fL : ∀ (z : Wb U1) (i : Nat), z.at.frozen? ⟨LB, i, none⟩ = false := fun z i => (rL z).free i
        refine wp_region_wb (by kernel_rfl) (by kernel_rfl) ?_
        repeat (go_big_quiet_step (fail))
        refine wpQuiet_nil ?_
        rintro _ ⟨z2, rfl⟩
        clear XOR
        go_upto_region 6 with fail
        have q2 : Below w.heap.size w z2.at := bU1.trans (z2.bel.mono bU1.size)
        refine to_pt ?_
        intro U2 hU2
        have bU2 : Below w.heap.size w U2 := (KB.alloc q2 _).trans (hU2.mono (KB.alloc q2 _).size)
        have p2 : Below z2.at.heap.size z2.at U2 := KB.alloc (Below.refl _ _) _ |>.trans (hU2.mono (by simp))
        clear cB_0 cB_2 cB_3 cB_4 cB_1 fB cL_0 fL
        clear SH
        have rB : ∀ z : Wb U2, Row z.at B (nodeCells a b x y) 129 := Row.at (HB.out.below bU2)
        have rL : ∀ z : Wb U2, Row z.at LB (leafCells k v) 129 := Row.at (HL.out.below bU2)
        have rP : ∀ z : Wb U2, Row z.at z2.at.heap.size (nodeCells a b x y) 129 := Row.next (Row.new _ (nodeCells a b x y) _) hU2
        obtain ⟨P, hP⟩ : ∃ P, P = z2.at.heap.size := ⟨_, rfl⟩
        rw [← hP] at rP p2
        simp only [← hP]
        have HP := Lib.hid hP
        clear hP
        have cB_0 : ∀ z : Wb U2, z.at.cell? ⟨B, 0, none⟩ = some (.int .u64 (a : Int)) := fun z => (rB z).cell 0
        have cB_2 : ∀ z : Wb U2, z.at.cell? ⟨B, 2, none⟩ = some (.int .i64 (b : Int)) := fun z => (rB z).cell 2
        have cB_3 : ∀ z : Wb U2, z.at.cell? ⟨B, 3, none⟩ = some (.pointer (some ⟨x, 0, none⟩)) := fun z => (rB z).cell 3
        have cB_4 : ∀ z : Wb U2, z.at.cell? ⟨B, 4, none⟩ = some (.pointer (some ⟨y, 0, none⟩)) := fun z => (rB z).cell 4
        have cB_1 : ∀ z : Wb U2, z.at.cell? ⟨B, 1, none⟩ = some (.int .u64 0) := fun z => (rB z).cell 1
        have fB : ∀ (z : Wb U2) (i : Nat), z.at.frozen? ⟨B, i, none⟩ = false := fun z i => (rB z).free i
        have cL_0 : ∀ z : Wb U2, z.at.cell? ⟨LB, 0, none⟩ = some (.int .u64 (k : Int)) := fun z => (rL z).cell 0
        have fL : ∀ (z : Wb U2) (i : Nat), z.at.frozen? ⟨LB, i, none⟩ = false := fun z i => (rL z).free i
        have cP_0 : ∀ z : Wb U2, z.at.cell? ⟨P, 0, none⟩ = some (.int .u64 (a : Int)) := fun z => (rP z).cell 0
        have cP_2 : ∀ z : Wb U2, z.at.cell? ⟨P, 2, none⟩ = some (.int .i64 (b : Int)) := fun z => (rP z).cell 2
        have cP_3 : ∀ z : Wb U2, z.at.cell? ⟨P, 3, none⟩ = some (.pointer (some ⟨x, 0, none⟩)) := fun z => (rP z).cell 3
        have cP_4 : ∀ z : Wb U2, z.at.cell? ⟨P, 4, none⟩ = some (.pointer (some ⟨y, 0, none⟩)) := fun z => (rP z).cell 4
        have cP_1 : ∀ z : Wb U2, z.at.cell? ⟨P, 1, none⟩ = some (.int .u64 0) := fun z => (rP z).cell 1
        have fP : ∀ (z : Wb U2) (i : Nat), z.at.frozen? ⟨P, i, none⟩ = false := fun z i => (rP z).free i
        refine wp_region_wb (by kernel_rfl) (by kernel_rfl) ?_
        repeat (go_big_quiet_step (fail))
        refine wpQuiet_nil ?_
        rintro _ ⟨z3, rfl⟩
        have q3 : Below w.heap.size w z3.at := bU2.trans (z3.bel.mono bU2.size)
        have p3 : Below P z2.at z3.at := p2.trans (z3.bel.mono (by have := p2.size; rw [HP.out]; exact this))
        have wP : w.heap.size ≤ P := by rw [HP.out]; exact q2.size
        have lbP : LB < P := Nat.lt_of_lt_of_le HL.out.lt wP
        have IH := Lib.hid (ihr (fun C => S C ∧ C ≠ P) y LB k v z3.at (TrS.mono (fun C h => ⟨h.1, by have := h.2; rw [← HP.out] at this; omega⟩) _ _ (TrS.upto p3 (fun C h => by rw [HP.out]; exact h.2) _ y (TrS.lt _ y (TrS.below q2 _ y HRs.out)))) WR.out ⟨hLB, by omega⟩ (HL.out.below q3) hk (fun C hC => ⟨hnew C (Nat.le_trans q3.size hC), by have := (rP z3).lt; omega⟩))
        clear ihr
        go_wp2_with fail
        refine IH.out.mono ?_
        rintro e w4 ⟨B2, rfl, b4, t4⟩
        have T4 := Lib.hid t4
        clear t4 IH
        obtain ⟨z4, rfl⟩ := Wb.next (x := z3) b4
        have B4 := Lib.hid b4
        clear b4
        go_wp2
        go_ret
        have q4 : Below w.heap.size w z4.at := bU2.trans (z4.bel.mono bU2.size)
        have p4 : Below P z2.at z4.at := p2.trans (z4.bel.mono (by have := p2.size; rw [HP.out]; exact this))
        refine ⟨P, rfl, KB.put q4 wP 4 _, ?_⟩
        rw [EI.out]
        have TO := TrS.mono (fun C (h : S C ∧ C < z2.at.heap.size) => (⟨h.1, by have := h.2; rw [← HP.out] at this; omega⟩ : S C ∧ C ≠ P)) _ _ (TrS.upto p4 (fun C h => by rw [HP.out]; exact h.2) _ x (TrS.lt _ x (TrS.below q2 _ x HLs.out)))
        exact ⟨hnew P wP, x, B2, (rP z4).set 4 _, TrS.mono (fun _ h => h.1) _ _ (TrS.set (fun h => h.2 rfl) 4 _ _ x TO), TrS.mono (fun _ h => h.1) _ _ (TrS.set (fun h => h.2 rfl) 4 _ _ B2 T4.out)⟩
    · have hne : a ≠ k := fun e => hc (by rw [e, Nat.xor_self]; simp)
      obtain ⟨X, hX⟩ : ∃ X, X = a ^^^ k := ⟨_, rfl⟩
      have XOR : bits .xor .u64 (a : Int) (k : Int) = (X : Int) := by rw [hX]; exact xor_nat a k ha hk
      have XL := Lib.hid (show X < 18446744073709551616 by rw [hX]; exact Nat.xor_lt_two_pow (n := 64) (by simpa using ha) (by simpa using hk))
      obtain ⟨m, hm⟩ : ∃ m, m = bitLen X - 1 := ⟨_, rfl⟩
      have M64 := Lib.hid (show m < 64 by rw [hm, hX]; exact part_lt ha hk hne)
      have MM := Lib.hid (show m = bitLen ((.node a b l r : Tr).key ^^^ k) - 1 by rw [hm, hX]; rfl)
      have WM := Lib.hid (show wrap64 (((bitLen X : Nat) : Int) - 1) = (m : Int) from wrap_len X m (by rw [hX]; exact fun h => hne ((xor_zero _ _).1 h)) hm XL.out)
      have EJ := Lib.hid (show (.node a b l r : Tr).ins k v = join (.node a b l r) k v by simp only [Tr.ins]; rw [if_neg hc])
      have SH : ((X : Int) / 2 ^ b / 2 == 0) = false := by rw [shr_and X b, hX, decide_eq_false hc]
      clear hc hX hm hne
      have rB : ∀ z : Wb w, Row z.at B (nodeCells a b x y) 129 := Row.at HB.out
      have rL : ∀ z : Wb w, Row z.at LB (leafCells k v) 129 := Row.at HL.out
      have cB_0 : ∀ z : Wb w, z.at.cell? ⟨B, 0, none⟩ = some (.int .u64 (a : Int)) := fun z => (rB z).cell 0
      have cB_2 : ∀ z : Wb w, z.at.cell? ⟨B, 2, none⟩ = some (.int .i64 (b : Int)) := fun z => (rB z).cell 2
      have cB_3 : ∀ z : Wb w, z.at.cell? ⟨B, 3, none⟩ = some (.pointer (some ⟨x, 0, none⟩)) := fun z => (rB z).cell 3
      have cB_4 : ∀ z : Wb w, z.at.cell? ⟨B, 4, none⟩ = some (.pointer (some ⟨y, 0, none⟩)) := fun z => (rB z).cell 4
      have cB_1 : ∀ z : Wb w, z.at.cell? ⟨B, 1, none⟩ = some (.int .u64 0) := fun z => (rB z).cell 1
      have fB : ∀ (z : Wb w) (i : Nat), z.at.frozen? ⟨B, i, none⟩ = false := fun z i => (rB z).free i
      have cL_0 : ∀ z : Wb w, z.at.cell? ⟨LB, 0, none⟩ = some (.int .u64 (k : Int)) := fun z => (rL z).cell 0
      have fL : ∀ (z : Wb w) (i : Nat), z.at.frozen? ⟨LB, i, none⟩ = false := fun z i => (rL z).free i
      go_enter Try.func71, Try.ntmps71
      go_wp2_with fail
      refine wp_region_wb (by kernel_rfl) (by kernel_rfl) ?_
      repeat (go_big_quiet_step (fail))
      refine wpQuiet_nil ?_
      rintro _ ⟨z1, rfl⟩
      go_upto_region 3 with fail
      refine to_pt ?_
      intro U1 hU1
      have bU1 : Below w.heap.size w U1 := (z1.bel).trans (hU1.mono (z1.bel).size)
      clear cB_0 cB_2 cB_3 cB_4 cB_1 fB cL_0 fL
      have rB : ∀ z : Wb U1, Row z.at B (nodeCells a b x y) 129 := Row.at (HB.out.below bU1)
      have rL : ∀ z : Wb U1, Row z.at LB (leafCells k v) 129 := Row.at (HL.out.below bU1)
      have cB_0 : ∀ z : Wb U1, z.at.cell? ⟨B, 0, none⟩ = some (.int .u64 (a : Int)) := fun z => (rB z).cell 0
      have cB_2 : ∀ z : Wb U1, z.at.cell? ⟨B, 2, none⟩ = some (.int .i64 (b : Int)) := fun z => (rB z).cell 2
      have cB_3 : ∀ z : Wb U1, z.at.cell? ⟨B, 3, none⟩ = some (.pointer (some ⟨x, 0, none⟩)) := fun z => (rB z).cell 3
      have cB_4 : ∀ z : Wb U1, z.at.cell? ⟨B, 4, none⟩ = some (.pointer (some ⟨y, 0, none⟩)) := fun z => (rB z).cell 4
      have cB_1 : ∀ z : Wb U1, z.at.cell? ⟨B, 1, none⟩ = some (.int .u64 0) := fun z => (rB z).cell 1
      have fB : ∀ (z : Wb U1) (i : Nat), z.at.frozen? ⟨B, i, none⟩ = false := fun z i => (rB z).free i
      have cL_0 : ∀ z : Wb U1, z.at.cell? ⟨LB, 0, none⟩ = some (.int .u64 (k : Int)) := fun z => (rL z).cell 0
      have fL : ∀ (z : Wb U1) (i : Nat), z.at.frozen? ⟨LB, i, none⟩ = false := fun z i => (rL z).free i
      refine wp_region_wb (by kernel_rfl) (by kernel_rfl) ?_
      repeat (go_big_quiet_step (fail))
      refine wpQuiet_nil ?_
      rintro _ ⟨z2, rfl⟩
      clear XOR
      go_upto_region 10 with fail
      refine to_pt ?_
      intro U2 hU2
      have bU2 : Below w.heap.size w U2 := (bU1.trans (z2.bel.mono bU1.size)).trans (hU2.mono (bU1.trans (z2.bel.mono bU1.size)).size)
      clear cB_0 cB_2 cB_3 cB_4 cB_1 fB cL_0 fL
      have rB : ∀ z : Wb U2, Row z.at B (nodeCells a b x y) 129 := Row.at (HB.out.below bU2)
      have rL : ∀ z : Wb U2, Row z.at LB (leafCells k v) 129 := Row.at (HL.out.below bU2)
      have cB_0 : ∀ z : Wb U2, z.at.cell? ⟨B, 0, none⟩ = some (.int .u64 (a : Int)) := fun z => (rB z).cell 0
      have cB_2 : ∀ z : Wb U2, z.at.cell? ⟨B, 2, none⟩ = some (.int .i64 (b : Int)) := fun z => (rB z).cell 2
      have cB_3 : ∀ z : Wb U2, z.at.cell? ⟨B, 3, none⟩ = some (.pointer (some ⟨x, 0, none⟩)) := fun z => (rB z).cell 3
      have cB_4 : ∀ z : Wb U2, z.at.cell? ⟨B, 4, none⟩ = some (.pointer (some ⟨y, 0, none⟩)) := fun z => (rB z).cell 4
      have cB_1 : ∀ z : Wb U2, z.at.cell? ⟨B, 1, none⟩ = some (.int .u64 0) := fun z => (rB z).cell 1
      have fB : ∀ (z : Wb U2) (i : Nat), z.at.frozen? ⟨B, i, none⟩ = false := fun z i => (rB z).free i
      have cL_0 : ∀ z : Wb U2, z.at.cell? ⟨LB, 0, none⟩ = some (.int .u64 (k : Int)) := fun z => (rL z).cell 0
      have fL : ∀ (z : Wb U2) (i : Nat), z.at.frozen? ⟨LB, i, none⟩ = false := fun z i => (rL z).free i
      have LEN := Lib.hid (fun (z : Wb U2) => Calls.same_below (len64_any X z.at XL.out) (Below.refl _ _))
      have W1 := WM.out
      refine wp_region_wb_tail 10 (by kernel_rfl) (by kernel_rfl) ?_
      simp only [List.take_succ_cons, List.take_zero, List.drop_succ_cons, List.drop_zero]
      repeat (go_big_quiet_step ((go_at_call 72; exact Calls.wb (LEN.out _))))
      refine wpQuiet_nil ?_
      rintro _ ⟨z3, rfl⟩
      clear W1 LEN SH
      go_upto_region 11 with fail
      refine to_pt ?_
      intro U3 hU3
      have q3 : Below w.heap.size w z3.at := bU2.trans (z3.bel.mono bU2.size)
      have b3 : Below w.heap.size w U3 := (KB.alloc q3 _).trans (hU3.mono (KB.alloc q3 _).size)
      have p3 : Below z3.at.heap.size z3.at U3 := KB.alloc (Below.refl _ _) _ |>.trans (hU3.mono (by simp))
      clear cB_0 cB_2 cB_3 cB_4 cB_1 fB cL_0 fL
      have rL : ∀ z : Wb U3, Row z.at LB (leafCells k v) 129 := Row.at (HL.out.below b3)
      have cL_0 : ∀ z : Wb U3, z.at.cell? ⟨LB, 0, none⟩ = some (.int .u64 (k : Int)) := fun z => (rL z).cell 0
      have fL : ∀ (z : Wb U3) (i : Nat), z.at.frozen? ⟨LB, i, none⟩ = false := fun z i => (rL z).free i
      have rP : ∀ z : Wb U3, Row z.at z3.at.heap.size [.int .u64 (k : Int), .int .u64 0, .int .i64 (m : Int), .pointer (some ⟨LB, 0, none⟩), .pointer (some ⟨B, 0, none⟩)] 129 := Row.next (Row.new _ [.int .u64 (k : Int), .int .u64 0, .int .i64 (m : Int), .pointer (some ⟨LB, 0, none⟩), .pointer (some ⟨B, 0, none⟩)] _) hU3
      obtain ⟨P, hP⟩ : ∃ P, P = z3.at.heap.size := ⟨_, rfl⟩
      rw [← hP] at rP
      simp only [← hP]
      have HP := Lib.hid hP
      clear hP
      have cP_2 : ∀ z : Wb U3, z.at.cell? ⟨P, 2, none⟩ = some (.int .i64 (m : Int)) := fun z => (rP z).cell 2
      have cP_3 : ∀ z : Wb U3, z.at.cell? ⟨P, 3, none⟩ = some (.pointer (some ⟨LB, 0, none⟩)) := fun z => (rP z).cell 3
      have cP_4 : ∀ z : Wb U3, z.at.cell? ⟨P, 4, none⟩ = some (.pointer (some ⟨B, 0, none⟩)) := fun z => (rP z).cell 4
      have fP : ∀ (z : Wb U3) (i : Nat), z.at.frozen? ⟨P, i, none⟩ = false := fun z i => (rP z).free i
      have BA := bit_and m k hk
      have m0 : (0 : Int) ≤ (m : Int) := by omega
      have m1 : (m : Int) < 64 := by have := M64.out; omega
      have m2 : m < 64 := M64.out
      by_cases c : bit m k = 1
      · have BA1 : (bits .and .u64 ((k : Int) / 2 ^ m) 1 == 1) = true := by rw [bit_and1 m k hk, decide_eq_true c]
        clear BA
        refine wp_region_wb (by kernel_rfl) (by kernel_rfl) ?_
        repeat (go_big_quiet_step (fail))
        refine wpQuiet_nil ?_
        rintro _ ⟨z4, rfl⟩
        go_wp2
        go_ret
        have q4 : Below P z3.at ((z4.at.setCell ⟨P, 3, none⟩ (.pointer (some ⟨B, 0, none⟩))).setCell ⟨P, 4, none⟩ (.pointer (some ⟨LB, 0, none⟩))) := by rw [HP.out]; exact KB.put (KB.put (p3.trans (z4.bel.mono p3.size)) (Nat.le_refl _) 3 _) (Nat.le_refl _) 4 _
        refine ⟨P, rfl, q3.trans (q4.mono (by rw [HP.out]; exact q3.size)), ?_⟩
        rw [EJ.out]
        unfold join
        rw [if_pos (by rw [← MM.out]; exact c)]
        rw [← MM.out]
        exact ⟨hnew _ (by rw [HP.out]; exact q3.size), B, LB, ((rP z4).set 3 _).set 4 _, TrS.mono (fun _ h => h.1) _ _ (TrS.upto q4 (fun C h => by rw [HP.out]; exact h.2) _ B (TrS.lt _ B (TrS.below q3 _ B HT.out))), TrS.mono (fun _ h => h.1) _ _ (TrS.upto q4 (fun C h => by rw [HP.out]; exact h.2) (.leaf k v) LB (TrS.lt (.leaf k v) LB (TrS.below (S := S) q3 (.leaf k v) LB ⟨hLB, HL.out⟩)))⟩
      · have BA1 : (bits .and .u64 ((k : Int) / 2 ^ m) 1 == 1) = false := by rw [bit_and1 m k hk, decide_eq_false c]
        clear BA
        refine wp_region_wb (by kernel_rfl) (by kernel_rfl) ?_
        repeat (go_big_quiet_step (fail))
        refine wpQuiet_nil ?_
        rintro _ ⟨z4, rfl⟩
        go_wp2
        go_ret
        have q4 : Below P z3.at z4.at := by rw [HP.out]; exact p3.trans (z4.bel.mono p3.size)
        refine ⟨P, rfl, q3.trans (q4.mono (by rw [HP.out]; exact q3.size)), ?_⟩
        rw [EJ.out]
        unfold join
        rw [if_neg (by rw [← MM.out]; exact c)]
        rw [← MM.out]
        exact ⟨hnew _ (by rw [HP.out]; exact q3.size), LB, B, rP z4, TrS.mono (fun _ h => h.1) _ _ (TrS.upto q4 (fun C h => by rw [HP.out]; exact h.2) (.leaf k v) LB (TrS.lt (.leaf k v) LB (TrS.below (S := S) q3 (.leaf k v) LB ⟨hLB, HL.out⟩))), TrS.mono (fun _ h => h.1) _ _ (TrS.upto q4 (fun C h => by rw [HP.out]; exact h.2) _ B (TrS.lt _ B (TrS.below q3 _ B HT.out)))⟩
end Go.Proofs.Ytnpgpbcpgniloaa
