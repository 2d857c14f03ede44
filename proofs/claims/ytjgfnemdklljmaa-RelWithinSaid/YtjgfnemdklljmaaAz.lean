/-
  Layer 1: Within; the law RelWithin.
-/
import Derived.Test.YtjgfnemdklljmaaAw
set_option linter.unusedSimpArgs false
set_option linter.unusedVariables false
namespace GrR
open Go
def withinM (T : Mx) (F G : List Bool) : Mx := fun i j => T i j && sB F i && sB G j
theorem RowW.set {p q : Nat} {t : Nat → Bool} (h : RowW p q t) (b : Nat) (hb : b < 128) :
    (b < 64 → RowW (p ||| 2 ^ (b % 64)) q (fun j => t j || j == b)) ∧ (¬ b < 64 → RowW p (q ||| 2 ^ (b % 64)) (fun j => t j || j == b)) := by
  have pw : 2 ^ (b % 64) < 2 ^ 64 := Nat.pow_lt_pow_right (by decide) (by omega)
  constructor
  · intro c
    refine ⟨Nat.or_lt_two_pow (n := 64) h.b0 pw, h.b1, fun j hj => ?_, fun j hj => ?_⟩
    · rw [Nat.testBit_or, h.t0 j hj, Nat.testBit_two_pow, Nat.mod_eq_of_lt c]
      congr 1
      by_cases e : j = b
      · simp [e]
      · have : ¬ b = j := fun h => e h.symm
        simp [e, this]
    · rw [h.t1 j hj]
      have : (64 + j == b) = false := by simp; omega
      rw [this, Bool.or_false]
  · intro c
    refine ⟨h.b0, Nat.or_lt_two_pow (n := 64) h.b1 pw, fun j hj => ?_, fun j hj => ?_⟩
    · rw [h.t0 j hj]
      have : (j == b) = false := by simp; omega
      rw [this, Bool.or_false]
    · rw [Nat.testBit_or, h.t1 j hj, Nat.testBit_two_pow]
      congr 1
      by_cases e : 64 + j = b
      · have : b % 64 = j := by omega
        simp [e, this]
      · have : ¬ b % 64 = j := by omega
        simp [e, this]
theorem RowW.zero : RowW 0 0 (fun _ => false) := ⟨by omega, by omega, fun j _ => by simp, fun j _ => by simp⟩
theorem RowW.ext {p q : Nat} {t u : Nat → Bool} (h : RowW p q t) (e : ∀ j, t j = u j) : RowW p q u := by
  have : t = u := funext e
  exact this ▸ h
end GrR
namespace Go.Proofs.Ytjgfnemdklljmaa
open Go.RowKit GrR
/-- a mask lies in a block -/
def MaskAt (w : World) (M : Nat) (t : Nat → Bool) : Prop := ∃ p q, Row w M [.int .u64 ((p : Nat) : Int), .int .u64 ((q : Nat) : Int)] 64 ∧ RowW p q t
theorem MaskAt.below {V U : World} {M : Nat} {t : Nat → Bool} (h : MaskAt V M t) (k : Below V.heap.size V U) : MaskAt U M t := by
  obtain ⟨p, q, h1, h2⟩ := h
  exact ⟨p, q, h1.below k, h2⟩
theorem MaskAt.ext {V : World} {M : Nat} {t u : Nat → Bool} (h : MaskAt V M t) (e : ∀ j, t j = u j) : MaskAt V M u := by
  obtain ⟨p, q, h1, h2⟩ := h
  exact ⟨p, q, h1, h2.ext e⟩
theorem mask_set (M : Nat) (t : Nat → Bool) (b : Nat) (w : World) (h : MaskAt w M t) (hb : b < 128) :
    Calls Try.prog 48 #[.pointer (some ⟨M, 0, none⟩), .int .i64 (b : Int)] w fun e w' => e = .returned (.tuple #[]) ∧ MaskAt w' M (fun j => t j || j == b) ∧ OnlyB M w w' := by
  obtain ⟨p, q, h1, h2⟩ := h
  have hs := h2.set b hb
  by_cases c : b < 64
  · have e0 : 0 + b / 64 = 0 := by omega
    refine (set_any M 0 b p w hb h2.b0 (by rw [e0]; exact h1.cell 0) (h1.free _)).mono ?_
    rintro e w' ⟨rfl, rfl⟩
    refine ⟨rfl, ⟨_, q, ?_, hs.1 c⟩, (OnlyB.set w _).drew⟩
    rw [e0]
    exact (h1.set 0 _).drew
  · have e0 : 0 + b / 64 = 1 := by omega
    refine (set_any M 0 b q w hb h2.b1 (by rw [e0]; exact h1.cell 1) (h1.free _)).mono ?_
    rintro e w' ⟨rfl, rfl⟩
    refine ⟨rfl, ⟨p, _, ?_, hs.2 c⟩, (OnlyB.set w _).drew⟩
    rw [e0]
    exact (h1.set 1 _).drew

set_option maxRecDepth 100000 in
set_option maxHeartbeats 1600000 in
theorem within_no (B n : Nat) (T : Mx) (p1 p2 : Option Addr) (l2 c1 c2 : Nat) (w : World) (hR : RelAt w B n T) (hl : l2 ≠ n) :
    Calls Try.prog 45 #[.pointer (some ⟨B, 0, none⟩), .slice p1 n c1, .slice p2 l2 c2] w fun e w' => e = .returned (.tuple #[.pointer none, .int .i64 10]) ∧ w = w' := by
  have c0 := hR.size
  have d1 : ((n : Int) != (n : Int)) = false := by simp
  have d2 : ((l2 : Int) != (n : Int)) = true := by simp; omega
  clear hR hl
  go_enter Try.func45, Try.ntmps45
  go_wp2
  exact bodyPost_ret (v := .tuple #[.pointer none, .int .i64 10]) (by simp [results, Try.results45, go_sem]) rfl ⟨rfl, rfl⟩

set_option maxRecDepth 100000 in
set_option maxHeartbeats 12800000 in
theorem within_any (B n : Nat) (T : Mx) (p1 p2 : Option Addr) (c1 c2 : Nat) (F G : List Bool) (w : World) (hR : RelAt w B n T) (hF : SlM w (.slice p1 n c1) F) (hG : SlM w (.slice p2 n c2) G) :
    Calls Try.prog 45 #[.pointer (some ⟨B, 0, none⟩), .slice p1 n c1, .slice p2 n c2] w fun e w' => ∃ O, w.heap.size ≤ O ∧ e = .returned (.tuple #[.pointer (some ⟨O, 0, none⟩), .int .i64 0]) ∧ RelAt w' O n (withinM T F G) ∧ Below w.heap.size w w' := by
  have HR := Lib.hid hR
  have HF := Lib.hid hF
  have HG := Lib.hid hG
  have EF := Lib.hid hF.len
  have EG := Lib.hid hG.len
  have M := Lib.hid hR.most
  have c0 := hR.size
  have d1 : ((n : Int) != (n : Int)) = false := by simp
  clear hR hF hG
  go_enter Try.func45, Try.ntmps45
  go_upto_region 4 with fail
  clear c0 d1
  refine to_cls ?_
  intro U0 hU0 z0
  have M0 := Lib.hid (show MaskAt z0.at w.heap.size (fun _ => false) from ⟨0, 0, Row.next (Row.new w [.int .u64 0, .int .u64 0] 64) hU0 z0, RowW.zero⟩)
  have B0 := Lib.hid (KB.next (KB.alloc (Below.refl _ w) (.cells #[.int .u64 0, .int .u64 0] 64)) hU0 z0)
  clear hU0
  go_wp2_with fail
  go_loopw [9, 10, 36] (fun _ _ i wr => ∃ k : Nat, k ≤ n ∧ i = .int .i64 (k : Int) ∧ MaskAt wr w.heap.size (fun j => decide (j < k) && sB G j) ∧ w.heap.size < wr.heap.size ∧ Below w.heap.size w wr) (fun _ _ i _ => n - (intOf i).toNat)
  case atStart => exact ⟨0, by omega, rfl, M0.out.ext (fun j => by simp), (by obtain ⟨_, _, h, _⟩ := M0.out; exact h.lt), B0.out⟩
  case round =>
    clear M0 B0
    obtain ⟨k, hk, rfl, hm, hz, hb⟩ := hrel
    have HM := Lib.hid hm
    have HZ := Lib.hid hz
    have HB := Lib.hid hb
    clear hm hz hb
    by_cases ck : k < n
    · have k1 : (k : Int) < (n : Int) := by omega
      have k0 : (0 : Int) ≤ (k : Int) := by omega
      have k2 : (n : Int) ≤ 128 := by have := M.out; omega
      obtain ⟨a, rfl⟩ := SlM.addr HG.out (by omega)
      have c0 := (HG.out.below HB.out).at k (by have := EG.out; omega)
      cases cs : sB G k with
      | false =>
        rw [cs] at c0
        go_wp2_with fail
        clear c0
        go_roundw
        case rel => exact ⟨k + 1, by omega, by go_num, HM.out.ext (fun j => by
          by_cases e : j = k
          · rw [e, cs]; simp
          · have : decide (j < k + 1) = decide (j < k) := by simp; omega
            rw [this]), HZ.out, HB.out⟩
        case measure => simp [intOf]; omega
      | true =>
        rw [cs] at c0
        have MS := Lib.hid (mask_set w.heap.size _ k wr HM.out (by omega))
        go_wp2_with fail
        refine MS.out.mono ?_
        rintro e w2 ⟨rfl, g1, g2⟩
        have M3 := Lib.hid (g1.ext (u := fun j => decide (j < k + 1) && sB G j) (fun j => by
          by_cases e : j = k
          · rw [e, cs]; simp
          · have : decide (j < k + 1) = decide (j < k) := by simp; omega
            have e2 : (j == k) = false := by simp [e]
            rw [this, e2, Bool.or_false]))
        have B3 := Lib.hid (HB.out.trans (g2.below (Nat.le_refl _) HB.out.size))
        have Z3 := Lib.hid (Nat.lt_of_lt_of_le HZ.out g2.size)
        clear g1 g2 c0
        go_wp2_with fail
        go_roundw
        case rel => exact ⟨k + 1, by omega, by go_num, M3.out, Z3.out, B3.out⟩
        case measure => simp [intOf]; omega
    · obtain rfl : k = n := by omega
      have i2 : ¬ (k : Int) < (k : Int) := by omega
      have c0 := (HR.out.below HB.out).size
      have HMM := Lib.hid HM.out
      clear HM
      go_upto_region 11 with fail
      clear c0
      refine to_cls ?_
      intro U hU z
      have R0 := Lib.hid ((((RelAt.new wr k M.out).below hU)).below z.bel)
      have B0 := Lib.hid (KB.next (KB.alloc HB.out (.cells ((Try.zeroCells67 : Array Value).setIfInBounds 0 (.int .i64 k)) 67)) hU z)
      have M0 := Lib.hid (((HMM.out.below (KB.alloc (Below.refl _ wr) (.cells ((Try.zeroCells67 : Array Value).setIfInBounds 0 (.int .i64 k)) 67))).below hU).below z.bel)
      clear hU
      obtain ⟨O, hO⟩ : ∃ O, O = wr.heap.size := ⟨_, rfl⟩
      have OL := Lib.hid (show w.heap.size < O by rw [hO]; exact HZ.out)
      rw [← hO] at R0
      simp only [← hO]
      clear hO HMM
      go_wp2_with fail
      go_loopw [12, 13, 53] (fun _ _ i wr => ∃ m : Nat, m ≤ k ∧ i = .int .i64 (m : Int) ∧ RelAt wr O k (fun i j => decide (i < m) && sB F i && (T i j && (decide (j < k) && sB G j))) ∧ MaskAt wr w.heap.size (fun j => decide (j < k) && sB G j) ∧ Below w.heap.size w wr) (fun _ _ i _ => k - (intOf i).toNat)
      case atStart => exact ⟨0, by omega, rfl, R0.out.eqT (fun i j => by simp [emptyM]), M0.out, B0.out⟩
      case round =>
        clear R0 M0 B0 HB HZ
        obtain ⟨m, hm, rfl, hr, hma, hb⟩ := hrel
        have RR := Lib.hid hr
        have MM := Lib.hid hma
        have HB := Lib.hid hb
        have fz := hr.free
        clear hr hma hb
        by_cases cm : m < k
        · have m1 : (m : Int) < (k : Int) := by omega
          have m0 : (0 : Int) ≤ (m : Int) := by omega
          have m2 : (k : Int) ≤ 128 := by have := M.out; omega
          obtain ⟨a, rfl⟩ := SlM.addr HF.out (by omega)
          have c0 := (HF.out.below HB.out).at m (by have := EF.out; omega)
          cases cs : sB F m with
          | false =>
            rw [cs] at c0
            clear fz
            go_wp2_with fail
            clear c0
            go_roundw
            case rel => exact ⟨m + 1, by omega, by go_num, RR.out.eqT (fun i j => by
              by_cases e : i = m
              · rw [e, cs]; simp
              · have : decide (i < m + 1) = decide (i < m) := by simp; omega
                rw [this]), MM.out, HB.out⟩
            case measure => simp [intOf]; omega
          | true =>
            rw [cs] at c0
            go_upto_region 15 with fail
            clear c0
            obtain ⟨p, q, r1, g1⟩ := HR.out.row2 m (by omega)
            obtain ⟨r, s, hrow, r2⟩ := MM.out
            obtain ⟨p9, q9, r9, g9⟩ := RR.out.row2 m (by omega)
            have E := Lib.hid (r1.win r2)
            have a0 : ∀ z : Wb wr, z.at.cell? ⟨B, 1 + m * 2, none⟩ = some (.int .u64 (p : Int)) := fun z => (g1 _ (KB.at HB.out z)).1
            have a1 : ∀ z : Wb wr, z.at.cell? ⟨B, 1 + m * 2 + 1, none⟩ = some (.int .u64 (q : Int)) := fun z => (g1 _ (KB.at HB.out z)).2
            have b0 : ∀ z : Wb wr, z.at.cell? ⟨w.heap.size, 0, none⟩ = some (.int .u64 (r : Int)) := fun z => (hrow.below z.bel).cell 0
            have b1 : ∀ z : Wb wr, z.at.cell? ⟨w.heap.size, 1, none⟩ = some (.int .u64 (s : Int)) := fun z => (hrow.below z.bel).cell 1
            have o0 : ∀ z : Wb wr, z.at.cell? ⟨O, 1 + m * 2, none⟩ = some (.int .u64 (p9 : Int)) := fun z => (g9 _ z.bel).1
            have o1 : ∀ z : Wb wr, z.at.cell? ⟨O, 1 + m * 2 + 1, none⟩ = some (.int .u64 (q9 : Int)) := fun z => (g9 _ z.bel).2
            have CC := Lib.hid (fun w => with_win p q r s w r1.b0 r1.b1 r2.b0 r2.b1)
            obtain ⟨v0, hv0⟩ : ∃ v, v = w_win p r := ⟨_, rfl⟩
            obtain ⟨v1, hv1⟩ : ∃ v, v = w_win q s := ⟨_, rfl⟩
            rw [← hv0, ← hv1] at E CC
            clear r1 r2 g1 g9 r9 hv0 hv1 hrow
            refine wp_region_wb_tail 13 (by kernel_rfl) (by kernel_rfl) ?_
            simp only [List.take_succ_cons, List.take_zero, List.drop_succ_cons, List.drop_zero]
            repeat (go_big_quiet_step ((go_at_call 58; with_reducible exact Calls.wb (x := _) (CC.out _))))
            refine wpQuiet_nil ?_
            rintro _ ⟨x1, rfl⟩
            clear a0 a1 b0 b1 CC
            go_wp2_with fail
            have R3 := Lib.hid (((RR.out.below x1.bel).setrow (t := fun j => T m j && (decide (j < k) && sB G j)) cm (fun j e => by
              simp only [Bool.and_eq_true, decide_eq_true_eq] at e
              exact e.2.1) E.out).eqT (U := fun i j => decide (i < m + 1) && sB F i && (T i j && (decide (j < k) && sB G j))) (fun i j => by
              unfold rowM
              by_cases e : i = m
              · rw [if_pos e, e, cs]; simp
              · rw [if_neg e]
                have : decide (i < m + 1) = decide (i < m) := by simp; omega
                rw [this]))
            have B3 := Lib.hid (KB.put (KB.put (KB.at HB.out x1) (Nat.le_of_lt OL.out) (1 + m * 2) (.int .u64 (v0 : Nat))) (Nat.le_of_lt OL.out) (1 + m * 2 + 1) (.int .u64 (v1 : Nat)))
            have M3 := Lib.hid (show MaskAt ((x1.at.setCell ⟨O, 1 + m * 2, none⟩ (.int .u64 (v0 : Nat))).setCell ⟨O, 1 + m * 2 + 1, none⟩ (.int .u64 (v1 : Nat))) w.heap.size (fun j => decide (j < k) && sB G j) from by
              obtain ⟨p, q, h1, h2⟩ := MM.out.below x1.bel
              exact ⟨p, q, (h1.oth (by have := OL.out; omega) _ _).oth (by have := OL.out; omega) _ _, h2⟩)
            go_roundw
            case rel => exact ⟨m + 1, by omega, by go_num, R3.out, M3.out, B3.out⟩
            case measure => simp [intOf]; omega
        · obtain rfl : m = k := by omega
          have i2 : ¬ (m : Int) < (m : Int) := by omega
          have SU := Lib.hid HR.out.sup
          clear fz
          go_wp2
          refine bodyPost_ret (v := .tuple #[.pointer (some ⟨O, 0, none⟩), .int .i64 0]) (by simp [results, Try.results45, go_sem]) rfl ⟨O, Nat.le_of_lt OL.out, rfl, RR.out.eqT (fun i j => ?_), HB.out⟩
          unfold withinM
          cases c : T i j with
          | false => simp
          | true =>
            have := SU.out i j c
            simp [this.1, this.2]

set_option maxRecDepth 100000 in
set_option maxHeartbeats 12800000 in
theorem RelWithin_walk (v v1 v2 : Value) (P : List Pr) (F G : List Bool) (w : World) (h : SlP w v P) (hF : SlM w v1 F) (hG : SlM w v2 G) :
    Calls Try.prog 10 #[v, v1, v2] w fun e w' => e = .returned (.bool true) ∧ Below w.heap.size w w' := by
  obtain ⟨p1, n1, c1, rfl⟩ := SlAt.form hF
  obtain ⟨p2, n2, c2, rfl⟩ := SlAt.form hG
  have EF := Lib.hid hF.len
  have EG := Lib.hid hG.len
  have S0 := Lib.hid h
  clear h
  have AW := Lib.hid (fun w => awake_any w)
  have F_0 := Lib.hid (hF)
  have G_0 := Lib.hid (hG)
  clear hF hG
  go_enter Try.func10, Try.ntmps10
  go_wp2_with fail
  refine (AW.out _).mono ?_
  rintro e w1 ⟨rfl, hb⟩
  have F_1 := Lib.hid (F_0.out.below hb)
  have G_1 := Lib.hid (G_0.out.below hb)
  have BW_1 := Lib.hid (hb)
  clear F_0 G_0
  clear hb
  go_wp2_with fail
  refine (bothZ (n1 : Int) _ P _ (S0.out.below BW_1.out)).mono ?_
  rintro e w2 ⟨pr, rfl, hb, hp⟩
  have F_2 := Lib.hid (F_1.out.below hb)
  have G_2 := Lib.hid (G_1.out.below hb)
  have BW_2 := Lib.hid (BW_1.out.trans (hb.mono BW_1.out.size))
  clear F_1 G_1 BW_1
  clear hb
  rcases hp with rfl | ⟨m1, B1, O1, e1, l1, rfl, hr, ht, lo1, hi1⟩
  · go_wp2; go_ret; exact ⟨rfl, BW_2.out⟩
  obtain rfl : m1 = n1 := by omega
  clear e1
  have R_2 := Lib.hid (hr)
  have T_2 := Lib.hid (ht)
  clear hr ht
  by_cases c6 : 200 < n2
  · have c7 : decide ((n2 : Int) > 200) = true := by simp; omega
    go_wp2; go_ret; exact ⟨rfl, BW_2.out⟩
  have c7 : decide ((n2 : Int) > 200) = false := by simp; omega
  by_cases c8 : n2 = m1
  · subst c8
    have c9 : ((n2 : Int) != (n2 : Int)) = false := by simp
    go_wp2_with fail
    refine (within_any B1 n2 _ p1 p2 c1 c2 F G _ R_2.out F_2.out G_2.out).mono ?_
    rintro e w3 ⟨WB, _, rfl, hr, hb⟩
    have F_3 := Lib.hid (F_2.out.below hb)
    have G_3 := Lib.hid (G_2.out.below hb)
    have R_3 := Lib.hid (R_2.out.below hb)
    have T_3 := Lib.hid (T_2.out.below hb)
    have BW_3 := Lib.hid (BW_2.out.trans (hb.mono BW_2.out.size))
    have W_3 := Lib.hid (hr)
    clear F_2 G_2 R_2 T_2 BW_2
    clear hr hb
    have F0 := Lib.hid F_3.out
    have G0 := Lib.hid G_3.out
    have T0 := Lib.hid T_3.out
    have W0 := Lib.hid W_3.out
    have BB0 := Lib.hid BW_3.out
    go_wp2_with fail
    refine (empty_any n2 _ (by omega)).mono ?_
    rintro e w4 ⟨rfl, hr, hb⟩
    have E9 := Lib.hid hr
    have EB := Lib.hid hb
    clear hr hb
    obtain ⟨EO, hEO⟩ : ∃ b, b = w3.heap.size := ⟨_, rfl⟩
    have EL := Lib.hid (show w3.heap.size ≤ EO by omega)
    rw [← hEO] at E9 ⊢
    clear hEO
    go_wp2_with fail
    clear c6 c7 c9
    go_loopw [13] (fun i wr => ∃ k : Nat, k ≤ n2 ∧ i = .int .i64 (k : Int) ∧ TabAt wr EO n2 (midF (withinM (ofM P) F G) k 0) ∧ Below w3.heap.size w3 wr) (fun i _ => n2 - (intOf i).toNat)
    case atStart => exact ⟨0, by omega, rfl, E9.out.eqT (fun i j hi hj => by simp [emptyM, midF]), EB.out⟩
    case round =>
      obtain ⟨k, hk, rfl, hr, hb⟩ := hrel
      have HR := Lib.hid hr
      have HW := Lib.hid hb
      clear hr hb
      by_cases ck : k < n2
      · have k1 : (k : Int) < (n2 : Int) := by omega
        have k0 : (0 : Int) ≤ (k : Int) := by omega
        have k2 : (n2 : Int) ≤ 40 := by omega
        go_wp2_with fail
        go_loopw [14] (fun i wr => ∃ m : Nat, m ≤ n2 ∧ i = .int .i64 (m : Int) ∧ TabAt wr EO n2 (midF (withinM (ofM P) F G) k m) ∧ Below w3.heap.size w3 wr) (fun i _ => n2 - (intOf i).toNat)
        case atStart => exact ⟨0, by omega, rfl, HR.out, HW.out⟩
        case round =>
          clear HR HW
          obtain ⟨m, hm, rfl, hr, hb⟩ := hrel
          have HR := Lib.hid hr
          have HW := Lib.hid hb
          clear hr hb
          by_cases cm : m < n2
          · have m1' : (m : Int) < (n2 : Int) := by omega
            have m0 : (0 : Int) ≤ (m : Int) := by omega
            obtain ⟨a1, rfl⟩ := SlM.addr F0.out (by omega)
            obtain ⟨a2, rfl⟩ := SlM.addr G0.out (by omega)
            have a0 : ∀ z : Wb wr, z.at.cell? ⟨O1, k, none⟩ = some (.slice (some ⟨O1 + 1 + k, 0, none⟩) n2 n2) := fun z => T0.out.row k ck _ (KB.at HW.out z)
            have a1' : ∀ z : Wb wr, z.at.cell? ⟨O1 + 1 + k, m, none⟩ = some (.bool (ofM P k m)) := fun z => T0.out.bit k m ck cm _ (KB.at HW.out z)
            have f0 : ∀ z : Wb wr, z.at.cell? (a1.add k) = some (.bool (sB F k)) := fun z => (F0.out.below (KB.at HW.out z)).at k (by have := EF.out; omega)
            have g0 : ∀ z : Wb wr, z.at.cell? (a2.add m) = some (.bool (sB G m)) := fun z => (G0.out.below (KB.at HW.out z)).at m (by have := EG.out; omega)
            have o0 : ∀ z : Wb wr, z.at.cell? ⟨EO, k, none⟩ = some (.slice (some ⟨EO + 1 + k, 0, none⟩) n2 n2) := fun z => HR.out.row k ck _ z.bel
            have o1 : ∀ z : Wb wr, z.at.cell? ⟨EO + 1 + k, m, none⟩ = some (.bool (midF (withinM (ofM P) F G) k m k m)) := fun z => HR.out.bit k m ck cm _ z.bel
            have of : ∀ (z : Wb wr) (i : Nat), z.at.frozen? ⟨EO + 1 + k, i, none⟩ = false := fun z i => HR.out.free k ck _ z.bel i
            obtain ⟨ob, hob⟩ : ∃ b, b = midF (withinM (ofM P) F G) k m k m := ⟨_, rfl⟩
            rw [← hob] at o1
            clear hob
            have PV := Lib.hid (show ∀ v, v = withinM (ofM P) F G k m → ∀ z : Wb wr, TabAt (z.at.setCell ⟨EO + 1 + k, m, none⟩ (.bool v)) EO n2 (midF (withinM (ofM P) F G) k (m + 1)) from fun v hv z => ((HR.out.below z.bel).put m v ck).eqT (fun i j _ _ => by rw [hv]; exact midF_put _ _ _ _ _))
            have BV := Lib.hid (fun (v : Value) (z : Wb wr) => KB.put (KB.at HW.out z) (show w3.heap.size ≤ EO + 1 + k by have := EL.out; omega) m v)
            have VV := Lib.hid (show withinM (ofM P) F G k m = (ofM P k m && sB F k && sB G m) from rfl)
            go_wp2_with fail
            cases ca : ofM P k m <;> cases cb : sB F k <;> cases cc : sB G m
            all_goals
              rw [ca] at a1'
              rw [cb] at f0
              rw [cc] at g0
              rw [ca, cb, cc] at VV
              refine wp_region_wb_tail 25 (by kernel_rfl) (by kernel_rfl) ?_
              simp only [List.take_succ_cons, List.take_zero, List.drop_succ_cons, List.drop_zero]
              repeat (go_big_quiet_step (fail))
              refine wpQuiet_nil ?_
              rintro _ ⟨x1, rfl⟩
              clear a0 a1' f0 g0
              go_wp2_with fail
              go_roundw
              case rel => exact ⟨m + 1, by omega, by go_num, PV.out _ (by rw [VV.out]; rfl) x1, BV.out _ x1⟩
              case measure => simp [intOf]; omega
          · obtain rfl : m = n2 := by omega
            have i2 : ¬ (m : Int) < (m : Int) := by omega
            go_wp2_with fail
            go_roundw
            case rel => exact ⟨k + 1, by omega, by go_num, HR.out.eqT (fun i j _ hj => midF_next _ _ _ _ _ hj), HW.out⟩
            case measure => simp [intOf]; omega
      · obtain rfl : k = n2 := by omega
        have i2 : ¬ (k : Int) < (k : Int) := by omega
        have IS := Lib.hid (is_any WB EO k (withinM (ofM P) F G) wr (W0.out.below HW.out) (HR.out.eqT (fun i j hi _ => midF_end _ _ _ _ hi)))
        go_wp2_with fail
        refine IS.out.mono ?_
        rintro e w9 ⟨rfl, hb⟩
        have B9 := Lib.hid (BB0.out.trans ((HW.out.trans (hb.mono HW.out.size)).mono BB0.out.size))
        clear hb
        go_wp2
        go_ret
        exact ⟨rfl, B9.out⟩
  · have c9 : ((n2 : Int) != (m1 : Int)) = true := by simp; omega
    have WN := Lib.hid (within_no B1 m1 (ofM P) p1 p2 n2 c1 c2 w2 R_2.out c8)
    go_wp2_with fail
    refine WN.out.mono ?_
    rintro e w9 ⟨rfl, rfl⟩
    go_wp2
    go_ret
    exact ⟨rfl, BW_2.out⟩
end Go.Proofs.Ytjgfnemdklljmaa
