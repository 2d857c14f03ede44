/-
  Layer 11, the walks: the page's right; Right.
-/
import Derived.Test.YtgpngjgilcbigaaDoorOe
set_option linter.unusedSimpArgs false
set_option linter.unusedVariables false
namespace GrC
def b0 (k : Int) (n : Nat) : Bool := decide (¬ (n : Int) = arity k)
def b3 (k r : Int) : Bool := decide (k = 1 ∧ (r < 0 ∨ 31 ≤ r))
theorem b1_or (k r : Int) (n : Nat) : b1 k r n = (b0 k n || b3 k r) := by
  unfold b1 b0 b3
  rw [Bool.eq_iff_iff]
  simp
end GrC
namespace Go.Proofs.YtgpngjgilcbigaaDoor
open Go.RowKit GrC

set_option maxRecDepth 100000 in
set_option maxHeartbeats 6400000 in
theorem rright_any (cores : Int) : ∀ (N : Nat), N ≤ 1099511627776 → ∀ (c : Cnd) (p : Option Addr) (n q : Nat) (w : World), c.cnt ≤ N → n = c.args.length → LAt w c.args p 0 → Calls Tryd.prog 25 #[.agg #[.int .i64 c.k, .int .i64 c.co, .int .i64 c.r, .int .u64 c.ad, .int .u64 c.va, .slice p n q], .int .i64 cores] w fun e w' => e = .returned (.int .i64 (c.right cores : Int)) ∧ Below w.heap.size w w' := by
  intro N
  induction N with
  | zero => intro _ c p n q w hc; have := cnt_pos c; omega
  | succ N ih =>
    intro hN c p n q w hc hn hl
    obtain ⟨ts, hts⟩ : ∃ ts, ts = c.args := ⟨_, rfl⟩
    have RC := right_eq cores c
    rw [← hts] at hn hl RC
    have HH := Lib.hid (ih (by omega))
    have HT := Lib.hid (show ∀ t ∈ ts, t.cnt ≤ N from fun t ht => by
      obtain ⟨i, hi, rfl⟩ := List.getElem_of_mem ht
      have := mem_cnt hi
      have := cnt_args c
      rw [← hts] at this
      omega)
    have HN := Lib.hid hn
    have LS := Lib.hid (show ts.length ≤ 1099511627776 by have := len_sum ts; have := cnt_args c; rw [← hts] at this; omega)
    rw [← hn] at RC
    have n9 : (n : Int) ≤ 1099511627776 := by have := LS.out; omega
    have n0 : (0 : Int) ≤ (n : Int) := by omega
    obtain ⟨kk, hkk⟩ : ∃ k, k = c.k := ⟨_, rfl⟩
    obtain ⟨cc, hcc⟩ : ∃ k, k = c.co := ⟨_, rfl⟩
    obtain ⟨rr, hrr⟩ : ∃ k, k = c.r := ⟨_, rfl⟩
    obtain ⟨aa, haa⟩ : ∃ k, k = c.ad := ⟨_, rfl⟩
    obtain ⟨vv, hvv⟩ : ∃ k, k = c.va := ⟨_, rfl⟩
    rw [← hkk, ← hcc, ← hrr] at RC
    rw [← hkk, ← hcc, ← hrr, ← haa, ← hvv]
    have E := Lib.hid RC
    clear ih hN hc RC hts hn hkk hcc hrr haa hvv
    go_enter Tryd.func25, Tryd.ntmps25
    go_upto_region 1 with fail
    refine to_cls ?_
    intro U0 hU0 y0
    have r_c : ∀ z : Wb U0, Row z.at w.heap.size [.int .i64 kk, .int .i64 cc, .int .i64 rr, .int .u64 aa, .int .u64 vv, .slice p n q] 25 := Row.next (Row.new _ [.int .i64 kk, .int .i64 cc, .int .i64 rr, .int .u64 aa, .int .u64 vv, .slice p n q] _) hU0
    have KK := Lib.hid (KB.next (KB.alloc (Below.refl w.heap.size w) _) hU0)
    clear hU0
    have c_0 := fun z : Wb U0 => (r_c z).cell 0
    have c_1 := fun z : Wb U0 => (r_c z).cell 1
    have c_2 := fun z : Wb U0 => (r_c z).cell 2
    have c_3 := fun z : Wb U0 => (r_c z).cell 3
    have c_4 := fun z : Wb U0 => (r_c z).cell 4
    have c_5 := fun z : Wb U0 => (r_c z).cell 5
    simp only [List.getElem?_cons_zero, List.getElem?_cons_succ] at c_0 c_1 c_2 c_3 c_4 c_5
    have LU := Lib.hid (fun z : Wb U0 => hl.below (KK.out z))
    clear r_c
    obtain ⟨pC, hpC⟩ : ∃ b, b = w.heap.size := ⟨_, rfl⟩
    rw [← hpC] at c_0 c_1 c_2 c_3 c_4 c_5
    simp only [← hpC]
    clear hpC hl
    go_upto_region 2 with fail
    have LY := Lib.hid (LU.out)
    have KY := Lib.hid (KK.out)
    refine to_cls ?_
    intro U1 hU1 y1
    have r_t : ∀ z : Wb U1, Row z.at y0.at.heap.size [.int .i64 (-1), .int .i64 0, .int .i64 0, .int .i64 0, .int .i64 2, .int .i64 2, .int .i64 1, .int .i64 0] 3 := Row.next (Row.new _ [.int .i64 (-1), .int .i64 0, .int .i64 0, .int .i64 0, .int .i64 2, .int .i64 2, .int .i64 1, .int .i64 0] _) hU1
    have BU := Lib.hid (fun y : Wb U1 => show Below y0.at.heap.size y0.at y.at from (((Below.refl y0.at.heap.size y0.at).alloc (Nat.le_refl _) _).trans (hU1.mono (by simp))).trans (y.bel.mono (by have := hU1.size; simp at this; omega)))
    clear hU1
    have c_0 : ∀ z : Wb U1, z.at.cell? ⟨pC, 0, none⟩ = some (.int .i64 kk) := fun z => c_0 ⟨z.at, y0.bel.trans ((BU.out z).mono y0.bel.size)⟩
    have c_1 : ∀ z : Wb U1, z.at.cell? ⟨pC, 1, none⟩ = some (.int .i64 cc) := fun z => c_1 ⟨z.at, y0.bel.trans ((BU.out z).mono y0.bel.size)⟩
    have c_2 : ∀ z : Wb U1, z.at.cell? ⟨pC, 2, none⟩ = some (.int .i64 rr) := fun z => c_2 ⟨z.at, y0.bel.trans ((BU.out z).mono y0.bel.size)⟩
    have c_5 : ∀ z : Wb U1, z.at.cell? ⟨pC, 5, none⟩ = some (.slice p n q) := fun z => c_5 ⟨z.at, y0.bel.trans ((BU.out z).mono y0.bel.size)⟩
    have LU := Lib.hid (fun z : Wb U1 => show LAt z.at ts p 0 from LY.out ⟨z.at, y0.bel.trans ((BU.out z).mono y0.bel.size)⟩)
    have KK := Lib.hid (fun z : Wb U1 => show Below w.heap.size w z.at from KY.out ⟨z.at, y0.bel.trans ((BU.out z).mono y0.bel.size)⟩)
    have k0 := y1.lift c_0
    have k5 := y1.lift c_5
    have t1 := y1.lift (fun z => (r_t z).cell 1)
    have t2 := y1.lift (fun z => (r_t z).cell 2)
    have t3 := y1.lift (fun z => (r_t z).cell 3)
    have t4 := y1.lift (fun z => (r_t z).cell 4)
    have t5 := y1.lift (fun z => (r_t z).cell 5)
    have t6 := y1.lift (fun z => (r_t z).cell 6)
    have t7 := y1.lift (fun z => (r_t z).cell 7)
    clear r_t LY KY BU
    have hk : kk < 1 ∨ 7 < kk ∨ kk = 1 ∨ kk = 2 ∨ kk = 3 ∨ kk = 4 ∨ kk = 5 ∨ kk = 6 ∨ kk = 7 := by omega
    go_cut [27] (fun v wx => v = .bool (b0 kk n) ∧ ∃ z : Wb U1, wx = z.at)
    case first =>
      rcases hk with hk | hk | rfl | rfl | rfl | rfl | rfl | rfl | rfl
      · have g1 : kk < 1 := hk
        have B := Lib.hid (show b0 kk n = true by unfold b0; exact decide_eq_true (by rw [arity_eq]; omega))
        refine wp_region_wb (by kernel_rfl) (by kernel_rfl) ?_
        repeat (go_big_quiet_step (fail))
        refine wpQuiet_nil ?_
        rintro _ ⟨x9, rfl⟩
        go_wp2
        go_meet
        case rel => exact ⟨by rw [B.out], ⟨x9.at, y1.bel.trans (x9.bel.mono y1.bel.size)⟩, rfl⟩
      · have g1 : ¬ kk < 1 := by omega
        have g2 : 7 < kk := hk
        have B := Lib.hid (show b0 kk n = true by unfold b0; exact decide_eq_true (by rw [arity_eq]; omega))
        refine wp_region_wb (by kernel_rfl) (by kernel_rfl) ?_
        repeat (go_big_quiet_step (fail))
        refine wpQuiet_nil ?_
        rintro _ ⟨x9, rfl⟩
        go_wp2
        go_meet
        case rel => exact ⟨by rw [B.out], ⟨x9.at, y1.bel.trans (x9.bel.mono y1.bel.size)⟩, rfl⟩
      · by_cases en : (n : Int) = 0
        · have e1 : ((n : Int) != 0) = false := by simpa using en
          have B := Lib.hid (show b0 1 n = false by unfold b0; exact decide_eq_false (by rw [Classical.not_not, arity_eq]; omega))
          clear en
          refine wp_region_wb (by kernel_rfl) (by kernel_rfl) ?_
          repeat (go_big_quiet_step (fail))
          refine wpQuiet_nil ?_
          rintro _ ⟨x9, rfl⟩
          go_wp2
          go_meet
          case rel => exact ⟨by rw [B.out], ⟨x9.at, y1.bel.trans (x9.bel.mono y1.bel.size)⟩, rfl⟩
        · have e1 : ((n : Int) != 0) = true := by simpa using en
          have B := Lib.hid (show b0 1 n = true by unfold b0; exact decide_eq_true (by rw [arity_eq]; omega))
          clear en
          refine wp_region_wb (by kernel_rfl) (by kernel_rfl) ?_
          repeat (go_big_quiet_step (fail))
          refine wpQuiet_nil ?_
          rintro _ ⟨x9, rfl⟩
          go_wp2
          go_meet
          case rel => exact ⟨by rw [B.out], ⟨x9.at, y1.bel.trans (x9.bel.mono y1.bel.size)⟩, rfl⟩
      · by_cases en : (n : Int) = 0
        · have e1 : ((n : Int) != 0) = false := by simpa using en
          have B := Lib.hid (show b0 2 n = false by unfold b0; exact decide_eq_false (by rw [Classical.not_not, arity_eq]; omega))
          clear en
          refine wp_region_wb (by kernel_rfl) (by kernel_rfl) ?_
          repeat (go_big_quiet_step (fail))
          refine wpQuiet_nil ?_
          rintro _ ⟨x9, rfl⟩
          go_wp2
          go_meet
          case rel => exact ⟨by rw [B.out], ⟨x9.at, y1.bel.trans (x9.bel.mono y1.bel.size)⟩, rfl⟩
        · have e1 : ((n : Int) != 0) = true := by simpa using en
          have B := Lib.hid (show b0 2 n = true by unfold b0; exact decide_eq_true (by rw [arity_eq]; omega))
          clear en
          refine wp_region_wb (by kernel_rfl) (by kernel_rfl) ?_
          repeat (go_big_quiet_step (fail))
          refine wpQuiet_nil ?_
          rintro _ ⟨x9, rfl⟩
          go_wp2
          go_meet
          case rel => exact ⟨by rw [B.out], ⟨x9.at, y1.bel.trans (x9.bel.mono y1.bel.size)⟩, rfl⟩
      · by_cases en : (n : Int) = 0
        · have e1 : ((n : Int) != 0) = false := by simpa using en
          have B := Lib.hid (show b0 3 n = false by unfold b0; exact decide_eq_false (by rw [Classical.not_not, arity_eq]; omega))
          clear en
          refine wp_region_wb (by kernel_rfl) (by kernel_rfl) ?_
          repeat (go_big_quiet_step (fail))
          refine wpQuiet_nil ?_
          rintro _ ⟨x9, rfl⟩
          go_wp2
          go_meet
          case rel => exact ⟨by rw [B.out], ⟨x9.at, y1.bel.trans (x9.bel.mono y1.bel.size)⟩, rfl⟩
        · have e1 : ((n : Int) != 0) = true := by simpa using en
          have B := Lib.hid (show b0 3 n = true by unfold b0; exact decide_eq_true (by rw [arity_eq]; omega))
          clear en
          refine wp_region_wb (by kernel_rfl) (by kernel_rfl) ?_
          repeat (go_big_quiet_step (fail))
          refine wpQuiet_nil ?_
          rintro _ ⟨x9, rfl⟩
          go_wp2
          go_meet
          case rel => exact ⟨by rw [B.out], ⟨x9.at, y1.bel.trans (x9.bel.mono y1.bel.size)⟩, rfl⟩
      · by_cases en : (n : Int) = 2
        · have e1 : ((n : Int) != 2) = false := by simpa using en
          have B := Lib.hid (show b0 4 n = false by unfold b0; exact decide_eq_false (by rw [Classical.not_not, arity_eq]; omega))
          clear en
          refine wp_region_wb (by kernel_rfl) (by kernel_rfl) ?_
          repeat (go_big_quiet_step (fail))
          refine wpQuiet_nil ?_
          rintro _ ⟨x9, rfl⟩
          go_wp2
          go_meet
          case rel => exact ⟨by rw [B.out], ⟨x9.at, y1.bel.trans (x9.bel.mono y1.bel.size)⟩, rfl⟩
        · have e1 : ((n : Int) != 2) = true := by simpa using en
          have B := Lib.hid (show b0 4 n = true by unfold b0; exact decide_eq_true (by rw [arity_eq]; omega))
          clear en
          refine wp_region_wb (by kernel_rfl) (by kernel_rfl) ?_
          repeat (go_big_quiet_step (fail))
          refine wpQuiet_nil ?_
          rintro _ ⟨x9, rfl⟩
          go_wp2
          go_meet
          case rel => exact ⟨by rw [B.out], ⟨x9.at, y1.bel.trans (x9.bel.mono y1.bel.size)⟩, rfl⟩
      · by_cases en : (n : Int) = 2
        · have e1 : ((n : Int) != 2) = false := by simpa using en
          have B := Lib.hid (show b0 5 n = false by unfold b0; exact decide_eq_false (by rw [Classical.not_not, arity_eq]; omega))
          clear en
          refine wp_region_wb (by kernel_rfl) (by kernel_rfl) ?_
          repeat (go_big_quiet_step (fail))
          refine wpQuiet_nil ?_
          rintro _ ⟨x9, rfl⟩
          go_wp2
          go_meet
          case rel => exact ⟨by rw [B.out], ⟨x9.at, y1.bel.trans (x9.bel.mono y1.bel.size)⟩, rfl⟩
        · have e1 : ((n : Int) != 2) = true := by simpa using en
          have B := Lib.hid (show b0 5 n = true by unfold b0; exact decide_eq_true (by rw [arity_eq]; omega))
          clear en
          refine wp_region_wb (by kernel_rfl) (by kernel_rfl) ?_
          repeat (go_big_quiet_step (fail))
          refine wpQuiet_nil ?_
          rintro _ ⟨x9, rfl⟩
          go_wp2
          go_meet
          case rel => exact ⟨by rw [B.out], ⟨x9.at, y1.bel.trans (x9.bel.mono y1.bel.size)⟩, rfl⟩
      · by_cases en : (n : Int) = 1
        · have e1 : ((n : Int) != 1) = false := by simpa using en
          have B := Lib.hid (show b0 6 n = false by unfold b0; exact decide_eq_false (by rw [Classical.not_not, arity_eq]; omega))
          clear en
          refine wp_region_wb (by kernel_rfl) (by kernel_rfl) ?_
          repeat (go_big_quiet_step (fail))
          refine wpQuiet_nil ?_
          rintro _ ⟨x9, rfl⟩
          go_wp2
          go_meet
          case rel => exact ⟨by rw [B.out], ⟨x9.at, y1.bel.trans (x9.bel.mono y1.bel.size)⟩, rfl⟩
        · have e1 : ((n : Int) != 1) = true := by simpa using en
          have B := Lib.hid (show b0 6 n = true by unfold b0; exact decide_eq_true (by rw [arity_eq]; omega))
          clear en
          refine wp_region_wb (by kernel_rfl) (by kernel_rfl) ?_
          repeat (go_big_quiet_step (fail))
          refine wpQuiet_nil ?_
          rintro _ ⟨x9, rfl⟩
          go_wp2
          go_meet
          case rel => exact ⟨by rw [B.out], ⟨x9.at, y1.bel.trans (x9.bel.mono y1.bel.size)⟩, rfl⟩
      · by_cases en : (n : Int) = 0
        · have e1 : ((n : Int) != 0) = false := by simpa using en
          have B := Lib.hid (show b0 7 n = false by unfold b0; exact decide_eq_false (by rw [Classical.not_not, arity_eq]; omega))
          clear en
          refine wp_region_wb (by kernel_rfl) (by kernel_rfl) ?_
          repeat (go_big_quiet_step (fail))
          refine wpQuiet_nil ?_
          rintro _ ⟨x9, rfl⟩
          go_wp2
          go_meet
          case rel => exact ⟨by rw [B.out], ⟨x9.at, y1.bel.trans (x9.bel.mono y1.bel.size)⟩, rfl⟩
        · have e1 : ((n : Int) != 0) = true := by simpa using en
          have B := Lib.hid (show b0 7 n = true by unfold b0; exact decide_eq_true (by rw [arity_eq]; omega))
          clear en
          refine wp_region_wb (by kernel_rfl) (by kernel_rfl) ?_
          repeat (go_big_quiet_step (fail))
          refine wpQuiet_nil ?_
          rintro _ ⟨x9, rfl⟩
          go_wp2
          go_meet
          case rel => exact ⟨by rw [B.out], ⟨x9.at, y1.bel.trans (x9.bel.mono y1.bel.size)⟩, rfl⟩
    case rest =>
    obtain ⟨rfl, z1, rfl⟩ := hcut
    apply_assumption
    clear k0 k5 t1 t2 t3 t4 t5 t6 t7 hk
    have E := Lib.hid (show c.right cores = if (b0 kk n || b3 kk rr) = true then 1 else if b2 cores kk cc = true then 131 else rightL cores ts by rw [← b1_or]; exact E.out)
    cases hb : b0 kk n with
    | true =>
      have F := Lib.hid (show c.right cores = 1 by rw [E.out, hb]; rfl)
      go_wp2
      go_ret
      exact ⟨by rw [F.out]; rfl, KK.out z1⟩
    | false =>
    go_upto_region 4 with fail
    go_cut [40] (fun v wx => v = .bool (b3 kk rr) ∧ z1.at = wx)
    case first =>
      by_cases ek : kk = 1
      · subst ek
        by_cases er : rr < 0
        · have B := Lib.hid (show b3 1 rr = true by unfold b3; exact decide_eq_true ⟨rfl, .inl er⟩)
          go_wp2
          go_meet
          case rel => exact ⟨by rw [B.out], rfl⟩
        · by_cases es : 30 < rr
          · have B := Lib.hid (show b3 1 rr = true by unfold b3; exact decide_eq_true ⟨rfl, .inr (by omega)⟩)
            go_wp2
            go_meet
            case rel => exact ⟨by rw [B.out], rfl⟩
          · have B := Lib.hid (show b3 1 rr = false by unfold b3; exact decide_eq_false (by omega))
            go_wp2
            go_meet
            case rel => exact ⟨by rw [B.out], rfl⟩
      · have ek1 : (kk == 1) = false := by simpa using ek
        have B := Lib.hid (show b3 kk rr = false by unfold b3; exact decide_eq_false (by omega))
        go_wp2
        go_meet
        case rel => exact ⟨by rw [B.out], rfl⟩
    case rest =>
    obtain ⟨rfl, rfl⟩ := hcut
    apply_assumption
    cases hd : b3 kk rr with
    | true =>
      have F := Lib.hid (show c.right cores = 1 by rw [E.out, hb, hd]; rfl)
      go_wp2
      go_ret
      exact ⟨by rw [F.out]; rfl, KK.out z1⟩
    | false =>
      go_upto_region 6 with fail
      go_cut [59] (fun v wx => v = .bool (b2 cores kk cc) ∧ z1.at = wx)
      case first =>
        by_cases ek : kk = 1
        · subst ek
          by_cases e0 : cc < 0
          · have B := Lib.hid (show b2 cores 1 cc = true by unfold b2; exact decide_eq_true ⟨.inl rfl, .inl e0⟩)
            go_wp2
            go_meet
            case rel => exact ⟨by rw [B.out], rfl⟩
          · by_cases e1 : cores ≤ cc
            · have B := Lib.hid (show b2 cores 1 cc = true by unfold b2; exact decide_eq_true ⟨.inl rfl, .inr e1⟩)
              go_wp2
              go_meet
              case rel => exact ⟨by rw [B.out], rfl⟩
            · have B := Lib.hid (show b2 cores 1 cc = false by unfold b2; exact decide_eq_false (by omega))
              go_wp2
              go_meet
              case rel => exact ⟨by rw [B.out], rfl⟩
        · have ek1 : (kk == 1) = false := by simpa using ek
          by_cases el : kk = 3
          · subst el
            by_cases e0 : cc < 0
            · have B := Lib.hid (show b2 cores 3 cc = true by unfold b2; exact decide_eq_true ⟨.inr rfl, .inl e0⟩)
              go_wp2
              go_meet
              case rel => exact ⟨by rw [B.out], rfl⟩
            · by_cases e1 : cores ≤ cc
              · have B := Lib.hid (show b2 cores 3 cc = true by unfold b2; exact decide_eq_true ⟨.inr rfl, .inr e1⟩)
                go_wp2
                go_meet
                case rel => exact ⟨by rw [B.out], rfl⟩
              · have B := Lib.hid (show b2 cores 3 cc = false by unfold b2; exact decide_eq_false (by omega))
                go_wp2
                go_meet
                case rel => exact ⟨by rw [B.out], rfl⟩
          · have el1 : (kk == 3) = false := by simpa using el
            have B := Lib.hid (show b2 cores kk cc = false by unfold b2; exact decide_eq_false (by omega))
            go_wp2
            go_meet
            case rel => exact ⟨by rw [B.out], rfl⟩
      case rest =>
      obtain ⟨rfl, rfl⟩ := hcut
      apply_assumption
      cases hc : b2 cores kk cc with
      | true =>
        have F := Lib.hid (show c.right cores = 131 by rw [E.out, hb, hd, hc]; rfl)
        go_wp2
        go_ret
        exact ⟨by rw [F.out]; rfl, KK.out z1⟩
      | false =>
        have F := Lib.hid (show c.right cores = rightL cores ts by rw [E.out, hb, hd, hc]; rfl)
        clear hb hc hd
        go_wp2_with fail
        go_loopw [6] (fun iv wr => ∃ (j : Nat) (z : Wb U1), j ≤ n ∧ iv = .int .i64 (j : Int) ∧ (∀ i (h : i < ts.length), i < j → ts[i].right cores = 0) ∧ wr = z.at) (fun iv _ => n - (intOf iv).toNat)
        case atStart => exact ⟨0, z1, by omega, rfl, fun i h h2 => by omega, rfl⟩
        case round =>
          obtain ⟨j, z, hj, rfl, hall, rfl⟩ := hrel
          have HA := Lib.hid hall
          have j0 : (0 : Int) ≤ (j : Int) := by omega
          clear hall
          by_cases cj : j < n
          · have j1 : (j : Int) < (n : Int) := by omega
            have l1 : j < ts.length := by have := HN.out; omega
            obtain ⟨a, rfl⟩ := (LU.out z).addr j l1
            obtain ⟨p2, n2, q2, hn2, hl2, e0, e1, e2, e3, e4, e5⟩ := (LU.out z).cells j l1
            have CA := Lib.hid (HH.out (ts[j]'l1) p2 n2 q2 z.at (HT.out _ (List.getElem_mem l1)) hn2 hl2)
            obtain ⟨x0, hx0⟩ : ∃ x, x = (ts[j]'l1).k := ⟨_, rfl⟩
            obtain ⟨x1, hx1⟩ : ∃ x, x = (ts[j]'l1).co := ⟨_, rfl⟩
            obtain ⟨x2, hx2⟩ : ∃ x, x = (ts[j]'l1).r := ⟨_, rfl⟩
            obtain ⟨x3, hx3⟩ : ∃ x, x = (ts[j]'l1).ad := ⟨_, rfl⟩
            obtain ⟨x4, hx4⟩ : ∃ x, x = (ts[j]'l1).va := ⟨_, rfl⟩
            rw [← hx0] at e0
            rw [← hx1] at e1
            rw [← hx2] at e2
            rw [← hx3] at e3
            rw [← hx4] at e4
            rw [← hx0, ← hx1, ← hx2, ← hx3, ← hx4] at CA
            clear hx0 hx1 hx2 hx3 hx4
            obtain ⟨d, hd⟩ : ∃ d, d = (ts[j]'l1).right cores := ⟨_, rfl⟩
            rw [← hd] at CA
            have HD := Lib.hid hd
            have JI := Lib.hid (show j + 1 ≤ n by omega)
            clear hd hn2 hl2 hj cj
            by_cases dz : d = 0
            · subst dz
              go_wp2_with (go_at_call 25; refine CA.out.mono ?_; rintro e w9 ⟨rfl, g⟩; obtain ⟨x9, rfl⟩ := Wb.next g; clear g)
              go_roundw
              case rel => exact ⟨j + 1, x9, JI.out, by go_num, fun i h h2 => by
                by_cases e : i = j
                · subst e; exact HD.out.symm
                · exact HA.out i h (by omega), rfl⟩
              case measure => have := JI.out; simp [intOf]; omega
            · have d1 : ¬ (d : Int) = 0 := by omega
              have d2 : ((d : Int) != 0) = true := by simp; omega
              have G := Lib.hid (show c.right cores = d by rw [F.out, rightL_at l1 HA.out (by rw [← HD.out]; exact dz), HD.out])
              go_wp2_with (go_at_call 25; refine CA.out.mono ?_; rintro e w9 ⟨rfl, g⟩; obtain ⟨x9, rfl⟩ := Wb.next g; clear g)
              go_ret
              exact ⟨by rw [G.out]; rfl, KK.out x9⟩
          · obtain rfl : j = n := by omega
            have G := Lib.hid (show c.right cores = 0 by rw [F.out]; exact rightL_zero fun i hi => HA.out i hi (by have := HN.out; omega))
            clear hj cj
            go_wp2
            go_ret
            exact ⟨by rw [G.out]; rfl, KK.out z⟩

set_option maxRecDepth 100000 in
set_option maxHeartbeats 3200000 in
theorem lright_any (cores : Int) : ∀ (c : Cnd) (p : Option Addr) (n q : Nat) (w : World), c.cnt ≤ 1099511627776 → n = c.args.length → LAt w c.args p 0 → Calls Tryd.prog 19 #[.agg #[.int .i64 c.k, .int .i64 c.co, .int .i64 c.r, .int .u64 c.ad, .int .u64 c.va, .slice p n q], .int .i64 cores] w fun e w' => e = .returned (.int .i64 (c.rightly cores : Int)) ∧ Below w.heap.size w w' := by
  intro c p n q w hc hn hl
  have CT := Lib.hid (fun w1 (h : LAt w1 c.args p 0) => count_any 1099511627776 (Nat.le_refl _) c p n q w1 hc hn h)
  have RT := Lib.hid (fun w1 (h : LAt w1 c.args p 0) => right_any cores 1099511627776 (Nat.le_refl _) c p n q w1 hc hn h)
  obtain ⟨m, hm⟩ : ∃ m, m = c.cnt := ⟨_, rfl⟩
  have E := Lib.hid (show c.rightly cores = if 64 < m then 120 else c.right cores by rw [hm]; rfl)
  rw [← hm] at CT
  clear hm hc hn
  go_enter Tryd.func19, Tryd.ntmps19
  go_upto_region 1 with fail
  refine to_cls ?_
  intro U0 hU0 y0
  have r_c : ∀ z : Wb U0, Row z.at w.heap.size [.int .i64 c.k, .int .i64 c.co, .int .i64 c.r, .int .u64 c.ad, .int .u64 c.va, .slice p n q] 25 := Row.next (Row.new _ [.int .i64 c.k, .int .i64 c.co, .int .i64 c.r, .int .u64 c.ad, .int .u64 c.va, .slice p n q] _) hU0
  have KK := Lib.hid (KB.next (KB.alloc (Below.refl w.heap.size w) _) hU0)
  clear hU0
  have c_0 := fun z : Wb U0 => (r_c z).cell 0
  have c_1 := fun z : Wb U0 => (r_c z).cell 1
  have c_2 := fun z : Wb U0 => (r_c z).cell 2
  have c_3 := fun z : Wb U0 => (r_c z).cell 3
  have c_4 := fun z : Wb U0 => (r_c z).cell 4
  have c_5 := fun z : Wb U0 => (r_c z).cell 5
  simp only [List.getElem?_cons_zero, List.getElem?_cons_succ] at c_0 c_1 c_2 c_3 c_4 c_5
  have LU := Lib.hid (fun z : Wb U0 => hl.below (KK.out z))
  clear r_c
  obtain ⟨pC, hpC⟩ : ∃ b, b = w.heap.size := ⟨_, rfl⟩
  rw [← hpC] at c_0 c_1 c_2 c_3 c_4 c_5
  simp only [← hpC]
  clear hpC hl
  by_cases cm : 64 < m
  · have g1 : (64 : Int) < (m : Int) := by omega
    have F := Lib.hid (show c.rightly cores = 120 by rw [E.out, if_pos cm])
    clear cm
    go_wp2_with (go_at_call 20; refine (CT.out _ (LU.out y0)).mono ?_; rintro e w9 ⟨rfl, g⟩; obtain ⟨x9, rfl⟩ := Wb.next g; clear g)
    go_ret
    exact ⟨by rw [F.out]; rfl, KK.out x9⟩
  · have g1 : ¬ (64 : Int) < (m : Int) := by omega
    have F := Lib.hid (show c.rightly cores = c.right cores by rw [E.out, if_neg cm])
    clear cm
    go_wp2_with (first | (go_at_call 20; refine (CT.out _ (LU.out y0)).mono ?_; rintro e w9 ⟨rfl, g⟩; obtain ⟨x9, rfl⟩ := Wb.next g; clear g) | (go_at_call 41; refine (RT.out _ (LU.out x9)).mono ?_; rintro e w9 ⟨rfl, g⟩; obtain ⟨x8, rfl⟩ := Wb.next g; clear g))
    go_ret
    exact ⟨by rw [F.out]; rfl, KK.out x8⟩

set_option maxRecDepth 100000 in
set_option maxHeartbeats 3200000 in
theorem rrightly_any (cores : Int) : ∀ (c : Cnd) (p : Option Addr) (n q : Nat) (w : World), c.cnt ≤ 1099511627776 → n = c.args.length → LAt w c.args p 0 → Calls Tryd.prog 10 #[.agg #[.int .i64 c.k, .int .i64 c.co, .int .i64 c.r, .int .u64 c.ad, .int .u64 c.va, .slice p n q], .int .i64 cores] w fun e w' => e = .returned (.int .i64 (c.rightly cores : Int)) ∧ Below w.heap.size w w' := by
  intro c p n q w hc hn hl
  have CT := Lib.hid (fun w1 (h : LAt w1 c.args p 0) => rcount_any 1099511627776 (Nat.le_refl _) c p n q w1 hc hn h)
  have RT := Lib.hid (fun w1 (h : LAt w1 c.args p 0) => rright_any cores 1099511627776 (Nat.le_refl _) c p n q w1 hc hn h)
  obtain ⟨m, hm⟩ : ∃ m, m = c.cnt := ⟨_, rfl⟩
  have E := Lib.hid (show c.rightly cores = if 64 < m then 120 else c.right cores by rw [hm]; rfl)
  rw [← hm] at CT
  clear hm hc hn
  go_enter Tryd.func10, Tryd.ntmps10
  go_upto_region 1 with fail
  refine to_cls ?_
  intro U0 hU0 y0
  have r_c : ∀ z : Wb U0, Row z.at w.heap.size [.int .i64 c.k, .int .i64 c.co, .int .i64 c.r, .int .u64 c.ad, .int .u64 c.va, .slice p n q] 25 := Row.next (Row.new _ [.int .i64 c.k, .int .i64 c.co, .int .i64 c.r, .int .u64 c.ad, .int .u64 c.va, .slice p n q] _) hU0
  have KK := Lib.hid (KB.next (KB.alloc (Below.refl w.heap.size w) _) hU0)
  clear hU0
  have c_0 := fun z : Wb U0 => (r_c z).cell 0
  have c_1 := fun z : Wb U0 => (r_c z).cell 1
  have c_2 := fun z : Wb U0 => (r_c z).cell 2
  have c_3 := fun z : Wb U0 => (r_c z).cell 3
  have c_4 := fun z : Wb U0 => (r_c z).cell 4
  have c_5 := fun z : Wb U0 => (r_c z).cell 5
  simp only [List.getElem?_cons_zero, List.getElem?_cons_succ] at c_0 c_1 c_2 c_3 c_4 c_5
  have LU := Lib.hid (fun z : Wb U0 => hl.below (KK.out z))
  clear r_c
  obtain ⟨pC, hpC⟩ : ∃ b, b = w.heap.size := ⟨_, rfl⟩
  rw [← hpC] at c_0 c_1 c_2 c_3 c_4 c_5
  simp only [← hpC]
  clear hpC hl
  by_cases cm : 64 < m
  · have g1 : (64 : Int) < (m : Int) := by omega
    have F := Lib.hid (show c.rightly cores = 120 by rw [E.out, if_pos cm])
    clear cm
    go_wp2_with (go_at_call 21; refine (CT.out _ (LU.out y0)).mono ?_; rintro e w9 ⟨rfl, g⟩; obtain ⟨x9, rfl⟩ := Wb.next g; clear g)
    go_ret
    exact ⟨by rw [F.out]; rfl, KK.out x9⟩
  · have g1 : ¬ (64 : Int) < (m : Int) := by omega
    have F := Lib.hid (show c.rightly cores = c.right cores by rw [E.out, if_neg cm])
    clear cm
    go_wp2_with (first | (go_at_call 21; refine (CT.out _ (LU.out y0)).mono ?_; rintro e w9 ⟨rfl, g⟩; obtain ⟨x9, rfl⟩ := Wb.next g; clear g) | (go_at_call 25; refine (RT.out _ (LU.out x9)).mono ?_; rintro e w9 ⟨rfl, g⟩; obtain ⟨x8, rfl⟩ := Wb.next g; clear g))
    go_ret
    exact ⟨by rw [F.out]; rfl, KK.out x8⟩

end Go.Proofs.YtgpngjgilcbigaaDoor
