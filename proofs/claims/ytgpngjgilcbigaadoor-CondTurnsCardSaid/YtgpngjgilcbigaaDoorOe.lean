/-
  Layer 11, the walks: right, Right.
-/
import Derived.Test.YtgpngjgilcbigaaDoorOd
import Derived.Test.YtgpngjgilcbigaaDoorBv
set_option linter.unusedSimpArgs false
set_option linter.unusedVariables false
namespace GrC
def b1 (k r : Int) (n : Nat) : Bool := decide ((n : Int) ≠ arity k ∨ (k = 1 ∧ (r < 0 ∨ 31 ≤ r)))
def b2 (cores k co : Int) : Bool := decide ((k = 1 ∨ k = 3) ∧ (co < 0 ∨ cores ≤ co))
theorem right_eq (cores : Int) (c : Cnd) : c.right cores = if b1 c.k c.r c.args.length = true then 1 else if b2 cores c.k c.co = true then 131 else rightL cores c.args := by
  cases c
  rw [Cnd.right]
  simp only [b1, b2, decide_eq_true_eq]
  rfl
theorem rightL_zero {cores : Int} : ∀ {ts : List Cnd}, (∀ i (h : i < ts.length), ts[i].right cores = 0) → rightL cores ts = 0
  | [], _ => rfl
  | t :: us, h => by
    have h0 := h 0 (by simp)
    simp only [List.getElem_cons_zero] at h0
    rw [rightL, if_neg (by omega)]
    exact rightL_zero fun i hi => by have := h (i + 1) (by simpa using hi); simpa using this
theorem rightL_at {cores : Int} : ∀ {ts : List Cnd} {j : Nat} (hj : j < ts.length), (∀ i (h : i < ts.length), i < j → ts[i].right cores = 0) → ts[j].right cores ≠ 0 → rightL cores ts = ts[j].right cores
  | t :: us, 0, hj, _, h => by
    simp only [List.getElem_cons_zero] at h ⊢
    rw [rightL, if_pos h]
  | t :: us, j + 1, hj, h1, h => by
    have h0 := h1 0 (by simp) (by omega)
    simp only [List.getElem_cons_zero] at h0
    simp only [List.getElem_cons_succ] at h ⊢
    rw [rightL, if_neg (by omega)]
    exact rightL_at (by simpa using hj) (fun i hi hij => by have := h1 (i + 1) (by simpa using hi) (by omega); simpa using this) h
end GrC
namespace Go.Proofs.YtgpngjgilcbigaaDoor
open Go.RowKit GrC

set_option maxRecDepth 100000 in
set_option maxHeartbeats 3200000 in
theorem args_any (k : Int) (w : World) : Calls Tryd.prog 29 #[.int .i64 k] w fun e w' => e = .returned (.int .i64 (arity k)) ∧ w = w' := by
  have hw : k = 1 ∨ k = 2 ∨ k = 3 ∨ k = 7 ∨ k = 6 ∨ k = 4 ∨ k = 5 ∨ (k ≠ 1 ∧ k ≠ 2 ∧ k ≠ 3 ∧ k ≠ 7 ∧ k ≠ 6 ∧ k ≠ 4 ∧ k ≠ 5) := by omega
  rcases hw with rfl | rfl | rfl | rfl | rfl | rfl | rfl | ⟨h1, h2, h3, h4, h5, h6, h7⟩
  all_goals try
    go_enter Tryd.func29, Tryd.ntmps29
    go_wp2
    go_ret
    exact ⟨rfl, rfl⟩
  have E : arity k = -1 := by
    unfold arity
    rw [if_neg (by omega), if_neg (by omega), if_neg (by omega)]
  rw [E]
  have e1 : (k == 1) = false := by simpa using h1
  have e2 : (k == 2) = false := by simpa using h2
  have e3 : (k == 3) = false := by simpa using h3
  have e4 : (k == 7) = false := by simpa using h4
  have e5 : (k == 6) = false := by simpa using h5
  have e6 : (k == 4) = false := by simpa using h6
  have e7 : (k == 5) = false := by simpa using h7
  clear E
  go_enter Tryd.func29, Tryd.ntmps29
  go_wp2
  go_ret
  exact ⟨rfl, rfl⟩

set_option maxRecDepth 100000 in
set_option maxHeartbeats 6400000 in
theorem right_any (cores : Int) : ∀ (N : Nat), N ≤ 1099511627776 → ∀ (c : Cnd) (p : Option Addr) (n q : Nat) (w : World), c.cnt ≤ N → n = c.args.length → LAt w c.args p 0 → Calls Tryd.prog 41 #[.agg #[.int .i64 c.k, .int .i64 c.co, .int .i64 c.r, .int .u64 c.ad, .int .u64 c.va, .slice p n q], .int .i64 cores] w fun e w' => e = .returned (.int .i64 (c.right cores : Int)) ∧ Below w.heap.size w w' := by
  intro N
  induction N with
  | zero => intro _ c p n q w hc; have := cnt_pos c; omega
  | succ N ih =>
    intro hN c p n q w hc hn hl
    obtain ⟨ts, hts⟩ : ∃ ts, ts = c.args := ⟨_, rfl⟩
    have RC := right_eq cores c
    rw [← hts] at hn hl RC
    have HH := Lib.hid (ih (by omega))
    have HT := Lib.hid (show ∀ t ∈ ts, t.cnt ≤ N from fun t ht => by
      obtain ⟨i, hi, rfl⟩ := List.getElem_of_mem ht
      have := mem_cnt hi
      have := cnt_args c
      rw [← hts] at this
      omega)
    have HN := Lib.hid hn
    have LS := Lib.hid (show ts.length ≤ 1099511627776 by have := len_sum ts; have := cnt_args c; rw [← hts] at this; omega)
    rw [← hn] at RC
    have n9 : (n : Int) ≤ 1099511627776 := by have := LS.out; omega
    have n0 : (0 : Int) ≤ (n : Int) := by omega
    obtain ⟨kk, hkk⟩ : ∃ k, k = c.k := ⟨_, rfl⟩
    obtain ⟨cc, hcc⟩ : ∃ k, k = c.co := ⟨_, rfl⟩
    obtain ⟨rr, hrr⟩ : ∃ k, k = c.r := ⟨_, rfl⟩
    obtain ⟨aa, haa⟩ : ∃ k, k = c.ad := ⟨_, rfl⟩
    obtain ⟨vv, hvv⟩ : ∃ k, k = c.va := ⟨_, rfl⟩
    rw [← hkk, ← hcc, ← hrr] at RC
    rw [← hkk, ← hcc, ← hrr, ← haa, ← hvv]
    have E := Lib.hid RC
    clear ih hN hc RC hts hn hkk hcc hrr haa hvv
    have AG := Lib.hid (fun w => args_any kk w)
    obtain ⟨ar, har⟩ : ∃ a, a = arity kk := ⟨_, rfl⟩
    have AE := Lib.hid har
    rw [← har] at AG
    clear har
    go_enter Tryd.func41, Tryd.ntmps41
    go_upto_region 1 with fail
    refine to_cls ?_
    intro U0 hU0 y0
    have r_c : ∀ z : Wb U0, Row z.at w.heap.size [.int .i64 kk, .int .i64 cc, .int .i64 rr, .int .u64 aa, .int .u64 vv, .slice p n q] 25 := Row.next (Row.new _ [.int .i64 kk, .int .i64 cc, .int .i64 rr, .int .u64 aa, .int .u64 vv, .slice p n q] _) hU0
    have KK := Lib.hid (KB.next (KB.alloc (Below.refl w.heap.size w) _) hU0)
    clear hU0
    have c_0 := fun z : Wb U0 => (r_c z).cell 0
    have c_1 := fun z : Wb U0 => (r_c z).cell 1
    have c_2 := fun z : Wb U0 => (r_c z).cell 2
    have c_3 := fun z : Wb U0 => (r_c z).cell 3
    have c_4 := fun z : Wb U0 => (r_c z).cell 4
    have c_5 := fun z : Wb U0 => (r_c z).cell 5
    simp only [List.getElem?_cons_zero, List.getElem?_cons_succ] at c_0 c_1 c_2 c_3 c_4 c_5
    have LU := Lib.hid (fun z : Wb U0 => hl.below (KK.out z))
    clear r_c
    obtain ⟨pC, hpC⟩ : ∃ b, b = w.heap.size := ⟨_, rfl⟩
    rw [← hpC] at c_0 c_1 c_2 c_3 c_4 c_5
    simp only [← hpC]
    clear hpC hl
    have k0 : ∀ z : Wb y0.at, z.at.cell? ⟨pC, 0, none⟩ = some (.int .i64 kk) := fun z => c_0 ⟨z.at, y0.bel.trans (z.bel.mono y0.bel.size)⟩
    have k2 : ∀ z : Wb y0.at, z.at.cell? ⟨pC, 2, none⟩ = some (.int .i64 rr) := fun z => c_2 ⟨z.at, y0.bel.trans (z.bel.mono y0.bel.size)⟩
    have k5 : ∀ z : Wb y0.at, z.at.cell? ⟨pC, 5, none⟩ = some (.slice p n q) := fun z => c_5 ⟨z.at, y0.bel.trans (z.bel.mono y0.bel.size)⟩
    go_cut [29] (fun v wx => v = .bool (b1 kk rr n) ∧ ∃ z : Wb U0, wx = z.at)
    case first =>
      by_cases ea : (ar : Int) = (n : Int)
      · have e1 : (ar != (n : Int)) = false := by simpa using ea
        by_cases ek : kk = 1
        · subst ek
          by_cases er : rr < 0
          · have B := Lib.hid (show b1 1 rr n = true by unfold b1; exact decide_eq_true (.inr ⟨rfl, .inl er⟩))
            clear AE ea
            refine wp_region_wb (by kernel_rfl) (by kernel_rfl) ?_
            repeat (go_big_quiet_step ((go_at_call 29; exact Calls.wb (Calls.same_below (AG.out _) (Below.refl _ _)))))
            refine wpQuiet_nil ?_
            rintro _ ⟨x9, rfl⟩
            go_wp2
            go_meet
            case rel => exact ⟨by rw [B.out], ⟨x9.at, y0.bel.trans (x9.bel.mono y0.bel.size)⟩, rfl⟩
          · by_cases es : 31 ≤ rr
            · have B := Lib.hid (show b1 1 rr n = true by unfold b1; exact decide_eq_true (.inr ⟨rfl, .inr es⟩))
              clear AE ea
              refine wp_region_wb (by kernel_rfl) (by kernel_rfl) ?_
              repeat (go_big_quiet_step ((go_at_call 29; exact Calls.wb (Calls.same_below (AG.out _) (Below.refl _ _)))))
              refine wpQuiet_nil ?_
              rintro _ ⟨x9, rfl⟩
              go_wp2
              go_meet
              case rel => exact ⟨by rw [B.out], ⟨x9.at, y0.bel.trans (x9.bel.mono y0.bel.size)⟩, rfl⟩
            · have B := Lib.hid (show b1 1 rr n = false by unfold b1; exact decide_eq_false (by have := AE.out; omega))
              clear AE ea
              refine wp_region_wb (by kernel_rfl) (by kernel_rfl) ?_
              repeat (go_big_quiet_step ((go_at_call 29; exact Calls.wb (Calls.same_below (AG.out _) (Below.refl _ _)))))
              refine wpQuiet_nil ?_
              rintro _ ⟨x9, rfl⟩
              go_wp2
              go_meet
              case rel => exact ⟨by rw [B.out], ⟨x9.at, y0.bel.trans (x9.bel.mono y0.bel.size)⟩, rfl⟩
        · have e2 : (kk == 1) = false := by simpa using ek
          have B := Lib.hid (show b1 kk rr n = false by unfold b1; exact decide_eq_false (by have := AE.out; omega))
          clear AE ea
          refine wp_region_wb (by kernel_rfl) (by kernel_rfl) ?_
          repeat (go_big_quiet_step ((go_at_call 29; exact Calls.wb (Calls.same_below (AG.out _) (Below.refl _ _)))))
          refine wpQuiet_nil ?_
          rintro _ ⟨x9, rfl⟩
          go_wp2
          go_meet
          case rel => exact ⟨by rw [B.out], ⟨x9.at, y0.bel.trans (x9.bel.mono y0.bel.size)⟩, rfl⟩
      · have e1 : (ar != (n : Int)) = true := by simpa using ea
        have B := Lib.hid (show b1 kk rr n = true by unfold b1; exact decide_eq_true (.inl (by have := AE.out; omega)))
        clear AE ea
        refine wp_region_wb (by kernel_rfl) (by kernel_rfl) ?_
        repeat (go_big_quiet_step ((go_at_call 29; exact Calls.wb (Calls.same_below (AG.out _) (Below.refl _ _)))))
        refine wpQuiet_nil ?_
        rintro _ ⟨x9, rfl⟩
        go_wp2
        go_meet
        case rel => exact ⟨by rw [B.out], ⟨x9.at, y0.bel.trans (x9.bel.mono y0.bel.size)⟩, rfl⟩
    case rest =>
    obtain ⟨rfl, z1, rfl⟩ := hcut
    apply_assumption
    clear k0 k2 k5 AG AE
    cases hb : b1 kk rr n with
    | true =>
      have F := Lib.hid (show c.right cores = 1 by rw [E.out, hb]; rfl)
      go_wp2
      go_ret
      exact ⟨by rw [F.out]; rfl, KK.out z1⟩
    | false =>
      go_upto_region 3 with fail
      go_cut [48] (fun v wx => v = .bool (b2 cores kk cc) ∧ z1.at = wx)
      case first =>
        by_cases ek : kk = 1
        · subst ek
          by_cases e0 : cc < 0
          · have B := Lib.hid (show b2 cores 1 cc = true by unfold b2; exact decide_eq_true ⟨.inl rfl, .inl e0⟩)
            go_wp2
            go_meet
            case rel => exact ⟨by rw [B.out], rfl⟩
          · by_cases e1 : cores ≤ cc
            · have B := Lib.hid (show b2 cores 1 cc = true by unfold b2; exact decide_eq_true ⟨.inl rfl, .inr e1⟩)
              go_wp2
              go_meet
              case rel => exact ⟨by rw [B.out], rfl⟩
            · have B := Lib.hid (show b2 cores 1 cc = false by unfold b2; exact decide_eq_false (by omega))
              go_wp2
              go_meet
              case rel => exact ⟨by rw [B.out], rfl⟩
        · have ek1 : (kk == 1) = false := by simpa using ek
          by_cases el : kk = 3
          · subst el
            by_cases e0 : cc < 0
            · have B := Lib.hid (show b2 cores 3 cc = true by unfold b2; exact decide_eq_true ⟨.inr rfl, .inl e0⟩)
              go_wp2
              go_meet
              case rel => exact ⟨by rw [B.out], rfl⟩
            · by_cases e1 : cores ≤ cc
              · have B := Lib.hid (show b2 cores 3 cc = true by unfold b2; exact decide_eq_true ⟨.inr rfl, .inr e1⟩)
                go_wp2
                go_meet
                case rel => exact ⟨by rw [B.out], rfl⟩
              · have B := Lib.hid (show b2 cores 3 cc = false by unfold b2; exact decide_eq_false (by omega))
                go_wp2
                go_meet
                case rel => exact ⟨by rw [B.out], rfl⟩
          · have el1 : (kk == 3) = false := by simpa using el
            have B := Lib.hid (show b2 cores kk cc = false by unfold b2; exact decide_eq_false (by omega))
            go_wp2
            go_meet
            case rel => exact ⟨by rw [B.out], rfl⟩
      case rest =>
      obtain ⟨rfl, rfl⟩ := hcut
      apply_assumption
      cases hc : b2 cores kk cc with
      | true =>
        have F := Lib.hid (show c.right cores = 131 by rw [E.out, hb, hc]; rfl)
        go_wp2
        go_ret
        exact ⟨by rw [F.out]; rfl, KK.out z1⟩
      | false =>
        have F := Lib.hid (show c.right cores = rightL cores ts by rw [E.out, hb, hc]; rfl)
        clear hb hc
        go_wp2_with fail
        go_loopw [52] (fun iv wr => ∃ (j : Nat) (z : Wb U0), j ≤ n ∧ iv = .int .i64 (j : Int) ∧ (∀ i (h : i < ts.length), i < j → ts[i].right cores = 0) ∧ wr = z.at) (fun iv _ => n - (intOf iv).toNat)
        case atStart => exact ⟨0, z1, by omega, rfl, fun i h h2 => by omega, rfl⟩
        case round =>
          obtain ⟨j, z, hj, rfl, hall, rfl⟩ := hrel
          have HA := Lib.hid hall
          have j0 : (0 : Int) ≤ (j : Int) := by omega
          clear hall
          by_cases cj : j < n
          · have j1 : (j : Int) < (n : Int) := by omega
            have l1 : j < ts.length := by have := HN.out; omega
            obtain ⟨a, rfl⟩ := (LU.out z).addr j l1
            obtain ⟨p2, n2, q2, hn2, hl2, e0, e1, e2, e3, e4, e5⟩ := (LU.out z).cells j l1
            have CA := Lib.hid (fun w1 (h : LAt w1 (ts[j]'l1).args p2 0) => HH.out (ts[j]'l1) p2 n2 q2 w1 (HT.out _ (List.getElem_mem l1)) hn2 h)
            obtain ⟨x0, hx0⟩ : ∃ x, x = (ts[j]'l1).k := ⟨_, rfl⟩
            obtain ⟨x1, hx1⟩ : ∃ x, x = (ts[j]'l1).co := ⟨_, rfl⟩
            obtain ⟨x2, hx2⟩ : ∃ x, x = (ts[j]'l1).r := ⟨_, rfl⟩
            obtain ⟨x3, hx3⟩ : ∃ x, x = (ts[j]'l1).ad := ⟨_, rfl⟩
            obtain ⟨x4, hx4⟩ : ∃ x, x = (ts[j]'l1).va := ⟨_, rfl⟩
            rw [← hx0] at e0
            rw [← hx1] at e1
            rw [← hx2] at e2
            rw [← hx3] at e3
            rw [← hx4] at e4
            rw [← hx0, ← hx1, ← hx2, ← hx3, ← hx4] at CA
            clear hx0 hx1 hx2 hx3 hx4
            have L2 := Lib.hid hl2
            obtain ⟨d, hd⟩ : ∃ d, d = (ts[j]'l1).right cores := ⟨_, rfl⟩
            rw [← hd] at CA
            have HD := Lib.hid hd
            have JI := Lib.hid (show j + 1 ≤ n by omega)
            clear hd hn2 hl2 hj cj
            go_upto_region 8 with fail
            refine to_cls ?_
            intro U1 hU1 y1
            have r_c : ∀ y : Wb U1, Row y.at z.at.heap.size [.int .i64 x0, .int .i64 x1, .int .i64 x2, .int .u64 x3, .int .u64 x4, .slice p2 n2 q2] 25 := Row.next (Row.new _ [.int .i64 x0, .int .i64 x1, .int .i64 x2, .int .u64 x3, .int .u64 x4, .slice p2 n2 q2] _) hU1
            have BU := Lib.hid (fun y : Wb U1 => show Below z.at.heap.size z.at y.at from (((Below.refl z.at.heap.size z.at).alloc (Nat.le_refl _) _).trans (hU1.mono (by simp))).trans (y.bel.mono (by have := hU1.size; simp at this; omega)))
            clear hU1 e0 e1 e2 e3 e4 e5
            have e0 := fun y : Wb U1 => (r_c y).cell 0
            have e1 := fun y : Wb U1 => (r_c y).cell 1
            have e2 := fun y : Wb U1 => (r_c y).cell 2
            have e3 := fun y : Wb U1 => (r_c y).cell 3
            have e4 := fun y : Wb U1 => (r_c y).cell 4
            have e5 := fun y : Wb U1 => (r_c y).cell 5
            simp only [List.getElem?_cons_zero, List.getElem?_cons_succ] at e0 e1 e2 e3 e4 e5
            have CB := Lib.hid (CA.out y1.at (L2.out.below (BU.out y1)))
            clear r_c CA
            by_cases dz : d = 0
            · subst dz
              go_wp2_with (go_at_call 41; refine CB.out.mono ?_; rintro e w9 ⟨rfl, g⟩; obtain ⟨x9, rfl⟩ := Wb.next g; clear g)
              go_roundw
              case rel => exact ⟨j + 1, ⟨x9.at, z.bel.trans ((BU.out x9).mono z.bel.size)⟩, JI.out, by go_num, fun i h h2 => by
                by_cases e : i = j
                · subst e; exact HD.out.symm
                · exact HA.out i h (by omega), rfl⟩
              case measure => have := JI.out; simp [intOf]; omega
            · have d1 : ¬ (d : Int) = 0 := by omega
              have d2 : ((d : Int) != 0) = true := by simp; omega
              have G := Lib.hid (show c.right cores = d by rw [F.out, rightL_at l1 HA.out (by rw [← HD.out]; exact dz), HD.out])
              go_wp2_with (go_at_call 41; refine CB.out.mono ?_; rintro e w9 ⟨rfl, g⟩; obtain ⟨x9, rfl⟩ := Wb.next g; clear g)
              go_ret
              exact ⟨by rw [G.out]; rfl, (KK.out z).trans ((BU.out x9).mono (KK.out z).size)⟩
          · obtain rfl : j = n := by omega
            have G := Lib.hid (show c.right cores = 0 by rw [F.out]; exact rightL_zero fun i hi => HA.out i hi (by have := HN.out; omega))
            clear hj cj
            go_wp2
            go_ret
            exact ⟨by rw [G.out]; rfl, KK.out z⟩
end Go.Proofs.YtgpngjgilcbigaaDoor
