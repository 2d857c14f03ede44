/-
  Layer 11, the walks: Count.
-/
import Derived.Test.YtgpngjgilcbigaaDoorOc
set_option linter.unusedSimpArgs false
set_option linter.unusedVariables false
namespace Go.Proofs.YtgpngjgilcbigaaDoor
open Go.RowKit GrC

set_option maxRecDepth 100000 in
set_option maxHeartbeats 3200000 in
theorem counted_any (N : Nat) (H : ∀ (c : Cnd) (p : Option Addr) (n q : Nat) (w : World), c.cnt ≤ N → n = c.args.length → LAt w c.args p 0 → Calls Tryd.prog 20 #[.agg #[.int .i64 c.k, .int .i64 c.co, .int .i64 c.r, .int .u64 c.ad, .int .u64 c.va, .slice p n q]] w fun e w' => e = .returned (.int .i64 (c.cnt : Int)) ∧ Below w.heap.size w w') (ts : List Cnd) (p : Option Addr) (n q : Nat) (w : World) (ht : ∀ t ∈ ts, t.cnt ≤ N) (hn : n = ts.length) (hl : LAt w ts p 0) (hs : (ts.map Cnd.cnt).sum ≤ 1099511627776) :
    Calls Tryd.prog 42 #[.slice p n q] w fun e w' => e = .returned (.int .i64 (((ts.map Cnd.cnt).sum : Nat) : Int)) ∧ Below w.heap.size w w' := by
  have HN := Lib.hid hn
  have HL := Lib.hid hl
  have HT := Lib.hid ht
  have HS := Lib.hid hs
  have HH := Lib.hid H
  have g9 : (n : Int) ≤ 1099511627776 := by have := len_sum ts; omega
  clear hn hl ht hs H
  go_enter Tryd.func42, Tryd.ntmps42
  go_wp2_with fail
  go_loopw [3, 8] (fun sv iv wr => ∃ (j : Nat) (z : Wb w), j ≤ n ∧ iv = .int .i64 (j : Int) ∧ sv = .int .i64 ((((ts.take j).map Cnd.cnt).sum : Nat) : Int) ∧ wr = z.at) (fun _ iv _ => n - (intOf iv).toNat)
  case atStart => exact ⟨0, ⟨w, Below.refl _ _⟩, by omega, rfl, rfl, rfl⟩
  case round =>
    obtain ⟨j, z, hj, rfl, rfl, rfl⟩ := hrel
    have j0 : (0 : Int) ≤ (j : Int) := by omega
    by_cases cj : j < n
    · have j1 : (j : Int) < (n : Int) := by omega
      have l1 : j < ts.length := by have := HN.out; omega
      obtain ⟨a, rfl⟩ := (HL.out.below z.bel).addr j l1
      obtain ⟨p2, n2, q2, hn2, hl2, e0, e1, e2, e3, e4, e5⟩ := (HL.out.below z.bel).cells j l1
      have CA := Lib.hid (fun w1 (h : LAt w1 (ts[j]'l1).args p2 0) => HH.out (ts[j]'l1) p2 n2 q2 w1 (HT.out _ (List.getElem_mem l1)) hn2 h)
      obtain ⟨x0, hx0⟩ : ∃ x, x = (ts[j]'l1).k := ⟨_, rfl⟩
      obtain ⟨x1, hx1⟩ : ∃ x, x = (ts[j]'l1).co := ⟨_, rfl⟩
      obtain ⟨x2, hx2⟩ : ∃ x, x = (ts[j]'l1).r := ⟨_, rfl⟩
      obtain ⟨x3, hx3⟩ : ∃ x, x = (ts[j]'l1).ad := ⟨_, rfl⟩
      obtain ⟨x4, hx4⟩ : ∃ x, x = (ts[j]'l1).va := ⟨_, rfl⟩
      rw [← hx0] at e0
      rw [← hx1] at e1
      rw [← hx2] at e2
      rw [← hx3] at e3
      rw [← hx4] at e4
      rw [← hx0, ← hx1, ← hx2, ← hx3, ← hx4] at CA
      clear hx0 hx1 hx2 hx3 hx4
      have L2 := Lib.hid hl2
      have ST := sum_take ts j l1
      have SL := sum_le ts (j + 1)
      obtain ⟨s0, hs0⟩ : ∃ s, s = ((ts.take j).map Cnd.cnt).sum := ⟨_, rfl⟩
      obtain ⟨d, hd⟩ : ∃ d, d = (ts[j]'l1).cnt := ⟨_, rfl⟩
      rw [← hs0, ← hd] at ST
      rw [← hs0]
      rw [← hd] at CA
      have S9 : (s0 : Int) + (d : Int) ≤ 1099511627776 := by have := HS.out; omega
      have s00 : (0 : Int) ≤ (s0 : Int) := by omega
      have d00 : (0 : Int) ≤ (d : Int) := by omega
      have ST := Lib.hid ST
      have JI := Lib.hid (show j + 1 ≤ n by omega)
      clear hs0 hd hn2 hl2 hj cj SL
      go_upto_region 5 with fail
      refine to_cls ?_
      intro U1 hU1 y1
      have r_c : ∀ y : Wb U1, Row y.at z.at.heap.size [.int .i64 x0, .int .i64 x1, .int .i64 x2, .int .u64 x3, .int .u64 x4, .slice p2 n2 q2] 25 := Row.next (Row.new _ [.int .i64 x0, .int .i64 x1, .int .i64 x2, .int .u64 x3, .int .u64 x4, .slice p2 n2 q2] _) hU1
      have BU := Lib.hid (fun y : Wb U1 => show Below z.at.heap.size z.at y.at from (((Below.refl z.at.heap.size z.at).alloc (Nat.le_refl _) _).trans (hU1.mono (by simp))).trans (y.bel.mono (by have := hU1.size; simp at this; omega)))
      clear hU1 e0 e1 e2 e3 e4 e5
      have e0 := fun y : Wb U1 => (r_c y).cell 0
      have e1 := fun y : Wb U1 => (r_c y).cell 1
      have e2 := fun y : Wb U1 => (r_c y).cell 2
      have e3 := fun y : Wb U1 => (r_c y).cell 3
      have e4 := fun y : Wb U1 => (r_c y).cell 4
      have e5 := fun y : Wb U1 => (r_c y).cell 5
      simp only [List.getElem?_cons_zero, List.getElem?_cons_succ] at e0 e1 e2 e3 e4 e5
      have CB := Lib.hid (CA.out y1.at (L2.out.below (BU.out y1)))
      clear r_c CA
      go_wp2_with (go_at_call 20; refine CB.out.mono ?_; rintro e w9 ⟨rfl, g⟩; obtain ⟨x9, rfl⟩ := Wb.next g; clear g)
      go_roundw
      case rel => exact ⟨j + 1, ⟨x9.at, z.bel.trans ((BU.out x9).mono z.bel.size)⟩, JI.out, by go_num, by rw [ST.out, Int.natCast_add], rfl⟩
      case measure => have := JI.out; simp [intOf]; omega
    · obtain rfl : j = n := by omega
      have E := Lib.hid (show ((ts.take j).map Cnd.cnt).sum = (ts.map Cnd.cnt).sum by rw [List.take_of_length_le (by have := HN.out; omega)])
      rw [E.out]
      clear hj cj
      go_wp2
      go_ret
      exact ⟨rfl, z.bel⟩

set_option maxRecDepth 100000 in
set_option maxHeartbeats 3200000 in
theorem count_any : ∀ (N : Nat), N ≤ 1099511627776 → ∀ (c : Cnd) (p : Option Addr) (n q : Nat) (w : World), c.cnt ≤ N → n = c.args.length → LAt w c.args p 0 → Calls Tryd.prog 20 #[.agg #[.int .i64 c.k, .int .i64 c.co, .int .i64 c.r, .int .u64 c.ad, .int .u64 c.va, .slice p n q]] w fun e w' => e = .returned (.int .i64 (c.cnt : Int)) ∧ Below w.heap.size w w' := by
  intro N
  induction N with
  | zero => intro _ c p n q w hc; have := cnt_pos c; omega
  | succ N ih =>
    intro hN c p n q w hc hn hl
    obtain ⟨ts, hts⟩ : ∃ ts, ts = c.args := ⟨_, rfl⟩
    have CC := cnt_args c
    rw [← hts] at hn hl CC
    have CD := Lib.hid (fun w1 (h : LAt w1 ts p 0) => counted_any N (ih (by omega)) ts p n q w1 (fun t ht => by
      obtain ⟨i, hi, rfl⟩ := List.getElem_of_mem ht
      have := mem_cnt hi
      omega) hn h (by omega))
    obtain ⟨s, hs⟩ : ∃ s, s = (ts.map Cnd.cnt).sum := ⟨_, rfl⟩
    rw [← hs] at CC CD
    have s9 : (s : Int) ≤ 1099511627776 := by omega
    have s0 : (0 : Int) ≤ (s : Int) := by omega
    have E := Lib.hid CC
    clear ih hN hc CC hs hts hn
    go_enter Tryd.func20, Tryd.ntmps20
    go_upto_region 1 with fail
    refine to_cls ?_
    intro U0 hU0 y0
    have r_c : ∀ z : Wb U0, Row z.at w.heap.size [.int .i64 c.k, .int .i64 c.co, .int .i64 c.r, .int .u64 c.ad, .int .u64 c.va, .slice p n q] 25 := Row.next (Row.new _ [.int .i64 c.k, .int .i64 c.co, .int .i64 c.r, .int .u64 c.ad, .int .u64 c.va, .slice p n q] _) hU0
    have KK := Lib.hid (KB.next (KB.alloc (Below.refl w.heap.size w) _) hU0)
    clear hU0
    have c_0 := fun z : Wb U0 => (r_c z).cell 0
    have c_1 := fun z : Wb U0 => (r_c z).cell 1
    have c_2 := fun z : Wb U0 => (r_c z).cell 2
    have c_3 := fun z : Wb U0 => (r_c z).cell 3
    have c_4 := fun z : Wb U0 => (r_c z).cell 4
    have c_5 := fun z : Wb U0 => (r_c z).cell 5
    simp only [List.getElem?_cons_zero, List.getElem?_cons_succ] at c_0 c_1 c_2 c_3 c_4 c_5
    have LU := Lib.hid (fun z : Wb U0 => hl.below (KK.out z))
    clear r_c
    obtain ⟨pC, hpC⟩ : ∃ b, b = w.heap.size := ⟨_, rfl⟩
    rw [← hpC] at c_0 c_1 c_2 c_3 c_4 c_5
    simp only [← hpC]
    clear hpC hl
    go_wp2_with (go_at_call 42; refine (CD.out _ (LU.out y0)).mono ?_; rintro e w9 ⟨rfl, g⟩; obtain ⟨x9, rfl⟩ := Wb.next g; clear g)
    go_ret
    exact ⟨by rw [E.out, Int.natCast_add]; rfl, KK.out x9⟩

set_option maxRecDepth 100000 in
set_option maxHeartbeats 3200000 in
theorem rcount_any : ∀ (N : Nat), N ≤ 1099511627776 → ∀ (c : Cnd) (p : Option Addr) (n q : Nat) (w : World), c.cnt ≤ N → n = c.args.length → LAt w c.args p 0 → Calls Tryd.prog 21 #[.agg #[.int .i64 c.k, .int .i64 c.co, .int .i64 c.r, .int .u64 c.ad, .int .u64 c.va, .slice p n q]] w fun e w' => e = .returned (.int .i64 (c.cnt : Int)) ∧ Below w.heap.size w w' := by
  intro N
  induction N with
  | zero => intro _ c p n q w hc; have := cnt_pos c; omega
  | succ N ih =>
    intro hN c p n q w hc hn hl
    obtain ⟨ts, hts⟩ : ∃ ts, ts = c.args := ⟨_, rfl⟩
    have CC := cnt_args c
    rw [← hts] at hn hl CC
    have HH := Lib.hid (ih (by omega))
    have HT := Lib.hid (show ∀ t ∈ ts, t.cnt ≤ N from fun t ht => by
      obtain ⟨i, hi, rfl⟩ := List.getElem_of_mem ht
      have := mem_cnt hi
      omega)
    have HN := Lib.hid hn
    have HS := Lib.hid (show (ts.map Cnd.cnt).sum ≤ 1099511627776 by omega)
    have E := Lib.hid CC
    clear ih hN hc CC hts hn
    go_enter Tryd.func21, Tryd.ntmps21
    go_upto_region 3 with fail
    refine to_cls ?_
    intro U0 hU0 y0
    have r_c : ∀ z : Wb U0, Row z.at w.heap.size [.int .i64 c.k, .int .i64 c.co, .int .i64 c.r, .int .u64 c.ad, .int .u64 c.va, .slice p n q] 25 := Row.next (Row.new _ [.int .i64 c.k, .int .i64 c.co, .int .i64 c.r, .int .u64 c.ad, .int .u64 c.va, .slice p n q] _) hU0
    have KK := Lib.hid (KB.next (KB.alloc (Below.refl w.heap.size w) _) hU0)
    clear hU0
    have c_0 := fun z : Wb U0 => (r_c z).cell 0
    have c_1 := fun z : Wb U0 => (r_c z).cell 1
    have c_2 := fun z : Wb U0 => (r_c z).cell 2
    have c_3 := fun z : Wb U0 => (r_c z).cell 3
    have c_4 := fun z : Wb U0 => (r_c z).cell 4
    have c_5 := fun z : Wb U0 => (r_c z).cell 5
    simp only [List.getElem?_cons_zero, List.getElem?_cons_succ] at c_0 c_1 c_2 c_3 c_4 c_5
    have LU := Lib.hid (fun z : Wb U0 => hl.below (KK.out z))
    clear r_c
    obtain ⟨pC, hpC⟩ : ∃ b, b = w.heap.size := ⟨_, rfl⟩
    rw [← hpC] at c_0 c_1 c_2 c_3 c_4 c_5
    simp only [← hpC]
    clear hpC hl
    go_wp2_with fail
    go_loopw [3, 4] (fun sv iv wr => ∃ (j : Nat) (z : Wb U0), j ≤ n ∧ iv = .int .i64 (j : Int) ∧ sv = .int .i64 ((1 + ((ts.take j).map Cnd.cnt).sum : Nat) : Int) ∧ wr = z.at) (fun _ iv _ => n - (intOf iv).toNat)
    case atStart => exact ⟨0, y0, by omega, rfl, rfl, rfl⟩
    case round =>
      obtain ⟨j, z, hj, rfl, rfl, rfl⟩ := hrel
      have j0 : (0 : Int) ≤ (j : Int) := by omega
      by_cases cj : j < n
      · have j1 : (j : Int) < (n : Int) := by omega
        have j9 : (j : Int) ≤ 1099511627776 := by have := len_sum ts; have := HS.out; have := HN.out; omega
        have l1 : j < ts.length := by have := HN.out; omega
        obtain ⟨a, rfl⟩ := (LU.out z).addr j l1
        obtain ⟨p2, n2, q2, hn2, hl2, e0, e1, e2, e3, e4, e5⟩ := (LU.out z).cells j l1
        have CA := Lib.hid (HH.out (ts[j]'l1) p2 n2 q2 z.at (HT.out _ (List.getElem_mem l1)) hn2 hl2)
        obtain ⟨x0, hx0⟩ : ∃ x, x = (ts[j]'l1).k := ⟨_, rfl⟩
        obtain ⟨x1, hx1⟩ : ∃ x, x = (ts[j]'l1).co := ⟨_, rfl⟩
        obtain ⟨x2, hx2⟩ : ∃ x, x = (ts[j]'l1).r := ⟨_, rfl⟩
        obtain ⟨x3, hx3⟩ : ∃ x, x = (ts[j]'l1).ad := ⟨_, rfl⟩
        obtain ⟨x4, hx4⟩ : ∃ x, x = (ts[j]'l1).va := ⟨_, rfl⟩
        rw [← hx0] at e0
        rw [← hx1] at e1
        rw [← hx2] at e2
        rw [← hx3] at e3
        rw [← hx4] at e4
        rw [← hx0, ← hx1, ← hx2, ← hx3, ← hx4] at CA
        clear hx0 hx1 hx2 hx3 hx4
        have ST := sum_take ts j l1
        have SL := sum_le ts (j + 1)
        obtain ⟨s0, hs0⟩ : ∃ s, s = ((ts.take j).map Cnd.cnt).sum := ⟨_, rfl⟩
        obtain ⟨d, hd⟩ : ∃ d, d = (ts[j]'l1).cnt := ⟨_, rfl⟩
        rw [← hs0, ← hd] at ST
        rw [← hs0, Int.natCast_add]
        rw [← hd] at CA
        have S9 : (s0 : Int) + (d : Int) ≤ 1099511627776 := by have := HS.out; omega
        have s00 : (0 : Int) ≤ (s0 : Int) := by omega
        have d00 : (0 : Int) ≤ (d : Int) := by omega
        have ST := Lib.hid ST
        have JI := Lib.hid (show j + 1 ≤ n by omega)
        clear hs0 hd hn2 hl2 l1 hj cj SL
        go_wp2_with (go_at_call 21; refine CA.out.mono ?_; rintro e w9 ⟨rfl, g⟩; obtain ⟨x9, rfl⟩ := Wb.next g; clear g)
        go_roundw
        case rel => exact ⟨j + 1, x9, JI.out, by go_num, by rw [ST.out]; go_num, rfl⟩
        case measure => have := JI.out; simp [intOf]; omega
      · obtain rfl : j = n := by omega
        have E2 := Lib.hid (show 1 + ((ts.take j).map Cnd.cnt).sum = c.cnt by rw [List.take_of_length_le (by have := HN.out; omega), E.out])
        rw [E2.out]
        clear hj cj
        go_wp2
        go_ret
        exact ⟨rfl, KK.out z⟩
end Go.Proofs.YtgpngjgilcbigaaDoor
