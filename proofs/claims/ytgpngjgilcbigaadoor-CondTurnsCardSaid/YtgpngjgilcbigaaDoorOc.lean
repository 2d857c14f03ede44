/-
  Layer 11, the walks: small, Count.
-/
import Derived.Test.YtgpngjgilcbigaaDoorOb
import Derived.Test.YtgpngjgilcbigaaDoorBx
import Derived.LoopTactic
set_option linter.unusedSimpArgs false
set_option linter.unusedVariables false
namespace GrC
theorem smallL_all (d : Nat) : ∀ ts : List Cnd, smallL d ts = ts.all (·.small d)
  | [] => rfl
  | t :: us => by rw [smallL, List.all_cons, smallL_all d us]
theorem small_succ (d : Nat) (c : Cnd) : c.small (d + 1) = (decide (c.args.length ≤ 6) && c.args.all (·.small d)) := by
  cases c
  rw [Cnd.small, smallL_all]
  rfl
theorem small_zero (c : Cnd) : c.small 0 = false := by
  cases c
  rfl
theorem cntL_sum : ∀ ts : List Cnd, cntL ts = (ts.map Cnd.cnt).sum
  | [] => rfl
  | t :: us => by rw [cntL, List.map_cons, List.sum_cons, cntL_sum us]
theorem cnt_args (c : Cnd) : c.cnt = 1 + (c.args.map Cnd.cnt).sum := by
  cases c
  rw [Cnd.cnt, cntL_sum]
  rfl
theorem sum_take (ts : List Cnd) (j : Nat) (h : j < ts.length) : ((ts.take (j + 1)).map Cnd.cnt).sum = ((ts.take j).map Cnd.cnt).sum + ts[j].cnt := by
  rw [List.take_succ_eq_append_getElem h, List.map_append, List.sum_append]
  simp only [List.map_cons, List.map_nil, List.sum_cons, List.sum_nil, Nat.add_zero]
theorem sum_le (ts : List Cnd) (j : Nat) : ((ts.take j).map Cnd.cnt).sum ≤ (ts.map Cnd.cnt).sum := by
  have := List.take_append_drop j ts
  have h2 := congrArg (fun l => (l.map Cnd.cnt).sum) this
  simp only [List.map_append, List.sum_append] at h2
  omega
theorem mem_cnt {ts : List Cnd} {j : Nat} (h : j < ts.length) : ts[j].cnt ≤ (ts.map Cnd.cnt).sum := by
  have h1 := sum_take ts j h
  have h2 := sum_le ts (j + 1)
  omega
theorem len_sum : ∀ ts : List Cnd, ts.length ≤ (ts.map Cnd.cnt).sum
  | [] => by simp
  | t :: us => by
    have := len_sum us
    have := cnt_pos t
    simp only [List.map_cons, List.sum_cons, List.length_cons]
    omega
end GrC
namespace Go.Proofs.YtgpngjgilcbigaaDoor
open Go.RowKit GrC
theorem LAt.addr {W : World} {ts : List Cnd} {p : Option Addr} (h : LAt W ts p 0) (j : Nat) (hj : j < ts.length) : ∃ a, p = some a := by
  obtain ⟨a, _, e, _⟩ := LAt.at ts 0 h j hj
  exact ⟨a, e⟩

set_option maxRecDepth 100000 in
set_option maxHeartbeats 3200000 in
theorem csmall_any : ∀ (d : Nat) (c : Cnd) (p : Option Addr) (n q : Nat) (w : World), n = c.args.length → LAt w c.args p 0 → d ≤ 1000 → Calls Tryd.prog 9 #[.agg #[.int .i64 c.k, .int .i64 c.co, .int .i64 c.r, .int .u64 c.ad, .int .u64 c.va, .slice p n q], .int .i64 (d : Int)] w fun e w' => e = .returned (.bool (c.small d)) ∧ Below w.heap.size w w' := by
  intro d
  induction d with
  | zero =>
    intro c p n q w hn hl hd
    rw [small_zero]
    clear hn hd
    go_enter Tryd.func9, Tryd.ntmps9
    go_upto_region 1 with fail
    refine to_cls ?_
    intro U0 hU0 y0
    have r_c : ∀ z : Wb U0, Row z.at w.heap.size [.int .i64 c.k, .int .i64 c.co, .int .i64 c.r, .int .u64 c.ad, .int .u64 c.va, .slice p n q] 25 := Row.next (Row.new _ [.int .i64 c.k, .int .i64 c.co, .int .i64 c.r, .int .u64 c.ad, .int .u64 c.va, .slice p n q] _) hU0
    have KK := Lib.hid (KB.next (KB.alloc (Below.refl w.heap.size w) _) hU0)
    clear hU0
    have c_0 := fun z : Wb U0 => (r_c z).cell 0
    have c_1 := fun z : Wb U0 => (r_c z).cell 1
    have c_2 := fun z : Wb U0 => (r_c z).cell 2
    have c_3 := fun z : Wb U0 => (r_c z).cell 3
    have c_4 := fun z : Wb U0 => (r_c z).cell 4
    have c_5 := fun z : Wb U0 => (r_c z).cell 5
    simp only [List.getElem?_cons_zero, List.getElem?_cons_succ] at c_0 c_1 c_2 c_3 c_4 c_5
    have LU := Lib.hid (fun z : Wb U0 => hl.below (KK.out z))
    clear r_c
    obtain ⟨pC, hpC⟩ : ∃ b, b = w.heap.size := ⟨_, rfl⟩
    rw [← hpC] at c_0 c_1 c_2 c_3 c_4 c_5
    simp only [← hpC]
    clear hpC hl
    go_wp2
    go_ret
    exact ⟨rfl, KK.out y0⟩
  | succ d ih =>
    intro c p n q w hn hl hd
    have IH := Lib.hid ih
    obtain ⟨ts, hts⟩ : ∃ ts, ts = c.args := ⟨_, rfl⟩
    rw [← hts] at hn hl
    have HN := Lib.hid hn
    have SM := Lib.hid (show c.small (d + 1) = (decide (ts.length ≤ 6) && ts.all (·.small d)) by rw [small_succ, hts])
    have d1 : ((d + 1 : Nat) : Int) = (d : Int) + 1 := by omega
    have d2 : ¬ (d : Int) + 1 = 0 := by omega
    have d3 : ((d : Int) + 1 == 0) = false := by simp; omega
    have d4 : (d : Int) ≤ 1000 := by omega
    have d5 : (0 : Int) ≤ (d : Int) := by omega
    rw [d1]
    have HD := Lib.hid hd
    clear ih hd d1 hts
    by_cases cn : 6 < n
    · have g1 : (6 : Int) < (n : Int) := by omega
      have E := Lib.hid (show c.small (d + 1) = false by rw [SM.out, decide_eq_false (by omega)]; rfl)
      clear hn cn
      go_enter Tryd.func9, Tryd.ntmps9
      go_upto_region 1 with fail
      refine to_cls ?_
      intro U0 hU0 y0
      have r_c : ∀ z : Wb U0, Row z.at w.heap.size [.int .i64 c.k, .int .i64 c.co, .int .i64 c.r, .int .u64 c.ad, .int .u64 c.va, .slice p n q] 25 := Row.next (Row.new _ [.int .i64 c.k, .int .i64 c.co, .int .i64 c.r, .int .u64 c.ad, .int .u64 c.va, .slice p n q] _) hU0
      have KK := Lib.hid (KB.next (KB.alloc (Below.refl w.heap.size w) _) hU0)
      clear hU0
      have c_0 := fun z : Wb U0 => (r_c z).cell 0
      have c_1 := fun z : Wb U0 => (r_c z).cell 1
      have c_2 := fun z : Wb U0 => (r_c z).cell 2
      have c_3 := fun z : Wb U0 => (r_c z).cell 3
      have c_4 := fun z : Wb U0 => (r_c z).cell 4
      have c_5 := fun z : Wb U0 => (r_c z).cell 5
      simp only [List.getElem?_cons_zero, List.getElem?_cons_succ] at c_0 c_1 c_2 c_3 c_4 c_5
      have LU := Lib.hid (fun z : Wb U0 => hl.below (KK.out z))
      clear r_c
      obtain ⟨pC, hpC⟩ : ∃ b, b = w.heap.size := ⟨_, rfl⟩
      rw [← hpC] at c_0 c_1 c_2 c_3 c_4 c_5
      simp only [← hpC]
      clear hpC hl
      go_wp2
      go_ret
      exact ⟨by rw [E.out]; rfl, KK.out y0⟩
    · have g1 : ¬ (6 : Int) < (n : Int) := by omega
      have N6 := Lib.hid (show n ≤ 6 by omega)
      have g2 : (n : Int) ≤ 6 := by omega
      clear hn cn
      go_enter Tryd.func9, Tryd.ntmps9
      go_upto_region 1 with fail
      refine to_cls ?_
      intro U0 hU0 y0
      have r_c : ∀ z : Wb U0, Row z.at w.heap.size [.int .i64 c.k, .int .i64 c.co, .int .i64 c.r, .int .u64 c.ad, .int .u64 c.va, .slice p n q] 25 := Row.next (Row.new _ [.int .i64 c.k, .int .i64 c.co, .int .i64 c.r, .int .u64 c.ad, .int .u64 c.va, .slice p n q] _) hU0
      have KK := Lib.hid (KB.next (KB.alloc (Below.refl w.heap.size w) _) hU0)
      clear hU0
      have c_0 := fun z : Wb U0 => (r_c z).cell 0
      have c_1 := fun z : Wb U0 => (r_c z).cell 1
      have c_2 := fun z : Wb U0 => (r_c z).cell 2
      have c_3 := fun z : Wb U0 => (r_c z).cell 3
      have c_4 := fun z : Wb U0 => (r_c z).cell 4
      have c_5 := fun z : Wb U0 => (r_c z).cell 5
      simp only [List.getElem?_cons_zero, List.getElem?_cons_succ] at c_0 c_1 c_2 c_3 c_4 c_5
      have LU := Lib.hid (fun z : Wb U0 => hl.below (KK.out z))
      clear r_c
      obtain ⟨pC, hpC⟩ : ∃ b, b = w.heap.size := ⟨_, rfl⟩
      rw [← hpC] at c_0 c_1 c_2 c_3 c_4 c_5
      simp only [← hpC]
      clear hpC hl
      go_wp2_with fail
      go_loopw [5] (fun iv wr => ∃ (j : Nat) (z : Wb U0), j ≤ n ∧ iv = .int .i64 (j : Int) ∧ (∀ i (h : i < ts.length), i < j → ts[i].small d = true) ∧ wr = z.at) (fun iv _ => n - (intOf iv).toNat)
      case atStart => exact ⟨0, y0, by omega, rfl, fun i h h2 => by omega, rfl⟩
      case round =>
        obtain ⟨j, z, hj, rfl, hall, rfl⟩ := hrel
        have HA := Lib.hid hall
        have j0 : (0 : Int) ≤ (j : Int) := by omega
        clear hall
        by_cases cj : j < n
        · have j1 : (j : Int) < (n : Int) := by omega
          have l1 : j < ts.length := by have := HN.out; omega
          obtain ⟨a, rfl⟩ := (LU.out z).addr j l1
          obtain ⟨p2, n2, q2, hn2, hl2, e0, e1, e2, e3, e4, e5⟩ := (LU.out z).cells j l1
          have CA := Lib.hid (IH.out (ts[j]'l1) p2 n2 q2 z.at hn2 hl2 (by have := HD.out; omega))
          obtain ⟨b, hb⟩ : ∃ b, b = (ts[j]'l1).small d := ⟨_, rfl⟩
          rw [← hb] at CA
          have HB := Lib.hid (show ∀ h : j < ts.length, b = (ts[j]'h).small d from fun _ => hb)
          obtain ⟨x0, hx0⟩ : ∃ x, x = (ts[j]'l1).k := ⟨_, rfl⟩
          obtain ⟨x1, hx1⟩ : ∃ x, x = (ts[j]'l1).co := ⟨_, rfl⟩
          obtain ⟨x2, hx2⟩ : ∃ x, x = (ts[j]'l1).r := ⟨_, rfl⟩
          obtain ⟨x3, hx3⟩ : ∃ x, x = (ts[j]'l1).ad := ⟨_, rfl⟩
          obtain ⟨x4, hx4⟩ : ∃ x, x = (ts[j]'l1).va := ⟨_, rfl⟩
          rw [← hx0] at e0
          rw [← hx1] at e1
          rw [← hx2] at e2
          rw [← hx3] at e3
          rw [← hx4] at e4
          rw [← hx0, ← hx1, ← hx2, ← hx3, ← hx4] at CA
          have JI := Lib.hid (show j + 1 ≤ n by omega)
          clear hx0 hx1 hx2 hx3 hx4 hb hn2 hl2 l1 hj cj
          cases b with
          | true =>
            go_wp2_with (go_at_call 9; refine CA.out.mono ?_; rintro e w9 ⟨rfl, g⟩; obtain ⟨x9, rfl⟩ := Wb.next g; clear g)
            go_roundw
            case rel => exact ⟨j + 1, x9, JI.out, by go_num, fun i h h2 => by
              by_cases e : i = j
              · subst e; exact (HB.out h).symm
              · exact HA.out i h (by omega), rfl⟩
            case measure => have := JI.out; simp [intOf]; omega
          | false =>
            have E := Lib.hid (show c.small (d + 1) = false by
              have l1 : j < ts.length := by have := HN.out; have := JI.out; omega
              rw [SM.out, show ts.all (·.small d) = false from by
                rw [List.all_eq_false]
                exact ⟨_, List.getElem_mem l1, by rw [← HB.out l1]; decide⟩]
              simp)
            go_wp2_with (go_at_call 9; refine CA.out.mono ?_; rintro e w9 ⟨rfl, g⟩; obtain ⟨x9, rfl⟩ := Wb.next g; clear g)
            go_ret
            exact ⟨by rw [E.out]; rfl, KK.out x9⟩
        · obtain rfl : j = n := by omega
          have E := Lib.hid (show c.small (d + 1) = true by
            rw [SM.out, decide_eq_true (by have := N6.out; have := HN.out; omega), Bool.true_and, List.all_eq_true]
            intro x hx
            obtain ⟨i, hi, rfl⟩ := List.getElem_of_mem hx
            exact HA.out i hi (by have := HN.out; omega))
          clear hj cj
          go_wp2
          go_ret
          exact ⟨by rw [E.out]; rfl, KK.out z⟩
end Go.Proofs.YtgpngjgilcbigaaDoor
