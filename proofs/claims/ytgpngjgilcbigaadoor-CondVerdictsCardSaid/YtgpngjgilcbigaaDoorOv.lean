/-
  Layer 11, the laws: CondRight, CondHolds.
-/
import Derived.Test.YtgpngjgilcbigaaDoorOu
import Derived.Test.YtgpngjgilcbigaaDoorOf
import Derived.Test.YtgpngjgilcbigaaDoorOi
set_option linter.unusedSimpArgs false
set_option linter.unusedVariables false
namespace GrC
theorem small_sum : ∀ (d : Nat) (ts : List Cnd), smallL d ts = true → ∀ t ∈ ts, t.small d = true := by
  intro d ts
  induction ts with
  | nil => intro _ t ht; simp at ht
  | cons a ts ih =>
    intro h t ht
    rw [smallL, Bool.and_eq_true] at h
    rcases List.mem_cons.1 ht with rfl | ht
    · exact h.1
    · exact ih h.2 t ht
theorem sum_le_mul (M : Nat) : ∀ (ts : List Cnd), (∀ t ∈ ts, t.cnt ≤ M) → (ts.map Cnd.cnt).sum ≤ ts.length * M
  | [], _ => by simp
  | a :: ts, h => by
    have := sum_le_mul M ts fun t ht => h t (List.mem_cons_of_mem _ ht)
    have ha := h a (List.mem_cons_self)
    simp only [List.map, List.sum_cons, List.length_cons, Nat.succ_mul]
    omega
theorem small_cnt : ∀ (d : Nat) (c : Cnd), c.small d = true → c.cnt ≤ 7 ^ d := by
  intro d
  induction d with
  | zero => intro c h; simp [Cnd.small] at h
  | succ d ih =>
    intro c h
    obtain ⟨k, co, r, ad, va, ts⟩ := c
    rw [Cnd.small, Bool.and_eq_true, decide_eq_true_eq] at h
    have h1 := sum_le_mul (7 ^ d) ts fun t ht => ih t (small_sum d ts h.2 t ht)
    have h2 := cnt_args (.node k co r ad va ts)
    have h3 : ts.length * 7 ^ d ≤ 6 * 7 ^ d := Nat.mul_le_mul_right _ h.1
    have h4 : 1 ≤ 7 ^ d := Nat.one_le_pow _ _ (by decide)
    have h5 : (Cnd.node k co r ad va ts).args = ts := rfl
    rw [h5] at h2
    rw [Nat.pow_succ]
    omega
theorem small_cnt9 {c : Cnd} (h : c.small 9 = true) : c.cnt ≤ 1099511627776 := Nat.le_trans (small_cnt 9 c h) (by decide)
end GrC
namespace Go.Proofs.YtgpngjgilcbigaaDoor
open Go.RowKit GrP GrL GrC

set_option maxRecDepth 100000 in
set_option maxHeartbeats 6400000 in
theorem condRight_call (c : Cnd) (p : Option Addr) (n q : Nat) (cores : Int) (w : World) (hn : n = c.args.length) (hl : LAt w c.args p 0) (ht : TB w) :
    Calls Tryd.prog 4 #[.agg #[.int .i64 c.k, .int .i64 c.co, .int .i64 c.r, .int .u64 c.ad, .int .u64 c.va, .slice p n q], .int .i64 cores] w fun e w' => e = .returned (.bool true) ∧ Below w.heap.size w w' := by
  have AW := Lib.hid (fun (U : World) (k : Below w.heap.size w U) => awake_any U (ht.below k))
  have SM := Lib.hid (fun (U : World) (k : Below w.heap.size w U) => csmall_any 9 c p n q U hn (hl.below k) (by decide))
  have RL := Lib.hid (fun (hc : c.cnt ≤ 1099511627776) (U : World) (k : Below w.heap.size w U) => lright_any cores c p n q U hc hn (hl.below k))
  have RR := Lib.hid (fun (hc : c.cnt ≤ 1099511627776) (U : World) (k : Below w.heap.size w U) => rrightly_any cores c p n q U hc hn (hl.below k))
  have CL := Lib.hid (fun (hc : c.cnt ≤ 1099511627776) (U : World) (k : Below w.heap.size w U) => count_any 1099511627776 (Nat.le_refl _) c p n q U hc hn (hl.below k))
  have CRR := Lib.hid (fun (hc : c.cnt ≤ 1099511627776) (U : World) (k : Below w.heap.size w U) => rcount_any 1099511627776 (Nat.le_refl _) c p n q U hc hn (hl.below k))
  have SC := Lib.hid (fun h : c.small 9 = true => show c.cnt ≤ 1099511627776 from small_cnt9 h)
  obtain ⟨sm, hsm⟩ : ∃ b, b = c.small 9 := ⟨_, rfl⟩
  rw [← hsm] at SM SC
  obtain ⟨rt, hrt⟩ : ∃ r, r = c.rightly cores := ⟨_, rfl⟩
  rw [← hrt] at RL RR
  obtain ⟨ct, hct⟩ : ∃ r, r = c.cnt := ⟨_, rfl⟩
  rw [← hct] at CL CRR SC RL RR
  obtain ⟨kk, hkk⟩ : ∃ k, k = c.k := ⟨_, rfl⟩
  obtain ⟨co, hcc⟩ : ∃ k, k = c.co := ⟨_, rfl⟩
  obtain ⟨rr, hrr⟩ : ∃ k, k = c.r := ⟨_, rfl⟩
  obtain ⟨aa, haa⟩ : ∃ k, k = c.ad := ⟨_, rfl⟩
  obtain ⟨vv, hvv⟩ : ∃ k, k = c.va := ⟨_, rfl⟩
  obtain ⟨ts, hts⟩ : ∃ ts, ts = c.args := ⟨_, rfl⟩
  rw [← hkk, ← hcc, ← hrr, ← haa, ← hvv] at SM RL RR CL CRR
  rw [← hts] at hn hl
  rw [← hkk, ← hcc, ← hrr, ← haa, ← hvv]
  clear hsm hrt hct ht hkk hcc hrr haa hvv hn
  go_enter Tryd.func4, Tryd.ntmps4
  go_upto_region 1 with fail
  refine to_cls ?_
  intro U0 hU0 y0
  have r_c : ∀ z : Wb U0, Row z.at w.heap.size [.int .i64 kk, .int .i64 co, .int .i64 rr, .int .u64 aa, .int .u64 vv, .slice p n q] 25 := Row.next (Row.new _ [.int .i64 kk, .int .i64 co, .int .i64 rr, .int .u64 aa, .int .u64 vv, .slice p n q] _) hU0
  have KK := Lib.hid (KB.next (KB.alloc (Below.refl w.heap.size w) _) hU0)
  clear hU0
  have c_0 := fun z : Wb U0 => (r_c z).cell 0
  have c_1 := fun z : Wb U0 => (r_c z).cell 1
  have c_2 := fun z : Wb U0 => (r_c z).cell 2
  have c_3 := fun z : Wb U0 => (r_c z).cell 3
  have c_4 := fun z : Wb U0 => (r_c z).cell 4
  have c_5 := fun z : Wb U0 => (r_c z).cell 5
  simp only [List.getElem?_cons_zero, List.getElem?_cons_succ] at c_0 c_1 c_2 c_3 c_4 c_5
  have LU := Lib.hid (fun z : Wb U0 => hl.below (KK.out z))
  clear r_c
  obtain ⟨pC, hpC⟩ : ∃ b, b = w.heap.size := ⟨_, rfl⟩
  rw [← hpC] at c_0 c_1 c_2 c_3 c_4 c_5
  simp only [← hpC]
  clear hpC hl
  have K0 := Lib.hid (KK.out y0)
  have c_0 := y0.lift c_0
  have c_1 := y0.lift c_1
  have c_2 := y0.lift c_2
  have c_3 := y0.lift c_3
  have c_4 := y0.lift c_4
  have c_5 := y0.lift c_5
  clear KK LU hts
  go_upto_region 3 with (go_at_call 8; refine (AW.out _ K0.out).mono ?_; rintro e w4 ⟨rfl, g⟩; obtain ⟨x4, rfl⟩ := Wb.start g; clear g)
  have K4 := Lib.hid (K0.out.trans (x4.bel.mono K0.out.size))
  have c_0 := x4.lift c_0
  have c_1 := x4.lift c_1
  have c_2 := x4.lift c_2
  have c_3 := x4.lift c_3
  have c_4 := x4.lift c_4
  have c_5 := x4.lift c_5
  clear AW
  cases sm with
  | false =>
    go_wp2_with (go_at_call 9; refine (SM.out _ K4.out).mono ?_; rintro e w5 ⟨rfl, g⟩; obtain ⟨x5, rfl⟩ := Wb.start g; clear g)
    go_ret
    exact ⟨rfl, K4.out.trans (x5.bel.mono K4.out.size)⟩
  | true =>
    have HC := Lib.hid (SC.out rfl)
    go_upto_region 5 with (go_at_call 9; refine (SM.out _ K4.out).mono ?_; rintro e w5 ⟨rfl, g⟩; obtain ⟨x5, rfl⟩ := Wb.start g; clear g)
    have K5 := Lib.hid (K4.out.trans (x5.bel.mono K4.out.size))
    have c_0 := x5.lift c_0
    have c_1 := x5.lift c_1
    have c_2 := x5.lift c_2
    have c_3 := x5.lift c_3
    have c_4 := x5.lift c_4
    have c_5 := x5.lift c_5
    have F1 := Lib.hid (fun z : Wb x5.at => RL.out HC.out z.at (K5.out.trans (z.bel.mono K5.out.size)))
    have F2 := Lib.hid (fun z : Wb x5.at => RR.out HC.out z.at (K5.out.trans (z.bel.mono K5.out.size)))
    have F3 := Lib.hid (fun z : Wb x5.at => CL.out HC.out z.at (K5.out.trans (z.bel.mono K5.out.size)))
    have F4 := Lib.hid (fun z : Wb x5.at => CRR.out HC.out z.at (K5.out.trans (z.bel.mono K5.out.size)))
    clear RL RR CL CRR SM SC
    refine wp_region_wb (by kernel_rfl) (by kernel_rfl) ?_
    repeat (go_big_quiet_step (first | (go_at_call 19; exact Calls.wb (F1.out _)) | (go_at_call 10; exact Calls.wb (F2.out _)) | (go_at_call 20; exact Calls.wb (F3.out _)) | (go_at_call 21; exact Calls.wb (F4.out _))))
    refine wpQuiet_nil ?_
    rintro _ ⟨x6, rfl⟩
    go_wp2
    go_ret
    exact ⟨rfl, K5.out.trans (x6.bel.mono K5.out.size)⟩

set_option maxRecDepth 100000 in
set_option maxHeartbeats 6400000 in
theorem condHolds_call (c : Cnd) (p : Option Addr) (n q : Nat) (o : Out) (pr : Option Addr) (nr cr : Nat) (pf : Option Addr) (nf cf : Nat) (pc : Option Addr) (nc cc : Nat) (w : World) (hn : n = c.args.length) (hl : LAt w c.args p 0) (ho : OAt w o pr nr cr pf nf cf pc nc cc) (ht : TB w) :
    Calls Tryd.prog 5 #[.agg #[.int .i64 c.k, .int .i64 c.co, .int .i64 c.r, .int .u64 c.ad, .int .u64 c.va, .slice p n q], .agg #[.slice pr nr cr, .slice pf nf cf, .slice pc nc cc]] w fun e w' => e = .returned (.bool true) ∧ Below w.heap.size w w' := by
  have AW := Lib.hid (fun (U : World) (k : Below w.heap.size w U) => awake_any U (ht.below k))
  have SM := Lib.hid (fun (U : World) (k : Below w.heap.size w U) => csmall_any 9 c p n q U hn (hl.below k) (by decide))
  have RL := Lib.hid (fun (U : World) (k : Below w.heap.size w U) => holds_any o pr nr cr pf nf cf pc nc cc c.cnt c p n q U (Nat.le_refl _) hn (hl.below k) (ho.below k))
  have RR := Lib.hid (fun (U : World) (k : Below w.heap.size w U) => rholds_any o pr nr cr pf nf cf pc nc cc c.cnt c p n q U (Nat.le_refl _) hn (hl.below k) (ho.below k))
  obtain ⟨sm, hsm⟩ : ∃ b, b = c.small 9 := ⟨_, rfl⟩
  rw [← hsm] at SM
  obtain ⟨rt, hrt⟩ : ∃ r, r = c.holds o := ⟨_, rfl⟩
  rw [← hrt] at RL RR
  obtain ⟨kk, hkk⟩ : ∃ k, k = c.k := ⟨_, rfl⟩
  obtain ⟨co, hcc⟩ : ∃ k, k = c.co := ⟨_, rfl⟩
  obtain ⟨rr, hrr⟩ : ∃ k, k = c.r := ⟨_, rfl⟩
  obtain ⟨aa, haa⟩ : ∃ k, k = c.ad := ⟨_, rfl⟩
  obtain ⟨vv, hvv⟩ : ∃ k, k = c.va := ⟨_, rfl⟩
  obtain ⟨ts, hts⟩ : ∃ ts, ts = c.args := ⟨_, rfl⟩
  rw [← hkk, ← hcc, ← hrr, ← haa, ← hvv] at SM RL RR
  rw [← hts] at hn hl
  rw [← hkk, ← hcc, ← hrr, ← haa, ← hvv]
  clear hsm hrt ht hkk hcc hrr haa hvv hn
  go_enter Tryd.func5, Tryd.ntmps5
  go_upto_region 1 with fail
  refine to_cls ?_
  intro U0 hU0 y0
  have r_c : ∀ z : Wb U0, Row z.at w.heap.size [.int .i64 kk, .int .i64 co, .int .i64 rr, .int .u64 aa, .int .u64 vv, .slice p n q] 25 := Row.next ((Row.new _ [.int .i64 kk, .int .i64 co, .int .i64 rr, .int .u64 aa, .int .u64 vv, .slice p n q] _).old _) hU0
  have r_o : ∀ z : Wb U0, Row z.at (w.heap.size + 1) [.slice pr nr cr, .slice pf nf cf, .slice pc nc cc] 50 := Row.next (Row.new' _ [.slice pr nr cr, .slice pf nf cf, .slice pc nc cc] _ _ (by simp)) hU0
  have KK := Lib.hid (KB.next (KB.alloc (KB.alloc (Below.refl w.heap.size w) _) _) hU0)
  clear hU0
  have c_0 := fun z : Wb U0 => (r_c z).cell 0
  have c_1 := fun z : Wb U0 => (r_c z).cell 1
  have c_2 := fun z : Wb U0 => (r_c z).cell 2
  have c_3 := fun z : Wb U0 => (r_c z).cell 3
  have c_4 := fun z : Wb U0 => (r_c z).cell 4
  have c_5 := fun z : Wb U0 => (r_c z).cell 5
  have o_0 := fun z : Wb U0 => (r_o z).cell 0
  have o_1 := fun z : Wb U0 => (r_o z).cell 1
  have o_2 := fun z : Wb U0 => (r_o z).cell 2
  simp only [List.getElem?_cons_zero, List.getElem?_cons_succ] at c_0 c_1 c_2 c_3 c_4 c_5 o_0 o_1 o_2
  have LU := Lib.hid (fun z : Wb U0 => hl.below (KK.out z))
  have OU := Lib.hid (fun z : Wb U0 => ho.below (KK.out z))
  clear r_c r_o
  obtain ⟨pC, hpC⟩ : ∃ b, b = w.heap.size := ⟨_, rfl⟩
  rw [← hpC] at c_0 c_1 c_2 c_3 c_4 c_5 o_0 o_1 o_2
  simp only [← hpC]
  clear hpC hl ho
  have K0 := Lib.hid (KK.out y0)
  have c_0 := y0.lift c_0
  have c_1 := y0.lift c_1
  have c_2 := y0.lift c_2
  have c_3 := y0.lift c_3
  have c_4 := y0.lift c_4
  have c_5 := y0.lift c_5
  have o_0 := y0.lift o_0
  have o_1 := y0.lift o_1
  have o_2 := y0.lift o_2
  clear KK LU OU hts
  go_upto_region 3 with (go_at_call 8; refine (AW.out _ K0.out).mono ?_; rintro e w4 ⟨rfl, g⟩; obtain ⟨x4, rfl⟩ := Wb.start g; clear g)
  have K4 := Lib.hid (K0.out.trans (x4.bel.mono K0.out.size))
  have c_0 := x4.lift c_0
  have c_1 := x4.lift c_1
  have c_2 := x4.lift c_2
  have c_3 := x4.lift c_3
  have c_4 := x4.lift c_4
  have c_5 := x4.lift c_5
  have o_0 := x4.lift o_0
  have o_1 := x4.lift o_1
  have o_2 := x4.lift o_2
  clear AW
  have F0 := Lib.hid (fun z : Wb x4.at => SM.out z.at (K4.out.trans (z.bel.mono K4.out.size)))
  have F1 := Lib.hid (fun z : Wb x4.at => RL.out z.at (K4.out.trans (z.bel.mono K4.out.size)))
  have F2 := Lib.hid (fun z : Wb x4.at => RR.out z.at (K4.out.trans (z.bel.mono K4.out.size)))
  clear RL RR SM
  cases sm with
  | false =>
    refine wp_region_wb (by kernel_rfl) (by kernel_rfl) ?_
    repeat (go_big_quiet_step ((go_at_call 9; exact Calls.wb (F0.out _))))
    refine wpQuiet_nil ?_
    rintro _ ⟨x6, rfl⟩
    go_wp2
    go_ret
    exact ⟨rfl, K4.out.trans (x6.bel.mono K4.out.size)⟩
  | true =>
    refine wp_region_wb (by kernel_rfl) (by kernel_rfl) ?_
    repeat (go_big_quiet_step (first | (go_at_call 9; exact Calls.wb (F0.out _)) | (go_at_call 22; exact Calls.wb (F1.out _)) | (go_at_call 23; exact Calls.wb (F2.out _))))
    refine wpQuiet_nil ?_
    rintro _ ⟨x6, rfl⟩
    go_wp2
    go_ret
    exact ⟨rfl, K4.out.trans (x6.bel.mono K4.out.size)⟩
end Go.Proofs.YtgpngjgilcbigaaDoor
