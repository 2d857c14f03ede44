/-
  Layer 11: a condition's text; the code's within.
-/
import Derived.Test.YtgpngjgilcbigaaDoorOr
import Derived.Test.YtgpngjgilcbigaaDoorOh
set_option linter.unusedSimpArgs false
set_option linter.unusedVariables false
namespace GrC
open GrP GrL
open GrA (reg reg_len itoa_len64)
/-- is an argument of kind ak put in brackets, the i-th of a condition of kind k? -/
def wrapB (k : Int) (i : Nat) (ak : Int) : Bool := (decide (ak = 5) && (decide (k ≠ 5) || decide (i = 1))) || (decide (ak = 4) && (decide (k = 6) || (decide (k = 4) && decide (i = 1))))
def wit (k : Int) (i : Nat) (ak : Int) (t : Tx) : Tx := if wrapB k i ak = true then 40 :: (t ++ [41]) else t
def hexT (v : Int) : Tx := 48 :: 120 :: digs 16 v.toNat
def leafT (k co r ad va : Int) : Tx :=
  if k = 1 then Go.Lib.itoa co ++ [58] ++ reg r ++ (61 :: hexT va)
  else if k = 2 then 91 :: hexT ad ++ [93] ++ (61 :: hexT va)
  else if k = 3 then [102, 97, 117, 108, 116, 115, 32] ++ Go.Lib.itoa co ++ (61 :: hexT va)
  else [116, 114, 117, 101]
def sgT (k : Int) : Tx := if k = 4 then [32, 47, 92, 32] else [32, 92, 47, 32]
def joinT (k : Int) : List Int → List Tx → Tx
  | [a], [t] => 126 :: wit k 0 a t
  | [a, b], [t, u] => wit k 0 a t ++ sgT k ++ wit k 1 b u
  | _, _ => []
mutual
def Cnd.pr : Cnd → Tx
  | .node k co r ad va ts =>
    if k = 1 ∨ k = 2 ∨ k = 3 ∨ k = 7 then leafT k co r ad va
    else if (ts.length : Int) ≠ arity k then []
    else joinT k (ts.map Cnd.k) (prL ts)
def prL : List Cnd → List Tx
  | [] => []
  | a :: ts => a.pr :: prL ts
end
theorem prL_map (ts : List Cnd) : prL ts = ts.map Cnd.pr := by
  induction ts with
  | nil => rfl
  | cons a ts ih => rw [prL, ih]; rfl
theorem pr_eq (c : Cnd) : c.pr = if c.k = 1 ∨ c.k = 2 ∨ c.k = 3 ∨ c.k = 7 then leafT c.k c.co c.r c.ad c.va else if (c.args.length : Int) ≠ arity c.k then [] else joinT c.k (c.args.map Cnd.k) (c.args.map Cnd.pr) := by
  obtain ⟨k, co, r, ad, va, ts⟩ := c
  rw [Cnd.pr, prL_map]
  rfl
theorem joinT_one (k : Int) : ∀ (ts : List Cnd) (_ : ts.length = 1) (h0 : 0 < ts.length), joinT k (ts.map Cnd.k) (ts.map Cnd.pr) = 126 :: wit k 0 (ts[0]'h0).k (ts[0]'h0).pr
  | [_], _, _ => rfl
theorem joinT_two (k : Int) : ∀ (ts : List Cnd) (_ : ts.length = 2) (h0 : 0 < ts.length) (h1 : 1 < ts.length), joinT k (ts.map Cnd.k) (ts.map Cnd.pr) = wit k 0 (ts[0]'h0).k (ts[0]'h0).pr ++ sgT k ++ wit k 1 (ts[1]'h1).k (ts[1]'h1).pr
  | [_, _], _, _, _ => rfl
theorem sum_two : ∀ (ts : List Cnd) (h0 : 0 < ts.length) (h1 : 1 < ts.length), (ts[0]'h0).cnt + (ts[1]'h1).cnt ≤ (ts.map Cnd.cnt).sum
  | a :: b :: r, _, _ => by
    simp only [List.map, List.sum_cons, List.getElem_cons_zero, List.getElem_cons_succ]
    omega
theorem pr_leaf {c : Cnd} (h : c.k = 1 ∨ c.k = 2 ∨ c.k = 3 ∨ c.k = 7) : c.pr = leafT c.k c.co c.r c.ad c.va := by rw [pr_eq, if_pos h]
theorem pr_bad {c : Cnd} (h : ¬ (c.k = 1 ∨ c.k = 2 ∨ c.k = 3 ∨ c.k = 7)) (h2 : (c.args.length : Int) ≠ arity c.k) : c.pr = [] := by rw [pr_eq, if_neg h, if_pos h2]
theorem pr_not {c : Cnd} (h : c.k = 6) (hl : c.args.length = 1) (h0 : 0 < c.args.length) : c.pr = 126 :: wit 6 0 (c.args[0]'h0).k (c.args[0]'h0).pr := by
  rw [pr_eq, if_neg (by omega), if_neg (by rw [h, hl]; decide)]
  rw [joinT_one _ _ hl h0, h]
theorem pr_two {c : Cnd} (h : c.k = 4 ∨ c.k = 5) (hl : c.args.length = 2) (h0 : 0 < c.args.length) (h1 : 1 < c.args.length) : c.pr = wit c.k 0 (c.args[0]'h0).k (c.args[0]'h0).pr ++ sgT c.k ++ wit c.k 1 (c.args[1]'h1).k (c.args[1]'h1).pr := by
  rw [pr_eq, if_neg (by omega), if_neg (by rcases h with h | h <;> rw [h, hl] <;> decide)]
  exact joinT_two _ _ hl h0 h1
mutual
/-- all its numbers are of their kinds -/
def Cnd.ok : Cnd → Prop
  | .node _ co r ad va ts => (-9223372036854775808 ≤ co ∧ co ≤ 9223372036854775807) ∧ (-9223372036854775808 ≤ r ∧ r ≤ 9223372036854775807) ∧ (0 ≤ ad ∧ ad < 18446744073709551616) ∧ (0 ≤ va ∧ va < 18446744073709551616) ∧ okL ts
def okL : List Cnd → Prop
  | [] => True
  | a :: ts => a.ok ∧ okL ts
end
theorem okL_mem {ts : List Cnd} (h : okL ts) : ∀ t ∈ ts, t.ok := by
  induction ts with
  | nil => intro t ht; simp at ht
  | cons a ts ih =>
    rw [okL] at h
    intro t ht
    rcases List.mem_cons.1 ht with rfl | ht
    · exact h.1
    · exact ih h.2 t ht
theorem ok_parts {c : Cnd} (h : c.ok) : (-9223372036854775808 ≤ c.co ∧ c.co ≤ 9223372036854775807) ∧ (-9223372036854775808 ≤ c.r ∧ c.r ≤ 9223372036854775807) ∧ (0 ≤ c.ad ∧ c.ad < 18446744073709551616) ∧ (0 ≤ c.va ∧ c.va < 18446744073709551616) ∧ ∀ t ∈ c.args, t.ok := by
  obtain ⟨k, co, r, ad, va, ts⟩ := c
  rw [Cnd.ok] at h
  exact ⟨h.1, h.2.1, h.2.2.1, h.2.2.2.1, okL_mem h.2.2.2.2⟩
theorem hexT_len {v : Int} (h0 : 0 ≤ v) (h1 : v < 18446744073709551616) : (hexT v).length ≤ 66 := by
  have := digs_len64 (b := 16) (by omega) v.toNat (by omega)
  rw [strL_size] at this
  simp only [hexT, List.length_cons]
  omega
theorem wit_yes {k : Int} {i : Nat} {ak : Int} {t : Tx} (h : wrapB k i ak = true) : wit k i ak t = 40 :: (t ++ [41]) := if_pos h
theorem wit_no {k : Int} {i : Nat} {ak : Int} {t : Tx} (h : wrapB k i ak = false) : wit k i ak t = t := if_neg (by rw [h]; decide)
theorem wit_len (k : Int) (i : Nat) (ak : Int) (t : Tx) : (wit k i ak t).length ≤ t.length + 2 := by
  unfold wit
  split <;> simp
theorem leafT_len {c : Cnd} (h : c.ok) : (leafT c.k c.co c.r c.ad c.va).length ≤ 250 := by
  obtain ⟨h1, h2, h3, h4, _⟩ := ok_parts h
  have a1 := itoa_len64 h1.1 h1.2
  have a2 := reg_len c.r
  have a3 := hexT_len h3.1 h3.2
  have a4 := hexT_len h4.1 h4.2
  unfold leafT
  split
  · simp only [List.length_append, List.length_cons, List.length_nil]; omega
  · split
    · simp only [List.length_append, List.length_cons, List.length_nil]; omega
    · split
      · simp only [List.length_append, List.length_cons, List.length_nil]; omega
      · simp
theorem pr_len : ∀ (N : Nat) (c : Cnd), c.cnt ≤ N → c.ok → c.pr.length ≤ 300 * c.cnt := by
  intro N
  induction N with
  | zero => intro c h; have := cnt_pos c; omega
  | succ N ih =>
    intro c hc ho
    have hp := cnt_pos c
    have ha := cnt_args c
    have sub : ∀ i (h : i < c.args.length), (c.args[i]'h).pr.length ≤ 300 * (c.args[i]'h).cnt := fun i h =>
      ih _ (by have := mem_cnt h; omega) ((ok_parts ho).2.2.2.2 _ (List.getElem_mem h))
    by_cases h1 : c.k = 1 ∨ c.k = 2 ∨ c.k = 3 ∨ c.k = 7
    · rw [pr_leaf h1]
      have := leafT_len ho
      omega
    · by_cases h2 : (c.args.length : Int) = arity c.k
      · have h3 := h2
        rw [arity_eq] at h3
        rcases h3 with h3 | h3 | h3
        · exact absurd h3.1 h1
        · have l0 : 0 < c.args.length := by omega
          rw [pr_not h3.1 h3.2 l0]
          have s0 := sub 0 l0
          have m0 := mem_cnt l0
          have w0 := wit_len 6 0 (c.args[0]'l0).k (c.args[0]'l0).pr
          simp only [List.length_cons]
          omega
        · have l0 : 0 < c.args.length := by omega
          have l1 : 1 < c.args.length := by omega
          rw [pr_two h3.1 h3.2 l0 l1]
          have s0 := sub 0 l0
          have s1 := sub 1 l1
          have m := sum_two _ l0 l1
          have w0 := wit_len c.k 0 (c.args[0]'l0).k (c.args[0]'l0).pr
          have w1 := wit_len c.k 1 (c.args[1]'l1).k (c.args[1]'l1).pr
          have sg : (sgT c.k).length = 4 := by unfold sgT; split <;> rfl
          simp only [List.length_append]
          omega
      · rw [pr_bad h1 h2]
        simp
end GrC
namespace Go.Proofs.YtgpngjgilcbigaaDoor
open Go.RowKit GrP GrL GrC

set_option maxRecDepth 100000 in
set_option maxHeartbeats 6400000 in
theorem within_of (N : Nat) (ih : ∀ (c : Cnd) (p : Option Addr) (n q : Nat) (w : World), c.cnt ≤ N → c.cnt ≤ 1000000 → c.ok → n = c.args.length → LAt w c.args p 0 → TB w → Calls Tryd.prog 11 #[.agg #[.int .i64 c.k, .int .i64 c.co, .int .i64 c.r, .int .u64 c.ad, .int .u64 c.va, .slice p n q]] w fun e w' => e = .returned (.string (strL c.pr)) ∧ Below w.heap.size w w') (c : Cnd) (p : Option Addr) (n q i : Nat) (w : World) (hc : c.cnt ≤ N + 1) (hb : c.cnt ≤ 1000000) (ho : c.ok) (hn : n = c.args.length) (hl : LAt w c.args p 0) (ht : TB w) (hi : i < c.args.length) (i1 : i ≤ 1) :
    Calls Tryd.prog 30 #[.agg #[.int .i64 c.k, .int .i64 c.co, .int .i64 c.r, .int .u64 c.ad, .int .u64 c.va, .slice p n q], .int .i64 (i : Int)] w fun e w' => e = .returned (.string (strL (wit c.k i (c.args[i]'hi).k (c.args[i]'hi).pr))) ∧ Below w.heap.size w w' := by
  have HC := Lib.hid (show (c.args[i]'hi).cnt ≤ N ∧ (c.args[i]'hi).cnt ≤ 1000000 ∧ (c.args[i]'hi).ok from ⟨by have := mem_cnt hi; have := cnt_args c; omega, by have := mem_cnt hi; have := cnt_args c; omega, (ok_parts ho).2.2.2.2 _ (List.getElem_mem hi)⟩)
  obtain ⟨kk, hkk⟩ : ∃ k, k = c.k := ⟨_, rfl⟩
  obtain ⟨co, hcc⟩ : ∃ k, k = c.co := ⟨_, rfl⟩
  obtain ⟨rr, hrr⟩ : ∃ k, k = c.r := ⟨_, rfl⟩
  obtain ⟨aa, haa⟩ : ∃ k, k = c.ad := ⟨_, rfl⟩
  obtain ⟨vv, hvv⟩ : ∃ k, k = c.va := ⟨_, rfl⟩
  obtain ⟨ts, hts⟩ : ∃ ts, ts = c.args := ⟨_, rfl⟩
  have HI : i < ts.length := by rw [hts]; exact hi
  have e0 : c.args[i]'hi = ts[i]'HI := by simp only [hts]
  rw [e0] at HC ⊢
  rw [← hts] at hn hl
  rw [← hkk, ← hcc, ← hrr, ← haa, ← hvv]
  have HN := Lib.hid hn
  have i0 : (0 : Int) ≤ (i : Int) := by omega
  have i2 : (i : Int) < (n : Int) := by rw [hn]; omega
  clear e0 hc hb ho hts hn hkk hcc hrr haa hvv
  obtain ⟨a, rfl⟩ := hl.addr i HI
  obtain ⟨p2, n2, q2, hn2, hl2, g0, g1, g2, g3, g4, g5⟩ := hl.cells i HI
  have PC := Lib.hid (fun (U : World) (k : Below w.heap.size w U) => ih (ts[i]'HI) p2 n2 q2 U HC.out.1 HC.out.2.1 HC.out.2.2 hn2 (hl2.below k) (ht.below k))
  obtain ⟨t, htt⟩ : ∃ t, t = (ts[i]'HI).pr := ⟨_, rfl⟩
  have TL := Lib.hid (show t.length ≤ 300000000 by rw [htt]; have := pr_len N _ HC.out.1 HC.out.2.2; have := HC.out.2.1; omega)
  obtain ⟨x0, hx0⟩ : ∃ x, x = (ts[i]'HI).k := ⟨_, rfl⟩
  obtain ⟨x1, hx1⟩ : ∃ x, x = (ts[i]'HI).co := ⟨_, rfl⟩
  obtain ⟨x2, hx2⟩ : ∃ x, x = (ts[i]'HI).r := ⟨_, rfl⟩
  obtain ⟨x3, hx3⟩ : ∃ x, x = (ts[i]'HI).ad := ⟨_, rfl⟩
  obtain ⟨x4, hx4⟩ : ∃ x, x = (ts[i]'HI).va := ⟨_, rfl⟩
  rw [← hx0] at g0
  rw [← hx1] at g1
  rw [← hx2] at g2
  rw [← hx3] at g3
  rw [← hx4] at g4
  rw [← htt, ← hx0, ← hx1, ← hx2, ← hx3, ← hx4] at PC
  rw [← htt, ← hx0]
  have SB := Lib.hid (show (⟨#[40]⟩ ++ strL t ++ ⟨#[41]⟩ : ByteArray) = strL (40 :: (t ++ [41])) by rw [show (⟨#[40]⟩ : ByteArray) = strL [40] from rfl, show (⟨#[41]⟩ : ByteArray) = strL [41] from rfl, strL_app, strL_app]; rfl)
  have SZ := Lib.hid (show (strL t).size = t.length from strL_size t)
  have s1 : ¬ 9223372036854775807 < 1 + (strL t).size := by have := SZ.out; have := TL.out; omega
  have s2 : ¬ 9223372036854775807 < 1 + (strL t).size + 1 := by have := SZ.out; have := TL.out; omega
  have HL := Lib.hid hl
  clear hx0 hx1 hx2 hx3 hx4 htt HC hn2 hl2 ih ht hi
  go_enter Tryd.func30, Tryd.ntmps30
  go_upto_region 1 with fail
  refine to_cls ?_
  intro U0 hU0 y0
  have r_c : ∀ z : Wb U0, Row z.at w.heap.size [.int .i64 kk, .int .i64 co, .int .i64 rr, .int .u64 aa, .int .u64 vv, .slice (some a) n q] 25 := Row.next (Row.new _ [.int .i64 kk, .int .i64 co, .int .i64 rr, .int .u64 aa, .int .u64 vv, .slice (some a) n q] _) hU0
  have KK := Lib.hid (KB.next (KB.alloc (Below.refl w.heap.size w) _) hU0)
  clear hU0
  have c_0 := fun z : Wb U0 => (r_c z).cell 0
  have c_1 := fun z : Wb U0 => (r_c z).cell 1
  have c_2 := fun z : Wb U0 => (r_c z).cell 2
  have c_3 := fun z : Wb U0 => (r_c z).cell 3
  have c_4 := fun z : Wb U0 => (r_c z).cell 4
  have c_5 := fun z : Wb U0 => (r_c z).cell 5
  simp only [List.getElem?_cons_zero, List.getElem?_cons_succ] at c_0 c_1 c_2 c_3 c_4 c_5
  have LU := Lib.hid (fun z : Wb U0 => HL.out.below (KK.out z))
  clear r_c
  obtain ⟨pC, hpC⟩ : ∃ b, b = w.heap.size := ⟨_, rfl⟩
  rw [← hpC] at c_0 c_1 c_2 c_3 c_4 c_5
  simp only [← hpC]
  clear hpC
  have H2 := Lib.hid (fun z : Wb U0 => KK.out z)
  have f0 := fun z : Wb U0 => keep_below (KK.out z) _ _ g0
  have f1 := fun z : Wb U0 => keep_below (KK.out z) _ _ g1
  have f2 := fun z : Wb U0 => keep_below (KK.out z) _ _ g2
  have f3 := fun z : Wb U0 => keep_below (KK.out z) _ _ g3
  have f4 := fun z : Wb U0 => keep_below (KK.out z) _ _ g4
  have f5 := fun z : Wb U0 => keep_below (KK.out z) _ _ g5
  clear g0 g1 g2 g3 g4 g5 LU
  have c_0 := y0.lift c_0
  have c_5 := y0.lift c_5
  have f0 := y0.lift f0
  have f1 := y0.lift f1
  have f2 := y0.lift f2
  have f3 := y0.lift f3
  have f4 := y0.lift f4
  have f5 := y0.lift f5
  go_upto_region 2 with fail
  refine to_cls ?_
  intro U1 hU1 y1
  have r_e : Row y1.at y0.at.heap.size [.int .i64 x0, .int .i64 x1, .int .i64 x2, .int .u64 x3, .int .u64 x4, .slice p2 n2 q2] 25 := ((Row.new y0.at [.int .i64 x0, .int .i64 x1, .int .i64 x2, .int .u64 x3, .int .u64 x4, .slice p2 n2 q2] _).below hU1).below y1.bel
  have K2 := (KB.alloc (Below.refl y0.at.heap.size y0.at) (.cells #[.int .i64 x0, .int .i64 x1, .int .i64 x2, .int .u64 x3, .int .u64 x4, .slice p2 n2 q2] 25)).trans ((hU1.trans (y1.bel.mono hU1.size)).mono (by simp))
  have KF := Lib.hid ((KK.out y0).trans (K2.mono (KK.out y0).size))
  have c0 := keep_below K2 _ _ (c_0 ⟨y0.at, Below.refl _ _⟩)
  obtain ⟨pE, hpE⟩ : ∃ b, b = y0.at.heap.size := ⟨_, rfl⟩
  rw [← hpE] at r_e
  simp only [← hpE]
  have e0 := (r_e).cell 0
  have e1 := (r_e).cell 1
  have e2 := (r_e).cell 2
  have e3 := (r_e).cell 3
  have e4 := (r_e).cell 4
  have e5 := (r_e).cell 5
  simp only [List.getElem?_cons_zero, List.getElem?_cons_succ] at e0 e1 e2 e3 e4 e5
  clear r_e K2 hU1 hpE c_0 c_5 f0 f1 f2 f3 f4 f5 c_1 c_2 c_3 c_4
  have KZ := Lib.hid KF.out
  have b1 : i = 1 ∨ i = 0 := by omega
  clear i0 i2
  by_cases a5 : x0 = 5
  · subst a5
    by_cases k5 : kk = 5
    · subst k5
      rcases b1 with rfl | rfl
      · have BB := Lib.hid (show wrapB 5 1 5 = true by unfold wrapB; first | (simp; done) | (simp; omega) | decide)
        go_wp2_with (go_at_call 11; refine (PC.out _ KZ.out).mono ?_; rintro e w9 ⟨rfl, g⟩; have G9 := Lib.hid g; clear g)
        go_ret
        have W := Lib.hid (SB.out.trans (congrArg strL (wit_yes (t := t) BB.out).symm))
        exact ⟨by rw [← W.out]; rfl, KF.out.trans (G9.out.mono KF.out.size)⟩
      · have BB := Lib.hid (show wrapB 5 0 5 = false by unfold wrapB; first | (simp; done) | (simp; omega) | decide)
        go_wp2_with (go_at_call 11; refine (PC.out _ KZ.out).mono ?_; rintro e w9 ⟨rfl, g⟩; have G9 := Lib.hid g; clear g)
        go_ret
        have W := Lib.hid (congrArg strL (wit_no (t := t) BB.out))
        exact ⟨by rw [W.out]; rfl, KF.out.trans (G9.out.mono KF.out.size)⟩
    · have k5b : (kk != 5) = true := by simpa using k5
      have BB := Lib.hid (show wrapB kk i 5 = true by unfold wrapB; first | (simp; done) | (simp; omega) | decide)
      go_wp2_with (go_at_call 11; refine (PC.out _ KZ.out).mono ?_; rintro e w9 ⟨rfl, g⟩; have G9 := Lib.hid g; clear g)
      go_ret
      have W := Lib.hid (SB.out.trans (congrArg strL (wit_yes (t := t) BB.out).symm))
      exact ⟨by rw [← W.out]; rfl, KF.out.trans (G9.out.mono KF.out.size)⟩
  have a5b : (x0 == 5) = false := by simpa using a5
  by_cases a4 : x0 = 4
  · subst a4
    by_cases k6 : kk = 6
    · subst k6
      have BB := Lib.hid (show wrapB 6 i 4 = true by unfold wrapB; first | (simp; done) | (simp; omega) | decide)
      go_wp2_with (go_at_call 11; refine (PC.out _ KZ.out).mono ?_; rintro e w9 ⟨rfl, g⟩; have G9 := Lib.hid g; clear g)
      go_ret
      have W := Lib.hid (SB.out.trans (congrArg strL (wit_yes (t := t) BB.out).symm))
      exact ⟨by rw [← W.out]; rfl, KF.out.trans (G9.out.mono KF.out.size)⟩
    have k6b : (kk == 6) = false := by simpa using k6
    by_cases k4 : kk = 4
    · subst k4
      rcases b1 with rfl | rfl
      · have BB := Lib.hid (show wrapB 4 1 4 = true by unfold wrapB; first | (simp; done) | (simp; omega) | decide)
        go_wp2_with (go_at_call 11; refine (PC.out _ KZ.out).mono ?_; rintro e w9 ⟨rfl, g⟩; have G9 := Lib.hid g; clear g)
        go_ret
        have W := Lib.hid (SB.out.trans (congrArg strL (wit_yes (t := t) BB.out).symm))
        exact ⟨by rw [← W.out]; rfl, KF.out.trans (G9.out.mono KF.out.size)⟩
      · have BB := Lib.hid (show wrapB 4 0 4 = false by unfold wrapB; first | (simp; done) | (simp; omega) | decide)
        go_wp2_with (go_at_call 11; refine (PC.out _ KZ.out).mono ?_; rintro e w9 ⟨rfl, g⟩; have G9 := Lib.hid g; clear g)
        go_ret
        have W := Lib.hid (congrArg strL (wit_no (t := t) BB.out))
        exact ⟨by rw [W.out]; rfl, KF.out.trans (G9.out.mono KF.out.size)⟩
    have k4b : (kk == 4) = false := by simpa using k4
    have BB := Lib.hid (show wrapB kk i 4 = false by unfold wrapB; first | (simp; done) | (simp; omega) | decide)
    go_wp2_with (go_at_call 11; refine (PC.out _ KZ.out).mono ?_; rintro e w9 ⟨rfl, g⟩; have G9 := Lib.hid g; clear g)
    go_ret
    have W := Lib.hid (congrArg strL (wit_no (t := t) BB.out))
    exact ⟨by rw [W.out]; rfl, KF.out.trans (G9.out.mono KF.out.size)⟩
  have a4b : (x0 == 4) = false := by simpa using a4
  have BB := Lib.hid (show wrapB kk i x0 = false by unfold wrapB; first | (simp; done) | (simp; omega) | decide)
  go_wp2_with (go_at_call 11; refine (PC.out _ KZ.out).mono ?_; rintro e w9 ⟨rfl, g⟩; have G9 := Lib.hid g; clear g)
  go_ret
  have W := Lib.hid (congrArg strL (wit_no (t := t) BB.out))
  exact ⟨by rw [W.out]; rfl, KF.out.trans (G9.out.mono KF.out.size)⟩
end Go.Proofs.YtgpngjgilcbigaaDoor
