/-
  Layer 4, the laws: AsmBlanks.
-/
import Derived.Test.YtebpmngllljkaaaDoorV6
import Derived.Test.YtebpmngllljkaaaDoorKs
set_option linter.unusedSimpArgs false
set_option linter.unusedVariables false
namespace GrA
/-- a part: a sign, or a word -/
def isPart (t : Tx) : Prop := (plainT t ∧ t ≠ []) ∨ ∃ c, signB c = true ∧ t = [c]
theorem flush_part {cur : Tx} (h : plainT cur) : ∀ x ∈ flush cur, isPart x := by
  intro x hx
  unfold flush at hx
  split at hx
  · simp at hx
  · rename_i hn
    simp at hx
    subst hx
    exact .inl ⟨h, hn⟩
theorem go_part : ∀ (t cur : Tx), plainT cur → ∀ x ∈ go cur t, isPart x := by
  intro t
  induction t with
  | nil => intro cur h x hx; rw [go] at hx; exact flush_part h x hx
  | cons c t ih =>
    intro cur h x hx
    have hn : plainT [] := fun c hc => by simp at hc
    by_cases hs : signB c = true
    · rw [go_sign hs] at hx
      rcases List.mem_append.1 hx with hx | hx
      · exact flush_part h x hx
      · rcases List.mem_cons.1 hx with rfl | hx
        · exact .inr ⟨c, hs, rfl⟩
        · exact ih [] hn x hx
    · have hs : signB c = false := by simpa using hs
      by_cases hb : blankB c = true
      · rw [go_blank hs hb] at hx
        rcases List.mem_append.1 hx with hx | hx
        · exact flush_part h x hx
        · exact ih [] hn x hx
      · have hb : blankB c = false := by simpa using hb
        rw [go_plain hs hb] at hx
        refine ih _ (h.app fun y hy => ?_) x hx
        simp at hy
        subst hy
        exact ⟨hs, hb⟩
theorem words_part {s t : Tx} (h : t ∈ words s) : isPart t := go_part s [] (fun c hc => by simp at hc) t h
theorem part_words {t : Tx} (h : isPart t) : words t = [t] := by
  rcases h with ⟨h1, h2⟩ | ⟨c, hc, rfl⟩
  · exact words_end h1 h2
  · rw [words_one hc, words_nil]
theorem go_split (A R : Tx) : ∀ cur, go cur (A ++ 32 :: R) = go cur A ++ words R := by
  induction A with
  | nil => intro cur; rw [List.nil_append, go_blank (by decide) (by decide), go]; rfl
  | cons c A ih =>
    intro cur
    rw [List.cons_append]
    by_cases hs : signB c = true
    · rw [go_sign hs, go_sign hs, ih]; simp
    · have hs : signB c = false := by simpa using hs
      by_cases hb : blankB c = true
      · rw [go_blank hs hb, go_blank hs hb, ih]; simp
      · have hb : blankB c = false := by simpa using hb
        rw [go_plain hs hb, go_plain hs hb, ih]
theorem words_more {A t : Tx} {n : Nat} (hn : 1 ≤ n) (h : isPart t) : words (A ++ (List.replicate n 32 ++ t)) = words A ++ [t] := by
  obtain ⟨k, rfl⟩ : ∃ k, n = k + 1 := ⟨n - 1, by omega⟩
  rw [List.replicate_succ, List.cons_append]
  unfold words
  rw [go_split, words_blanks, part_words h]
/-- how many blanks stand ahead of a part -/
def cnt (zs : List Int) (i : Nat) : Nat := if 0 < zs.getD i 0 ∧ zs.getD i 0 < 5 then (zs.getD i 0).toNat else 1
theorem cnt_bd (zs : List Int) (i : Nat) : 1 ≤ cnt zs i ∧ cnt zs i ≤ 4 := by unfold cnt; split <;> omega
def J (zs : List Int) (L : List Tx) : Nat → Tx
  | 0 => []
  | k + 1 => J zs L k ++ (List.replicate (cnt zs k) 32 ++ L.getD k [])
theorem J_words (zs : List Int) (L : List Tx) (h : ∀ t ∈ L, isPart t) : ∀ k, k ≤ L.length → words (J zs L k) = L.take k := by
  intro k
  induction k with
  | zero => intro _; simp [J, words_nil]
  | succ k ih =>
    intro hk
    have hg : L.getD k [] = L[k] := by rw [List.getD_eq_getElem?_getD, List.getElem?_eq_getElem (by omega)]; rfl
    rw [J, words_more (cnt_bd zs k).1 (by rw [hg]; exact h _ (List.getElem_mem _)), ih (by omega), List.take_succ_eq_append_getElem (by omega), hg]
theorem J_len (zs : List Int) (L : List Tx) (h : ∀ t ∈ L, t.length ≤ 1000) : ∀ k, (J zs L k).length ≤ 1004 * k := by
  intro k
  induction k with
  | zero => simp [J]
  | succ k ih =>
    have hb := (cnt_bd zs k).2
    have hl : (L.getD k []).length ≤ 1000 := by
      rw [List.getD_eq_getElem?_getD]
      cases hi : L[k]? with
      | none => simp
      | some t => exact h t (List.mem_of_getElem? hi)
    rw [J, List.length_append, List.length_append, List.length_replicate]
    omega
theorem rep_snoc (A : Tx) (k : Nat) : A ++ List.replicate (k + 1) 32 = A ++ List.replicate k 32 ++ [32] := by rw [List.replicate_succ', List.append_assoc]
end GrA
namespace Go.Proofs.YtebpmngllljkaaaDoor
open Go.RowKit GrP GrA

set_option maxRecDepth 100000 in
set_option maxHeartbeats 12800000 in
theorem asmBlanks_no (op d n m imm kind : Int) (zs : List Int) (nb : Nat) (vb : Value) (hb : -9223372036854775808 ≤ imm ∧ imm ≤ 9223372036854775807) (w : World) (ht : Tab w) (hs : SlAt w vb 1 nb (zs.map (Value.int .i64))) (hz : zs.length = nb) (hr : ¬ GrI.right ⟨op, d, n, m, imm, kind⟩) : Calls Tryd.prog 7 #[.agg #[.int .i64 op, .int .i64 d, .int .i64 n, .int .i64 m, .int .i64 imm, .int .i64 kind], vb] w fun e w' => e = .returned (.bool true) ∧ Below w.heap.size w w' := by
  have TH := Lib.hid ht
  have AW := Lib.hid (fun w2 (t2 : Tab w2) => aawake_any w2 t2)
  have PR := Lib.hid (fun w2 (t2 : Tab w2) => aprint_no op d n m imm kind w2 t2 hb (by simpa [encB] using hr))
  clear ht hr hb hs hz
  go_enter Tryd.func7, Tryd.ntmps7
  go_upto_region 1 with fail
  refine to_cls ?_
  intro U0 hU0 y0
  have r_b : ∀ z : Wb U0, Row z.at (w.heap.size) [.int .i64 op, .int .i64 d, .int .i64 n, .int .i64 m, .int .i64 imm, .int .i64 kind] 23 := Row.next (Row.new _ [.int .i64 op, .int .i64 d, .int .i64 n, .int .i64 m, .int .i64 imm, .int .i64 kind] _) hU0
  have KK := Lib.hid (KB.next (KB.alloc (Below.refl _ _) _) hU0)
  clear hU0
  obtain ⟨c_b_0, c_b_1, c_b_2, c_b_3, c_b_4, c_b_5⟩ := six r_b
  have TZ := Lib.hid fun z => TH.out.below (KK.out z)
  go_wp2_with fail
  refine (AW.out _ (TZ.out y0)).mono ?_
  rintro e w1 ⟨rfl, g⟩
  obtain ⟨y1, rfl⟩ := Wb.next (x := y0) g
  clear g
  go_wp2_with fail
  refine (PR.out _ (TZ.out y1)).mono ?_
  rintro e w1 ⟨rfl, g⟩
  obtain ⟨y2, rfl⟩ := Wb.next (x := y1) g
  clear g
  go_wp2
  go_ret
  exact ⟨rfl, KK.out y2⟩

set_option maxRecDepth 100000 in
set_option maxHeartbeats 12800000 in
theorem asmBlanks_many (op d n m imm kind : Int) (zs : List Int) (nb : Nat) (vb : Value) (hb : -9223372036854775808 ≤ imm ∧ imm ≤ 9223372036854775807) (w : World) (ht : Tab w) (hs : SlAt w vb 1 nb (zs.map (Value.int .i64))) (hz : zs.length = nb) (hr : GrI.right ⟨op, d, n, m, imm, kind⟩) (h30 : 30 < nb) : Calls Tryd.prog 7 #[.agg #[.int .i64 op, .int .i64 d, .int .i64 n, .int .i64 m, .int .i64 imm, .int .i64 kind], vb] w fun e w' => e = .returned (.bool true) ∧ Below w.heap.size w w' := by
  have TH := Lib.hid ht
  have AW := Lib.hid (fun w2 (t2 : Tab w2) => aawake_any w2 t2)
  have PR := Lib.hid (fun w2 (t2 : Tab w2) => print_yes ⟨op, d, n, m, imm, kind⟩ w2 t2 hr)
  have hpl := printR_len _ hr
  have hpn := printR_ne hr
  have hpw := words_printR _ hr
  have hwl := wordsR_len ⟨op, d, n, m, imm, kind⟩
  unfold iv at PR
  simp only at PR
  obtain ⟨p, hp⟩ : ∃ p, p = printR ⟨op, d, n, m, imm, kind⟩ := ⟨_, rfl⟩
  rw [← hp] at PR hpl hpn hpw
  have e1 : (strL p).toList.isEmpty = false := by rw [strL_toList]; cases p with | nil => exact absurd rfl hpn | cons c t => rfl
  have e2 : ((strL p).toList == []) = false := by rw [strL_toList, beq_eq_false_iff_ne]; exact hpn
  have e3 : ¬ (strL p).toList = [] := by rw [strL_toList]; exact hpn
  obtain ⟨pp, mm, cc, rfl⟩ := hs.form
  have hm : mm = nb := by
    obtain ⟨_, ⟨e, h0⟩ | ⟨a, cap, e, _⟩⟩ := hs
    · injection e with e1 e2 e3; omega
    · injection e with e1 e2 e3
  subst hm
  have g1 : (30 : Int) < (mm : Int) := by omega
  clear ht hr hb hs hz hpl hpn hpw hwl hp h30
  go_enter Tryd.func7, Tryd.ntmps7
  go_upto_region 1 with fail
  refine to_cls ?_
  intro U0 hU0 y0
  have r_b : ∀ z : Wb U0, Row z.at (w.heap.size) [.int .i64 op, .int .i64 d, .int .i64 n, .int .i64 m, .int .i64 imm, .int .i64 kind] 23 := Row.next (Row.new _ [.int .i64 op, .int .i64 d, .int .i64 n, .int .i64 m, .int .i64 imm, .int .i64 kind] _) hU0
  have KK := Lib.hid (KB.next (KB.alloc (Below.refl _ _) _) hU0)
  clear hU0
  obtain ⟨c_b_0, c_b_1, c_b_2, c_b_3, c_b_4, c_b_5⟩ := six r_b
  have TZ := Lib.hid fun z => TH.out.below (KK.out z)
  go_wp2_with fail
  refine (AW.out _ (TZ.out y0)).mono ?_
  rintro e w1 ⟨rfl, g⟩
  obtain ⟨y1, rfl⟩ := Wb.next (x := y0) g
  clear g
  go_wp2_with fail
  refine (PR.out _ (TZ.out y1)).mono ?_
  rintro e w1 ⟨rfl, g⟩
  obtain ⟨y2, rfl⟩ := Wb.next (x := y1) g
  clear g
  go_wp2
  go_ret
  exact ⟨rfl, KK.out y2⟩

set_option maxRecDepth 100000 in
set_option maxHeartbeats 12800000 in
theorem asmBlanks_loop (op d n m imm kind : Int) (zs : List Int) (nb : Nat) (vb : Value) (hb : -9223372036854775808 ≤ imm ∧ imm ≤ 9223372036854775807) (w : World) (ht : Tab w) (hs : SlAt w vb 1 nb (zs.map (Value.int .i64))) (hz : zs.length = nb) (hr : GrI.right ⟨op, d, n, m, imm, kind⟩) (h30 : nb ≤ 30) : Calls Tryd.prog 7 #[.agg #[.int .i64 op, .int .i64 d, .int .i64 n, .int .i64 m, .int .i64 imm, .int .i64 kind], vb] w fun e w' => e = .returned (.bool true) ∧ Below w.heap.size w w' := by
  have TH := Lib.hid ht
  have AW := Lib.hid (fun w2 (t2 : Tab w2) => aawake_any w2 t2)
  have PR := Lib.hid (fun w2 (t2 : Tab w2) => print_yes ⟨op, d, n, m, imm, kind⟩ w2 t2 hr)
  have hpl := printR_len _ hr
  have hpn := printR_ne hr
  have hpw := words_printR _ hr
  have hwl := wordsR_len ⟨op, d, n, m, imm, kind⟩
  unfold iv at PR
  simp only at PR
  obtain ⟨p, hp⟩ : ∃ p, p = printR ⟨op, d, n, m, imm, kind⟩ := ⟨_, rfl⟩
  rw [← hp] at PR hpl hpn hpw
  have e1 : (strL p).toList.isEmpty = false := by rw [strL_toList]; cases p with | nil => exact absurd rfl hpn | cons c t => rfl
  have e2 : ((strL p).toList == []) = false := by rw [strL_toList, beq_eq_false_iff_ne]; exact hpn
  have e3 : ¬ (strL p).toList = [] := by rw [strL_toList]; exact hpn
  obtain ⟨L, hL⟩ : ∃ L, L = words p := ⟨_, rfl⟩
  have WP := Lib.hid (fun w2 => words_any p w2 (by omega))
  unfold WordsPost at WP
  rw [← hL] at WP
  have hpt : ∀ t ∈ L, isPart t := fun t ht => words_part (by rw [hL] at ht; exact ht)
  have hlen : ∀ t ∈ L, t.length ≤ 1000 := fun t ht => Nat.le_trans (words_mem (by rw [hL] at ht; exact ht)) hpl
  have hl1 : 1 ≤ L.length ∧ L.length ≤ 8 := by rw [hL, hpw]; exact hwl
  obtain ⟨q, hq⟩ : ∃ q, q = L.length := ⟨_, rfl⟩
  rw [← hq] at WP hl1
  have JL := Lib.hid (J_len zs L hlen)
  have JP := Lib.hid (show parseT (J zs L q) = some ⟨op, d, n, m, imm, kind⟩ from parse_words hr (by rw [J_words zs L hpt q (by omega), hq, List.take_length, hL]; exact hpw))
  have PA := Lib.hid (fun w2 (t2 : Tab w2) => (show Calls Tryd.prog 13 #[.string (strL (J zs L q))] w2 fun e w' => e = .returned (.tuple #[.agg #[.int .i64 op, .int .i64 d, .int .i64 n, .int .i64 m, .int .i64 imm, .int .i64 kind], .int .i64 0]) ∧ Below w2.heap.size w2 w' from by have := parse_T (J zs L q) w2 t2 (by have := JL.out q; omega); rw [JP.out] at this; exact this))
  have HQ := Lib.hid hl1
  have SQ := Lib.hid hq
  have q0 : (0 : Int) ≤ (q : Int) := by omega
  have q1 : (q : Int) ≤ 8 := by omega
  have HS := Lib.hid hs
  have HZ := Lib.hid hz
  have H30 := Lib.hid h30
  obtain ⟨pp, mm, cc, rfl⟩ := hs.form
  have hm : mm = nb := by
    obtain ⟨_, ⟨e, h0⟩ | ⟨a, cap, e, _⟩⟩ := hs
    · injection e with e1 e2 e3; omega
    · injection e with e1 e2 e3
  subst hm
  have g1 : ¬ (30 : Int) < (mm : Int) := by omega
  have g0 : (0 : Int) ≤ (mm : Int) := by omega
  clear ht hr hb hs hz hpl hpn hpw hwl hp h30 hL hpt hlen hl1 hq JP
  go_enter Tryd.func7, Tryd.ntmps7
  go_upto_region 1 with fail
  refine to_cls ?_
  intro U0 hU0 y0
  have r_b : ∀ z : Wb U0, Row z.at (w.heap.size) [.int .i64 op, .int .i64 d, .int .i64 n, .int .i64 m, .int .i64 imm, .int .i64 kind] 23 := Row.next (Row.new _ [.int .i64 op, .int .i64 d, .int .i64 n, .int .i64 m, .int .i64 imm, .int .i64 kind] _) hU0
  have KK := Lib.hid (KB.next (KB.alloc (Below.refl _ _) _) hU0)
  clear hU0
  obtain ⟨c_b_0, c_b_1, c_b_2, c_b_3, c_b_4, c_b_5⟩ := six r_b
  have TZ := Lib.hid fun z => TH.out.below (KK.out z)
  go_wp2_with fail
  refine (AW.out _ (TZ.out y0)).mono ?_
  rintro e w1 ⟨rfl, g⟩
  obtain ⟨y1, rfl⟩ := Wb.next (x := y0) g
  clear g
  go_wp2_with fail
  refine (PR.out _ (TZ.out y1)).mono ?_
  rintro e w1 ⟨rfl, g⟩
  obtain ⟨y2, rfl⟩ := Wb.next (x := y1) g
  clear g
  go_wp2_with fail
  refine (WP.out _).mono ?_
  rintro e w1 ⟨v, rfl, ho, g⟩
  obtain ⟨y3, rfl⟩ := Wb.next (x := y2) g
  clear g
  have SV := slT_own ho SQ.out HQ.out.1 (by have := HQ.out.2; omega)
  clear ho
  obtain ⟨a, cap, hv, _⟩ := id SV
  rw [← SQ.out] at hv
  subst hv
  have SL := Lib.hid SV
  have RB := Lib.hid (r_b y3)
  have KY := Lib.hid (KK.out y3)
  clear SV c_b_0 c_b_1 c_b_2 c_b_3 c_b_4 c_b_5
  go_wp2_with fail
  go_loopw [7, 8, 9, 10] (fun tv iv _ _ wr => ∃ i : Nat, i ≤ q ∧ iv = .int .i64 (i : Int) ∧ tv = .string (strL (J zs L i)) ∧ Row wr w.heap.size [.int .i64 op, .int .i64 d, .int .i64 n, .int .i64 m, .int .i64 imm, .int .i64 kind] 23 ∧ SlT wr (.slice (some a) q cap) L ∧ Below w.heap.size w wr) (fun _ iv _ _ _ => q - (intOf iv).toNat)
  case atStart => exact ⟨0, by omega, rfl, rfl, RB.out, SL.out, KY.out⟩
  case round =>
    clear RB SL KY
    obtain ⟨i, hi, rfl, rfl, hrb, hsl, hbel⟩ := hrel
    have RB := Lib.hid hrb
    have SL := Lib.hid hsl
    have HB := Lib.hid hbel
    clear hrb hsl hbel
    have i0 : (0 : Int) ≤ (i : Int) := by omega
    by_cases c : i < q
    · have c1 : (i : Int) < (q : Int) := by omega
      obtain ⟨A, hA⟩ : ∃ A, A = J zs L i := ⟨_, rfl⟩
      obtain ⟨r, hr⟩ : ∃ r, r = cnt zs i := ⟨_, rfl⟩
      have NX := Lib.hid (show J zs L (i + 1) = A ++ (List.replicate r 32 ++ L.getD i []) by rw [J, hA, hr])
      have AL := Lib.hid (show A.length ≤ 8040 by rw [hA]; have := JL.out i; have := HQ.out.2; omega)
      have RD := Lib.hid (show 1 ≤ r ∧ r ≤ 4 by rw [hr]; exact cnt_bd zs i)
      obtain ⟨u, hu⟩ : ∃ u, u = L.getD i [] := ⟨_, rfl⟩
      have CU := Lib.hid (slT_atU SL.out i (by rw [← SQ.out]; exact c))
      rw [← hu] at CU NX
      have UL := Lib.hid (show (A ++ (List.replicate r 32 ++ u)).length ≤ 8040 by rw [← NX.out]; have := JL.out (i + 1); have := HQ.out.2; omega)
      have HI := Lib.hid (show i + 1 ≤ q by omega)
      rw [← hA]
      have HR := Lib.hid hr
      clear hA hr hu hi c
      have inner : ∀ (Q2 : Exit → Act → World → Prop), True := fun _ => trivial
      clear inner
      by_cases hin : i < mm
      · have g2 : (i : Int) < (mm : Int) := by omega
        obtain ⟨ab, cb, hab, cz0⟩ : ∃ ab cb, (Value.slice pp mm cc) = .slice (some ab) mm cb ∧ w.cell? (ab.add i) = some (.int .i64 (zs.getD i 0)) := by
          obtain ⟨_, ⟨e, h0⟩ | ⟨a2, cap2, e, _, _, hx⟩⟩ := HS.out
          · omega
          · refine ⟨a2, cap2, e, hx i _ ?_⟩
            rw [List.getElem?_map, List.getElem?_eq_getElem (by rw [HZ.out]; exact hin), List.getD_eq_getElem?_getD, List.getElem?_eq_getElem (by rw [HZ.out]; exact hin)]
            rfl
        injection hab with ha1 ha2 ha3
        subst ha1
        obtain ⟨z, hzz⟩ : ∃ z, z = zs.getD i 0 := ⟨_, rfl⟩
        rw [← hzz] at cz0
        have cz : wr.cell? (ab.add i) = some (.int .i64 z) := by
          rw [HB.out.cell (World.block_lt_of_cell? w _ cz0)]
          exact cz0
        clear cz0
        by_cases z1 : 0 < z
        · by_cases z2 : z < 5
          · have r1 : (r : Int) = z := by rw [HR.out, cnt, ← hzz, if_pos ⟨z1, z2⟩]; omega
            have d1 : decide (0 < z) = true := by simpa using z1
            have d2 : decide (z < 5) = true := by simpa using z2
            clear hzz hin HR
            go_wp2_with fail
            go_loopw [7, 10] (fun tv kv w2 => ∃ k : Nat, k ≤ r ∧ kv = .int .i64 (k : Int) ∧ tv = .string (strL (A ++ List.replicate k 32)) ∧ w2 = wr) (fun _ kv _ => r - (intOf kv).toNat)
            case atStart => exact ⟨0, by omega, rfl, by simp, by first | rfl | trivial⟩
            case round =>
              obtain ⟨k, hk, rfl, rfl, rfl⟩ := hrel
              have k0 : (0 : Int) ≤ (k : Int) := by omega
              by_cases ck : k < r
              · have k1 : (k : Int) < z := by omega
                obtain ⟨B, hB⟩ : ∃ B, B = A ++ List.replicate k 32 := ⟨_, rfl⟩
                have SB := Lib.hid (show strL B ++ ⟨#[32]⟩ = strL (A ++ List.replicate (k + 1) 32) by rw [rep_snoc, ← hB, ← strL_app]; rfl)
                obtain ⟨zB, hzB⟩ : ∃ zB, zB = (strL B).size := ⟨_, rfl⟩
                have bz : zB ≤ 8100 := by have := AL.out; have := RD.out.2; rw [hzB, strL_size, hB, List.length_append, List.length_replicate]; omega
                have NB2 : ¬ 9223372036854775807 < zB + 1 := by omega
                have eB : (strL B).size = zB := hzB.symm
                have HK := Lib.hid (show k + 1 ≤ r by omega)
                rw [← hB]
                clear hB hzB hk ck
                go_wp2
                go_roundw
                case rel => exact ⟨k + 1, HK.out, by go_num, by rw [← SB.out], by first | rfl | trivial⟩
                case measure => have := HK.out; simp [intOf] <;> omega
              · obtain rfl : k = r := by omega
                have k1 : ¬ (k : Int) < z := by omega
                obtain ⟨B, hB⟩ : ∃ B, B = A ++ List.replicate k 32 := ⟨_, rfl⟩
                have SB := Lib.hid (show strL B ++ strL u = strL (J zs L (i + 1)) by rw [NX.out, hB, strL_app, List.append_assoc])
                obtain ⟨zB, hzB⟩ : ∃ zB, zB = (strL B).size := ⟨_, rfl⟩
                obtain ⟨zu, hzu⟩ : ∃ zu, zu = (strL u).size := ⟨_, rfl⟩
                have bz : zB + zu ≤ 8040 := by have := UL.out; rw [hzB, hzu, strL_size, strL_size, hB, List.length_append, List.length_replicate]; simp at this; omega
                have NB2 : ¬ 9223372036854775807 < zB + zu := by omega
                have eB : (strL B).size = zB := hzB.symm
                have eu : (strL u).size = zu := hzu.symm
                have cu := CU.out
                rw [← hB]
                clear hB hzB hzu hk ck
                go_wp2
                go_roundw
                case rel => exact ⟨i + 1, HI.out, by go_num, by rw [← SB.out], RB.out, SL.out, HB.out⟩
                case measure => have := HI.out; simp [intOf] <;> omega
          · have r1 : r = 1 := by rw [HR.out, cnt, ← hzz, if_neg (by omega)]
            have d1 : decide (0 < z) = true := by simpa using z1
            have d2 : decide (z < 5) = false := by simpa using z2
            clear hzz hin HR
            go_wp2_with fail
            go_loopw [7, 10] (fun tv kv w2 => ∃ k : Nat, k ≤ r ∧ kv = .int .i64 (k : Int) ∧ tv = .string (strL (A ++ List.replicate k 32)) ∧ w2 = wr) (fun _ kv _ => r - (intOf kv).toNat)
            case atStart => exact ⟨0, by omega, rfl, by simp, by first | rfl | trivial⟩
            case round =>
              obtain ⟨k, hk, rfl, rfl, rfl⟩ := hrel
              have k0 : (0 : Int) ≤ (k : Int) := by omega
              by_cases ck : k < r
              · have k1 : (k : Int) < 1 := by omega
                obtain ⟨B, hB⟩ : ∃ B, B = A ++ List.replicate k 32 := ⟨_, rfl⟩
                have SB := Lib.hid (show strL B ++ ⟨#[32]⟩ = strL (A ++ List.replicate (k + 1) 32) by rw [rep_snoc, ← hB, ← strL_app]; rfl)
                obtain ⟨zB, hzB⟩ : ∃ zB, zB = (strL B).size := ⟨_, rfl⟩
                have bz : zB ≤ 8100 := by have := AL.out; have := RD.out.2; rw [hzB, strL_size, hB, List.length_append, List.length_replicate]; omega
                have NB2 : ¬ 9223372036854775807 < zB + 1 := by omega
                have eB : (strL B).size = zB := hzB.symm
                have HK := Lib.hid (show k + 1 ≤ r by omega)
                rw [← hB]
                clear hB hzB hk ck
                go_wp2
                go_roundw
                case rel => exact ⟨k + 1, HK.out, by go_num, by rw [← SB.out], by first | rfl | trivial⟩
                case measure => have := HK.out; simp [intOf] <;> omega
              · obtain rfl : k = r := by omega
                have k1 : ¬ (k : Int) < 1 := by omega
                obtain ⟨B, hB⟩ : ∃ B, B = A ++ List.replicate k 32 := ⟨_, rfl⟩
                have SB := Lib.hid (show strL B ++ strL u = strL (J zs L (i + 1)) by rw [NX.out, hB, strL_app, List.append_assoc])
                obtain ⟨zB, hzB⟩ : ∃ zB, zB = (strL B).size := ⟨_, rfl⟩
                obtain ⟨zu, hzu⟩ : ∃ zu, zu = (strL u).size := ⟨_, rfl⟩
                have bz : zB + zu ≤ 8040 := by have := UL.out; rw [hzB, hzu, strL_size, strL_size, hB, List.length_append, List.length_replicate]; simp at this; omega
                have NB2 : ¬ 9223372036854775807 < zB + zu := by omega
                have eB : (strL B).size = zB := hzB.symm
                have eu : (strL u).size = zu := hzu.symm
                have cu := CU.out
                rw [← hB]
                clear hB hzB hzu hk ck
                go_wp2
                go_roundw
                case rel => exact ⟨i + 1, HI.out, by go_num, by rw [← SB.out], RB.out, SL.out, HB.out⟩
                case measure => have := HI.out; simp [intOf] <;> omega
        · have r1 : r = 1 := by rw [HR.out, cnt, ← hzz, if_neg (by omega)]
          have d1 : decide (0 < z) = false := by simpa using z1
          clear hzz hin HR
          go_wp2_with fail
          go_loopw [7, 10] (fun tv kv w2 => ∃ k : Nat, k ≤ r ∧ kv = .int .i64 (k : Int) ∧ tv = .string (strL (A ++ List.replicate k 32)) ∧ w2 = wr) (fun _ kv _ => r - (intOf kv).toNat)
          case atStart => exact ⟨0, by omega, rfl, by simp, by first | rfl | trivial⟩
          case round =>
            obtain ⟨k, hk, rfl, rfl, rfl⟩ := hrel
            have k0 : (0 : Int) ≤ (k : Int) := by omega
            by_cases ck : k < r
            · have k1 : (k : Int) < 1 := by omega
              obtain ⟨B, hB⟩ : ∃ B, B = A ++ List.replicate k 32 := ⟨_, rfl⟩
              have SB := Lib.hid (show strL B ++ ⟨#[32]⟩ = strL (A ++ List.replicate (k + 1) 32) by rw [rep_snoc, ← hB, ← strL_app]; rfl)
              obtain ⟨zB, hzB⟩ : ∃ zB, zB = (strL B).size := ⟨_, rfl⟩
              have bz : zB ≤ 8100 := by have := AL.out; have := RD.out.2; rw [hzB, strL_size, hB, List.length_append, List.length_replicate]; omega
              have NB2 : ¬ 9223372036854775807 < zB + 1 := by omega
              have eB : (strL B).size = zB := hzB.symm
              have HK := Lib.hid (show k + 1 ≤ r by omega)
              rw [← hB]
              clear hB hzB hk ck
              go_wp2
              go_roundw
              case rel => exact ⟨k + 1, HK.out, by go_num, by rw [← SB.out], by first | rfl | trivial⟩
              case measure => have := HK.out; simp [intOf] <;> omega
            · obtain rfl : k = r := by omega
              have k1 : ¬ (k : Int) < 1 := by omega
              obtain ⟨B, hB⟩ : ∃ B, B = A ++ List.replicate k 32 := ⟨_, rfl⟩
              have SB := Lib.hid (show strL B ++ strL u = strL (J zs L (i + 1)) by rw [NX.out, hB, strL_app, List.append_assoc])
              obtain ⟨zB, hzB⟩ : ∃ zB, zB = (strL B).size := ⟨_, rfl⟩
              obtain ⟨zu, hzu⟩ : ∃ zu, zu = (strL u).size := ⟨_, rfl⟩
              have bz : zB + zu ≤ 8040 := by have := UL.out; rw [hzB, hzu, strL_size, strL_size, hB, List.length_append, List.length_replicate]; simp at this; omega
              have NB2 : ¬ 9223372036854775807 < zB + zu := by omega
              have eB : (strL B).size = zB := hzB.symm
              have eu : (strL u).size = zu := hzu.symm
              have cu := CU.out
              rw [← hB]
              clear hB hzB hzu hk ck
              go_wp2
              go_roundw
              case rel => exact ⟨i + 1, HI.out, by go_num, by rw [← SB.out], RB.out, SL.out, HB.out⟩
              case measure => have := HI.out; simp [intOf] <;> omega
      · have g2 : ¬ (i : Int) < (mm : Int) := by omega
        have hz0 : zs.getD i 0 = 0 := by rw [List.getD_eq_getElem?_getD, List.getElem?_eq_none (by rw [HZ.out]; omega)]; rfl
        have r1 : r = 1 := by rw [HR.out, cnt, hz0]; rfl
        clear hz0 hin HR
        go_wp2_with fail
        go_loopw [7, 10] (fun tv kv w2 => ∃ k : Nat, k ≤ r ∧ kv = .int .i64 (k : Int) ∧ tv = .string (strL (A ++ List.replicate k 32)) ∧ w2 = wr) (fun _ kv _ => r - (intOf kv).toNat)
        case atStart => exact ⟨0, by omega, rfl, by simp, by first | rfl | trivial⟩
        case round =>
          obtain ⟨k, hk, rfl, rfl, rfl⟩ := hrel
          have k0 : (0 : Int) ≤ (k : Int) := by omega
          by_cases ck : k < r
          · have k1 : (k : Int) < 1 := by omega
            obtain ⟨B, hB⟩ : ∃ B, B = A ++ List.replicate k 32 := ⟨_, rfl⟩
            have SB := Lib.hid (show strL B ++ ⟨#[32]⟩ = strL (A ++ List.replicate (k + 1) 32) by rw [rep_snoc, ← hB, ← strL_app]; rfl)
            obtain ⟨zB, hzB⟩ : ∃ zB, zB = (strL B).size := ⟨_, rfl⟩
            have bz : zB ≤ 8100 := by have := AL.out; have := RD.out.2; rw [hzB, strL_size, hB, List.length_append, List.length_replicate]; omega
            have NB2 : ¬ 9223372036854775807 < zB + 1 := by omega
            have eB : (strL B).size = zB := hzB.symm
            have HK := Lib.hid (show k + 1 ≤ r by omega)
            rw [← hB]
            clear hB hzB hk ck
            go_wp2
            go_roundw
            case rel => exact ⟨k + 1, HK.out, by go_num, by rw [← SB.out], by first | rfl | trivial⟩
            case measure => have := HK.out; simp [intOf] <;> omega
          · obtain rfl : k = r := by omega
            have k1 : ¬ (k : Int) < 1 := by omega
            obtain ⟨B, hB⟩ : ∃ B, B = A ++ List.replicate k 32 := ⟨_, rfl⟩
            have SB := Lib.hid (show strL B ++ strL u = strL (J zs L (i + 1)) by rw [NX.out, hB, strL_app, List.append_assoc])
            obtain ⟨zB, hzB⟩ : ∃ zB, zB = (strL B).size := ⟨_, rfl⟩
            obtain ⟨zu, hzu⟩ : ∃ zu, zu = (strL u).size := ⟨_, rfl⟩
            have bz : zB + zu ≤ 8040 := by have := UL.out; rw [hzB, hzu, strL_size, strL_size, hB, List.length_append, List.length_replicate]; simp at this; omega
            have NB2 : ¬ 9223372036854775807 < zB + zu := by omega
            have eB : (strL B).size = zB := hzB.symm
            have eu : (strL u).size = zu := hzu.symm
            have cu := CU.out
            rw [← hB]
            clear hB hzB hzu hk ck
            go_wp2
            go_roundw
            case rel => exact ⟨i + 1, HI.out, by go_num, by rw [← SB.out], RB.out, SL.out, HB.out⟩
            case measure => have := HI.out; simp [intOf] <;> omega
    · obtain rfl : i = q := by omega
      have c1 : ¬ (i : Int) < (i : Int) := by omega
      clear hi c
      refine to_cls ?_
      intro U9 hU9 z9
      have r_b : ∀ z : Wb U9, Row z.at w.heap.size [.int .i64 op, .int .i64 d, .int .i64 n, .int .i64 m, .int .i64 imm, .int .i64 kind] 23 := Row.next RB.out hU9
      have KK := Lib.hid (KB.next HB.out hU9)
      have TZ := Lib.hid fun z => TH.out.below (KK.out z)
      clear hU9
      obtain ⟨c_b_0, c_b_1, c_b_2, c_b_3, c_b_4, c_b_5⟩ := six r_b
      go_wp2_with fail
      refine (PA.out _ (TZ.out z9)).mono ?_
      rintro e w1 ⟨rfl, g⟩
      obtain ⟨y20, rfl⟩ := Wb.next (x := z9) g
      clear g
      go_upto_region 20 with fail
      refine to_cls ?_
      intro U21 hU21 y21
      clear c_b_0 c_b_1 c_b_2 c_b_3 c_b_4 c_b_5
      have r_b : ∀ z : Wb U21, Row z.at (w.heap.size) [.int .i64 op, .int .i64 d, .int .i64 n, .int .i64 m, .int .i64 imm, .int .i64 kind] 23 := Row.next ((r_b y20).old _) hU21
      have r_q : ∀ z : Wb U21, Row z.at (y20.at.heap.size) [.int .i64 op, .int .i64 d, .int .i64 n, .int .i64 m, .int .i64 imm, .int .i64 kind] 23 := Row.next (Row.new _ [.int .i64 op, .int .i64 d, .int .i64 n, .int .i64 m, .int .i64 imm, .int .i64 kind] _) hU21
      have KK := Lib.hid (KB.next (KB.alloc (KK.out y20) _) hU21)
      clear hU21
      obtain ⟨c_b_0, c_b_1, c_b_2, c_b_3, c_b_4, c_b_5⟩ := six r_b
      obtain ⟨c_q_0, c_q_1, c_q_2, c_q_3, c_q_4, c_q_5⟩ := six r_q
      obtain ⟨qA, hqA⟩ : ∃ b, b = y20.at.heap.size := ⟨_, rfl⟩
      rw [← hqA] at r_q c_q_0 c_q_1 c_q_2 c_q_3 c_q_4 c_q_5
      simp only [← hqA]
      clear hqA
      go_wp2
      go_ret
      exact ⟨rfl, KK.out y21⟩

theorem asmBlanks_walk (op d n m imm kind : Int) (zs : List Int) (nb : Nat) (vb : Value) (hb : -9223372036854775808 ≤ imm ∧ imm ≤ 9223372036854775807) (w : World) (ht : Tab w) (hs : SlAt w vb 1 nb (zs.map (Value.int .i64))) (hz : zs.length = nb) : Calls Tryd.prog 7 #[.agg #[.int .i64 op, .int .i64 d, .int .i64 n, .int .i64 m, .int .i64 imm, .int .i64 kind], vb] w fun e w' => e = .returned (.bool true) ∧ Below w.heap.size w w' := by
  by_cases hr : GrI.right ⟨op, d, n, m, imm, kind⟩
  · by_cases h30 : 30 < nb
    · exact asmBlanks_many op d n m imm kind zs nb vb hb w ht hs hz hr h30
    · exact asmBlanks_loop op d n m imm kind zs nb vb hb w ht hs hz hr (by omega)
  · exact asmBlanks_no op d n m imm kind zs nb vb hb w ht hs hz hr
end Go.Proofs.YtebpmngllljkaaaDoor
