/-
  Layer 1, the walks: Acyclic, Order; the page's Order; awake.
-/
import Derived.Test.YtjgfnemdklljmaaAq
set_option linter.unusedSimpArgs false
set_option linter.unusedVariables false
namespace GrR
open Go
theorem sort_eq {n : Nat} {T : Mx} (s : Sup n T) : ((((sortL n T n []).length : Nat) : Int) == (n : Int)) = acyc n T := by
  have h := sortL_acyc s
  cases c : acyc n T with
  | true =>
    have := h.2 c
    simp; omega
  | false =>
    have : ¬ (sortL n T n []).length = n := fun e => by
      have := h.1 e
      rw [c] at this
      cases this
    simp; omega
theorem sort_lt {n : Nat} {T : Mx} (s : Sup n T) : decide ((((sortL n T n []).length : Nat) : Int) < (n : Int)) = !acyc n T := by
  have h := sortL_acyc s
  have l := sortL_le s
  cases c : acyc n T with
  | true =>
    have := h.2 c
    simp; omega
  | false =>
    have : ¬ (sortL n T n []).length = n := fun e => by
      have := h.1 e
      rw [c] at this
      cases this
    simp; omega
theorem natC_get {L : List Nat} {j : Nat} (h : j < L.length) : (natC L)[j]? = some (.int .i64 ((L[j] : Nat) : Int)) := by
  unfold natC
  rw [List.getElem?_map, List.getElem?_eq_getElem h]
  rfl
/-- what has been looked at below m stands in nothing's way -/
def freeK (T : Mx) (D : List Nat) (a m : Nat) : Bool := !D.contains a && (List.range m).all fun k => D.contains k || !T k a
theorem freeK_succ (T : Mx) (D : List Nat) (a m : Nat) : freeK T D a (m + 1) = (freeK T D a m && (D.contains m || !T m a)) := by
  unfold freeK
  rw [List.range_succ, List.all_append, Bool.and_assoc]
  simp
theorem freeK_all (n : Nat) (T : Mx) (D : List Nat) (a : Nat) : freeK T D a n = freeB n T D a := rfl
theorem freeK_zero (T : Mx) (D : List Nat) (a : Nat) : freeK T D a 0 = !D.contains a := by simp [freeK]
end GrR
namespace Go.Proofs.Ytjgfnemdklljmaa
open Go.RowKit GrR

def SlN (W : World) (v : Value) (L : List Nat) : Prop := SlAt W v 1 L.length (natC L)
theorem SlN.len {W : World} {a : Option Addr} {n c : Nat} {L : List Nat} (h : SlN W (.slice a n c) L) : n = L.length := by
  obtain ⟨_, ⟨e, h0⟩ | ⟨b, cap, e, _⟩⟩ := h
  · injection e with e1 e2 e3; omega
  · injection e with e1 e2 e3
theorem SlN.addr {W : World} {p : Option Addr} {n c : Nat} {L : List Nat} (h : SlN W (.slice p n c) L) (hn : 0 < n) : ∃ a, p = some a := by
  obtain ⟨_, ⟨e, h0⟩ | ⟨a, cp, e, _⟩⟩ := h
  · injection e with e1 e2 e3
    omega
  · injection e with e1 e2 e3
    exact ⟨a, e1⟩
theorem SlN.at {W : World} {a : Addr} {n c : Nat} {L : List Nat} (h : SlN W (.slice (some a) n c) L) (k : Nat) (hk : k < L.length) : W.cell? (a.add k) = some (.int .i64 ((L[k] : Nat) : Int)) := by
  obtain ⟨_, ⟨e, _⟩ | ⟨b, cap, e, _, _, hx⟩⟩ := h
  · cases e
  · injection e with e1 e2 e3
    injection e1 with e1
    subst e1
    exact hx _ _ (natC_get hk)

set_option maxRecDepth 100000 in
set_option maxHeartbeats 1600000 in
theorem acyclic_any (B n : Nat) (T : Mx) (w : World) (h : RelAt w B n T) :
    Calls Try.prog 40 #[.pointer (some ⟨B, 0, none⟩)] w fun e w' => e = .returned (.bool (acyc n T)) ∧ Below w.heap.size w w' := by
  have SO := Lib.hid (sorted_any B n T w h)
  have H := Lib.hid h
  have E := Lib.hid (sort_eq h.sup)
  clear h
  go_enter Try.func40, Try.ntmps40
  go_wp2_with fail
  refine SO.out.mono ?_
  rintro e w1 ⟨v, rfl, h1, h2⟩
  obtain ⟨p, m, c, rfl⟩ := SlAt.form h1
  have L := Lib.hid (SlN.len h1)
  have B1 := Lib.hid h2
  have SZ := Lib.hid (size_any B n T w1 (H.out.below h2))
  clear h1 h2 SO
  go_wp2_with fail
  refine SZ.out.mono ?_
  rintro e w2 ⟨rfl, rfl⟩
  go_wp2
  go_ret
  exact ⟨(by rw [← E.out, ← L.out]; rfl), B1.out⟩

def OrdPost (n : Nat) (T : Mx) (w : World) (e : Ending) (w' : World) : Prop :=
  Below w.heap.size w w' ∧ if acyc n T = true then ∃ v, e = .returned (.tuple #[v, .int .i64 0]) ∧ SlN w' v (sortL n T n []) else e = .returned (.tuple #[.slice none 0 0, .int .i64 11])
set_option maxRecDepth 100000 in
set_option maxHeartbeats 1600000 in
theorem order_any (B n : Nat) (T : Mx) (w : World) (h : RelAt w B n T) :
    Calls Try.prog 38 #[.pointer (some ⟨B, 0, none⟩)] w (OrdPost n T w) := by
  have SO := Lib.hid (sorted_any B n T w h)
  have H := Lib.hid h
  have E := Lib.hid (sort_lt h.sup)
  clear h
  go_enter Try.func38, Try.ntmps38
  go_wp2_with fail
  refine SO.out.mono ?_
  rintro e w1 ⟨v, rfl, h1, h2⟩
  obtain ⟨p, m, c, rfl⟩ := SlAt.form h1
  have L := Lib.hid (SlN.len h1)
  have B1 := Lib.hid h2
  have S1 := Lib.hid h1
  have SZ := Lib.hid (size_any B n T w1 (H.out.below h2))
  clear h1 h2 SO
  go_wp2_with fail
  refine SZ.out.mono ?_
  rintro e w2 ⟨rfl, rfl⟩
  have e1 : decide ((m : Int) < (n : Int)) = !acyc n T := by rw [L.out]; exact E.out
  cases q : acyc n T with
  | true =>
    rw [q] at e1
    have q1 : ¬ (m : Int) < (n : Int) := of_decide_eq_false e1
    go_wp2
    exact bodyPost_ret (v := .tuple #[.slice p m c, .int .i64 0]) (by simp [results, Try.results38, go_sem]) rfl ⟨B1.out, by rw [if_pos q]; exact ⟨_, rfl, S1.out⟩⟩
  | false =>
    rw [q] at e1
    have q1 : (m : Int) < (n : Int) := of_decide_eq_true e1
    go_wp2
    exact bodyPost_ret (v := .tuple #[.slice none 0 0, .int .i64 11]) (by simp [results, Try.results38, go_sem]) rfl ⟨B1.out, by rw [if_neg (by rw [q]; simp)]⟩

set_option maxRecDepth 100000 in
set_option maxHeartbeats 12800000 in
theorem rorder_any (O n : Nat) (T : Mx) (w : World) (hn : n ≤ 128) (s : Sup n T) (ha : acyc n T = true) (h : TabAt w O n T) :
    Calls Try.prog 43 #[.slice (some ⟨O, 0, none⟩) n n] w fun e w' => ∃ v, e = .returned v ∧ SlN w' v (sortL n T n []) ∧ Below w.heap.size w w' := by
  obtain ⟨i0, hi, hz0, hz1, hz2⟩ := info_parts intInfo
  have HT := Lib.hid h
  have HN := Lib.hid hn
  have SU := Lib.hid s
  have AC := Lib.hid ha
  have MK := make_bools n (by omega) w
  have R0 := Lib.hid (show Row (w.alloc (.cells (boolC n (fun _ => false)).toArray 4)) w.heap.size (boolC n (fun a => ([] : List Nat).contains a)) 4 from Row.new w _ _)
  have B0 := Lib.hid (KB.alloc (Below.refl _ w) (.cells (boolC n (fun _ => false)).toArray 4))
  clear h hn s ha
  go_enter Try.func43, Try.ntmps43
  go_upto_region 3 with fail
  clear MK
  go_loopg [3, 5, 6, 7, 8] n (fun g v _ _ _ _ wr => ∃ (D : List Nat), D.length + g = n ∧ OrdG n T D ∧ Row wr w.heap.size (boolC n (fun a => D.contains a)) 4 ∧ wr.ownsRow (w.heap.size + 1) 3 1 v D.length (natC D) ∧ sortL n T g D = sortL n T n [] ∧ Below w.heap.size w wr)
  case atStart => exact ⟨[], by simp, OrdG.nil n T, R0.out, World.ownsRow_nil _ _ _ _, rfl, B0.out⟩
  case round =>
    clear R0 B0
    obtain ⟨D, hg, hgood, hr, ho, hs, hb⟩ := hrel
    obtain ⟨p, m, cp, rfl⟩ := SlAt.form (SlAt.own ho)
    have EM := Lib.hid (SlN.len (L := D) (SlAt.own ho))
    have GD := Lib.hid hgood
    have RR := Lib.hid hr
    have HO := Lib.hid ho
    have HS := Lib.hid hs
    have HB := Lib.hid hb
    have HG := Lib.hid hg
    have OW := Lib.hid (fun (q : Option Addr) (_ : p = q) => (HO.out))
    clear hgood hr ho hs hb
    have RD := Lib.hid (fun i (hi : i < n) => show wr.cell? ⟨w.heap.size, i, none⟩ = some (.bool (D.contains i)) by rw [RR.out.cell, boolC_get hi])
    by_cases ck : m < n
    · obtain ⟨f, rfl⟩ : ∃ f, gk = f + 1 := ⟨gk - 1, by have := EM.out; omega⟩
      obtain ⟨a, hpk⟩ := pick_acyc (D := D) SU.out AC.out (by have := EM.out; omega)
      obtain ⟨ha, hfree⟩ := pick_some hpk
      have SE := Lib.hid (show sortL n T f (D ++ [a]) = sortL n T n [] by rw [← HS.out, sortL, hpk])
      have BP := Lib.hid (show bst (freeB n T D) n n = (a : Int) by rw [bst_pick, hpk]; rfl)
      have GD2 := Lib.hid (GD.out.step SU.out ha hfree)
      have HA := Lib.hid ha
      clear hpk hfree ha
      have k1 : (m : Int) < (n : Int) := by omega
      have n9 : (n : Int) ≤ 128 := by have := HN.out; omega
      have n0 : (0 : Int) ≤ (n : Int) := by omega
      go_wp2_with fail
      go_loop [5, 6, 7, 8] (fun b i _ _ => ∃ j : Nat, j ≤ n ∧ i = .int .i64 ((n : Int) - 1 - (j : Int)) ∧ b = .int .i64 (bst (freeB n T D) n j)) (fun _ i _ _ => (intOf i + 1).toNat)
      case atStart => exact ⟨0, by omega, by simp, rfl⟩
      case round =>
        obtain ⟨j, hj, rfl, rfl⟩ := hrel
        by_cases cj : j < n
        · obtain ⟨i, hi⟩ : ∃ i : Nat, i = n - 1 - j := ⟨_, rfl⟩
          have BS := Lib.hid (show bst (freeB n T D) n (j + 1) = if freeB n T D i = true then (i : Int) else bst (freeB n T D) n j by rw [hi]; rfl)
          obtain ⟨bb, hbb⟩ : ∃ bb, bb = bst (freeB n T D) n j := ⟨_, rfl⟩
          rw [← hbb] at BS ⊢
          clear hbb
          have IE := Lib.hid (show (n : Int) - 1 - (j : Int) = (i : Int) by omega)
          rw [IE.out]
          have i1 : (i : Int) < (n : Int) := by omega
          have i0' : (0 : Int) ≤ (i : Int) := by omega
          have c0 := RD.out i (by omega)
          obtain ⟨dn, hdn⟩ : ∃ b, b = D.contains i := ⟨_, rfl⟩
          rw [← hdn] at c0
          have DN := Lib.hid hdn
          have HI := Lib.hid (show i < n by omega)
          have IJ := Lib.hid hi
          clear hdn hi
          go_upto_region 9 with fail
          clear c0
          go_wp2_with fail
          go_loop [7, 8] (fun fr k => ∃ m : Nat, m ≤ n ∧ k = .int .i64 (m : Int) ∧ fr = .bool (freeK T D i m)) (fun _ k => n - (intOf k).toNat)
          case atStart => exact ⟨0, by omega, rfl, by rw [freeK_zero, DN.out]⟩
          case round =>
            obtain ⟨q, hq, rfl, rfl⟩ := hrel
            by_cases cq : q < n
            · have q1 : (q : Int) < (n : Int) := by omega
              have q0 : (0 : Int) ≤ (q : Int) := by omega
              have FSu := Lib.hid (freeK_succ T D i q)
              cases cf : freeK T D i q with
              | false =>
                rw [cf] at FSu
                go_wp2_with fail
                go_round
                case rel => exact ⟨q + 1, by omega, by go_num, by rw [FSu.out]; rfl⟩
                case measure => simp [intOf]; omega
              | true =>
                rw [cf] at FSu
                have c0 := RD.out q (by omega)
                cases cd : D.contains q with
                | true =>
                  rw [cd] at c0 FSu
                  go_wp2_with fail
                  clear c0
                  go_round
                  case rel => exact ⟨q + 1, by omega, by go_num, by rw [FSu.out]; rfl⟩
                  case measure => simp [intOf]; omega
                | false =>
                  rw [cd] at c0 FSu
                  have a0 := HT.out.row q cq wr HB.out
                  have a1 := HT.out.bit q i cq HI.out wr HB.out
                  obtain ⟨tt, htt⟩ : ∃ b, b = T q i := ⟨_, rfl⟩
                  rw [← htt] at a1 FSu
                  clear htt
                  go_wp2_with fail
                  clear c0 a0 a1
                  go_round
                  case rel => exact ⟨q + 1, by omega, by go_num, by rw [FSu.out]; cases tt <;> rfl⟩
                  case measure => simp [intOf]; omega
            · obtain rfl : q = n := by omega
              have i2 : ¬ (q : Int) < (q : Int) := by omega
              rw [freeK_all]
              cases cf : freeB q T D i with
              | false =>
                rw [cf] at BS
                go_wp2_with fail
                go_round
                case rel => exact ⟨j + 1, by omega, by (have := IJ.out; congr 1 <;> omega), by rw [BS.out]; rfl⟩
                case measure => (have := IJ.out; simp [intOf] <;> omega)
              | true =>
                rw [cf] at BS
                go_wp2_with fail
                go_round
                case rel => exact ⟨j + 1, by omega, by (have := IJ.out; congr 1 <;> omega), by rw [BS.out]; rfl⟩
                case measure => (have := IJ.out; simp [intOf] <;> omega)
        · obtain rfl : j = n := by omega
          have i2 : ¬ ((j : Int) - 1 - (j : Int) ≥ 0) := by omega
          have i3 : decide ((j : Int) - 1 - (j : Int) ≥ 0) = false := decide_eq_false i2
          rw [BP.out]
          have a0 : (0 : Int) ≤ (a : Int) := by omega
          have a1 : (a : Int) < (j : Int) := by have := HA.out; omega
          have c0 := RD.out a HA.out
          have f0 := RR.out.free a
          obtain ⟨dn, hdn⟩ : ∃ b, b = D.contains a := ⟨_, rfl⟩
          rw [← hdn] at c0
          clear hdn
          go_upto_region 18 with fail
          clear c0 f0 i2 i3
          refine to_cls ?_
          intro U hU z
          have R3 := Lib.hid (Row.next (RR.out.set a (.bool true)) hU z)
          have B3 := Lib.hid (KB.next (KB.put HB.out (Nat.le_refl _) a (.bool true)) hU z)
          have O3 := Lib.hid (own_below (own_below (own_set HO.out (show w.heap.size < w.heap.size + 1 by omega) a (.bool true)) hU) z.bel)
          clear hU
          rw [boolC_set] at R3
          have m9 : m ≤ 128 := by omega
          rw [← EM.out] at O3
          go_wp2_with (at_builtin; refine wpList_append_own _ rfl (.tmp 59) (.tmp 61) 50 rfl (w.heap.size + 1) 3 i0 (.int .i64 0) 1 8 Try.underlying50 hi hz0 hz1 hz2 rfl (by decide) _ _ _ rfl (O3.out.alloc _) ⟨z.at.heap.size, 0, none⟩ 1 1 [.int .i64 (a : Int)] rfl rfl (one_new' _ _ _) ?c2 ?c3 ?c4 ?c5 ?_)
          case c2 => rfl
          case c3 => unfold maxLen; omega
          case c4 => omega
          case c5 => have := R3.out.lt; simp; omega
          intro v' w3 hown' hgrow _
          have R4 := Lib.hid (show Row w3 w.heap.size (boolC j (fun b => (D ++ [a]).contains b)) 4 by
            have := (R3.out.old (.cells #[.int .i64 (a : Int)] 3)).grownR hgrow (fun e => by have := (O3.out.lt _ e.symm).1; omega)
            have e : boolC j (fun b => (D ++ [a]).contains b) = boolC j (fun k => if k = a then true else D.contains k) := List.map_congr_left fun b _ => by
              by_cases c : b = a
              · simp [c]
              · simp [c]
            rw [e]
            exact this)
          have B4 := Lib.hid (show Below w.heap.size w w3 from (B3.out.alloc B3.out.size _).grown hgrow (by have := B3.out.size; simp; omega) (fun j hj => by have := (O3.out.lt j hj).1; omega))
          have LN := Lib.hid (show (D ++ [a]).length = m + 1 by simp [EM.out])
          have O4 := Lib.hid (show w3.ownsRow (w.heap.size + 1) 3 1 v' (m + 1) (natC (D ++ [a])) by
            unfold natC at hown' ⊢
            rw [List.map_append]
            exact hown')
          clear hown' hgrow R3 B3 O3
          go_wp2_with fail
          go_roundg f
          case measure => omega
          case rel => exact ⟨D ++ [a], by rw [LN.out]; have := HG.out; have := EM.out; omega, GD2.out, R4.out, by rw [LN.out]; exact O4.out, SE.out, B4.out⟩
    · have ME := Lib.hid (show D.length = n ∧ gk = 0 by have := HG.out; have := EM.out; omega)
      have SE := Lib.hid (show sortL n T n [] = D by rw [← HS.out, ME.out.2]; rfl)
      have i2 : ¬ (m : Int) < (n : Int) := by omega
      go_wp2
      go_ret
      exact ⟨_, rfl, by rw [SE.out]; exact SlAt.own HO.out, HB.out⟩
end Go.Proofs.Ytjgfnemdklljmaa
