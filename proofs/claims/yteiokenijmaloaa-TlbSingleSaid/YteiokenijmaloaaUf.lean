/-
  Layer 9, the walks: a buffer with an entry more, without one.
-/
import Derived.Test.YteiokenijmaloaaUe
import Derived.Deep.RegionHeld3
set_option linter.unusedSimpArgs false
set_option linter.unusedVariables false
namespace GrT
theorem insE_same (L : List E) (e : E) (h : L[posE L e]? = some e) : insE L e = L := by unfold insE; rw [if_pos h]
end GrT
namespace Go.Proofs.Yteiokenijmaloaa
open Go.RowKit GrT

theorem SlE.nil {W : World} {n c : Nat} {L : List E} (h : SlE W (.slice none n c) L) : n = 0 ∧ c = 0 ∧ L = [] := by
  obtain ⟨h1, ⟨e, h0⟩ | ⟨b, cap, e, hc, hm, hx⟩⟩ := h
  · injection e with e1 e2 e3
    exact ⟨e2, e3, List.eq_nil_of_length_eq_zero h0⟩
  · injection e with e1 e2 e3
    cases e1
theorem SlE.cap {W : World} {p : Option Addr} {n c : Nat} {L : List E} (h : SlE W (.slice p n c) L) : n ≤ c := by
  obtain ⟨h1, ⟨e, h0⟩ | ⟨b, cap, e, hc, hm, hx⟩⟩ := h
  · injection e with e1 e2 e3; omega
  · injection e with e1 e2 e3; omega
theorem SlE.capM {W : World} {p : Option Addr} {n c : Nat} {L : List E} (h : SlE W (.slice p n c) L) : c ≤ maxLen := by
  obtain ⟨h1, ⟨e, h0⟩ | ⟨b, cap, e, hc, hm, hx⟩⟩ := h
  · injection e with e1 e2 e3; omega
  · injection e with e1 e2 e3; omega
theorem SlE.take {W : World} {a : Addr} {n c : Nat} {L : List E} (h : SlE W (.slice (some a) n c) L) (i : Nat) (hi : i ≤ n) : SlE W (.slice (some a) i c) (L.take i) := by
  have hl := h.len
  obtain ⟨h1, ⟨e, _⟩ | ⟨b, cap, e, hc, hm, hx⟩⟩ := h
  · cases e
  · injection e with e1 e2 e3
    injection e1 with e1
    subst e1 e3
    have tl : (L.take i).length = i := by rw [List.length_take]; omega
    refine ⟨entsC_len _, .inr ⟨a, c, by rw [tl], by omega, hm, fun j u hj => ?_⟩⟩
    rw [← entsC_take, List.getElem?_take] at hj
    split at hj
    · exact hx j u hj
    · cases hj
theorem SlE.drop {W : World} {a : Addr} {n c : Nat} {L : List E} (h : SlE W (.slice (some a) n c) L) (i : Nat) (hi : i ≤ n) : SlE W (.slice (some (if c = i then a else a.add (i * 4))) (n - i) (c - i)) (L.drop i) := by
  have hl := h.len
  obtain ⟨h1, ⟨e, _⟩ | ⟨b, cap, e, hc, hm, hx⟩⟩ := h
  · cases e
  · injection e with e1 e2 e3
    injection e1 with e1
    subst e1 e3
    have tl : (L.drop i).length = n - i := by rw [List.length_drop]; omega
    refine ⟨entsC_len _, .inr ⟨_, c - i, by rw [tl], by omega, by omega, fun j u hj => ?_⟩⟩
    rw [← entsC_drop, List.getElem?_drop] at hj
    split
    · have : L.length = i := by omega
      have h2 : (entsC L).length ≤ i * 4 + j := by rw [entsC_len]; omega
      rw [List.getElem?_eq_none h2] at hj
      cases hj
    · rw [add_add]
      exact hx _ u hj
theorem SlE.drop' {W : World} {a : Addr} {n c : Nat} {L : List E} (h : SlE W (.slice (some a) n c) L) (i : Nat) (hi : i ≤ n) : SlE W (.slice (if c = i then some a else some (a.add (i * 4))) (n - i) (c - i)) (L.drop i) := by
  have := h.drop i hi
  rw [show (if c = i then some a else some (a.add (i * 4))) = some (if c = i then a else a.add (i * 4)) by split <;> rfl]
  exact this
theorem SlE.one {W : World} {B : Nat} {e : E} {TT : TypeId} (h : Row W B [.int .i64 e.space, .int .u64 e.page, .int .u64 e.first, .int .u64 e.last] TT) : SlE W (.slice (some ⟨B, 0, none⟩) 1 1) [e] := by
  refine ⟨rfl, .inr ⟨⟨B, 0, none⟩, 1, rfl, Nat.le_refl _, by unfold maxLen; omega, fun j u hj => ?_⟩⟩
  have := h.cell j
  rw [show (entsC [e])[j]? = ([.int .i64 e.space, .int .u64 e.page, .int .u64 e.first, .int .u64 e.last] : List Value)[j]? from rfl] at hj
  rw [show (⟨B, 0, none⟩ : Addr).add j = ⟨B, j, none⟩ by unfold Addr.add; split <;> simp_all]
  rw [this, hj]
set_option maxRecDepth 100000 in
set_option maxHeartbeats 6400000 in
theorem with_any (v : Value) (L : List E) (e : E) (w : World) (h : SlE w v L) (hr : Rise L) (hn : L.length ≤ 500) :
    Calls Try.prog 14 #[.agg #[v], ev e] w fun x w' => ∃ v2, x = .returned (.agg #[v2]) ∧ SlE w' v2 (insE L e) ∧ Below w.heap.size w w' := by
  obtain ⟨p, n, c, rfl⟩ := SlAt.form h
  have PL := Lib.hid (fun (U : World) (k : Below w.heap.size w U) => place_any _ L e U (h.below k) hr (by omega))
  have HS := Lib.hid (fun (U : World) (k : Below w.heap.size w U) => (h.below k : SlE U (.slice p n c) L))
  have HN := Lib.hid h.len
  have CN := Lib.hid (show n ≤ c from h.cap)
  have CM := Lib.hid (show c ≤ maxLen from h.capM)
  obtain ⟨P, hP⟩ : ∃ P, P = posE L e := ⟨_, rfl⟩
  obtain ⟨b, hb⟩ : ∃ b, b = decide (L[P]? = some e) := ⟨_, rfl⟩
  rw [← hP] at PL
  rw [← hb] at PL
  obtain ⟨I, hI⟩ : ∃ I, I = insE L e := ⟨_, rfl⟩
  rw [← hI]
  have IS := Lib.hid (fun (k : b = true) => show I = L by rw [hI]; exact insE_same L e (by rw [← hP]; rw [hb] at k; exact of_decide_eq_true k))
  have IN := Lib.hid (fun (k : b = false) => show I = L.take P ++ [e] ++ L.drop P by rw [hI]; unfold insE; rw [if_neg (by rw [← hP]; rw [hb] at k; exact of_decide_eq_false k), ← hP])
  have LN := Lib.hid hn
  have IL := Lib.hid (show I.length ≤ 1000 by rw [hI]; have := insE_len L e; omega)
  have PN := Lib.hid (show P ≤ n by rw [hP, h.len]; exact posE_le L e)
  obtain ⟨e0, e1, e2, e3⟩ := e
  unfold ev at PL ⊢
  simp only at PL ⊢
  clear h hr hP hb hI hn
  go_enter Try.func14, Try.ntmps14
  go_upto_region 1 with fail
  refine to_cls ?_
  intro U0 hU0 y0
  have r_b : ∀ z : Wb U0, Row z.at (w.heap.size) [.slice p n c] 29 := Row.next (((Row.new _ [.slice p n c] _).old _).old _) hU0
  have r_e : ∀ z : Wb U0, Row z.at (w.heap.size + 1) [.int .i64 e0, .int .u64 e1, .int .u64 e2, .int .u64 e3] 25 := Row.next ((Row.new' _ [.int .i64 e0, .int .u64 e1, .int .u64 e2, .int .u64 e3] _ _ (by simp)).old _) hU0
  have r_r : ∀ z : Wb U0, Row z.at (w.heap.size + 1 + 1) [.slice none 0 0] 29 := Row.next (Row.new' _ [.slice none 0 0] _ _ (by simp)) hU0
  have KK := Lib.hid (KB.next (KB.alloc (KB.alloc (KB.alloc (Below.refl _ _) _) _) _) hU0)
  clear hU0
  have c_b_0 : ∀ z : Wb U0, z.at.cell? ⟨w.heap.size, 0, none⟩ = some (.slice p n c) := fun z => (r_b z).cell 0
  have c_e_0 : ∀ z : Wb U0, z.at.cell? ⟨w.heap.size + 1, 0, none⟩ = some (.int .i64 e0) := fun z => (r_e z).cell 0
  have c_e_1 : ∀ z : Wb U0, z.at.cell? ⟨w.heap.size + 1, 1, none⟩ = some (.int .u64 e1) := fun z => (r_e z).cell 1
  have c_e_2 : ∀ z : Wb U0, z.at.cell? ⟨w.heap.size + 1, 2, none⟩ = some (.int .u64 e2) := fun z => (r_e z).cell 2
  have c_e_3 : ∀ z : Wb U0, z.at.cell? ⟨w.heap.size + 1, 3, none⟩ = some (.int .u64 e3) := fun z => (r_e z).cell 3
  have c_r_0 : ∀ z : Wb U0, z.at.cell? ⟨w.heap.size + 1 + 1, 0, none⟩ = some (.slice none 0 0) := fun z => (r_r z).cell 0
  go_wp2_with fail
  refine (PL.out _ (KK.out y0)).mono ?_
  rintro e w1 ⟨rfl, g⟩
  obtain ⟨y1, rfl⟩ := Wb.next (x := y0) g
  clear g
  cases b
  · go_upto_region 4 with fail
    refine to_pt ?_
    intro U2 hU2
    clear c_b_0 c_e_0 c_e_1 c_e_2 c_e_3 c_r_0
    have r_b : ∀ z : Wb U2, Row z.at (w.heap.size) [.slice p n c] 29 := Row.next (r_b y1) hU2
    have r_e : ∀ z : Wb U2, Row z.at (w.heap.size + 1) [.int .i64 e0, .int .u64 e1, .int .u64 e2, .int .u64 e3] 25 := Row.next (r_e y1) hU2
    have r_r : ∀ z : Wb U2, Row z.at (w.heap.size + 1 + 1) [.slice none 0 0] 29 := Row.next (r_r y1) hU2
    have KK := Lib.hid (KB.next (KK.out y1) hU2)
    clear hU2
    have c_b_0 : ∀ z : Wb U2, z.at.cell? ⟨w.heap.size, 0, none⟩ = some (.slice p n c) := fun z => (r_b z).cell 0
    have c_e_0 : ∀ z : Wb U2, z.at.cell? ⟨w.heap.size + 1, 0, none⟩ = some (.int .i64 e0) := fun z => (r_e z).cell 0
    have c_e_1 : ∀ z : Wb U2, z.at.cell? ⟨w.heap.size + 1, 1, none⟩ = some (.int .u64 e1) := fun z => (r_e z).cell 1
    have c_e_2 : ∀ z : Wb U2, z.at.cell? ⟨w.heap.size + 1, 2, none⟩ = some (.int .u64 e2) := fun z => (r_e z).cell 2
    have c_e_3 : ∀ z : Wb U2, z.at.cell? ⟨w.heap.size + 1, 3, none⟩ = some (.int .u64 e3) := fun z => (r_e z).cell 3
    have c_r_0 : ∀ z : Wb U2, z.at.cell? ⟨w.heap.size + 1 + 1, 0, none⟩ = some (.slice none 0 0) := fun z => (r_r z).cell 0
    have SS := Lib.hid (fun z : Wb U2 => (show z.at.cell? ⟨w.heap.size, 0, none⟩ = some (.slice p n c) ∧ z.at.cell? ⟨w.heap.size + 1, 0, none⟩ = some (.int .i64 e0) ∧ z.at.cell? ⟨w.heap.size + 1, 1, none⟩ = some (.int .u64 e1) ∧ z.at.cell? ⟨w.heap.size + 1, 2, none⟩ = some (.int .u64 e2) ∧ z.at.cell? ⟨w.heap.size + 1, 3, none⟩ = some (.int .u64 e3) from ⟨c_b_0 z, c_e_0 z, c_e_1 z, c_e_2 z, c_e_3 z⟩))
    clear c_b_0 c_e_0 c_e_1 c_e_2 c_e_3 c_r_0
    have D0 := Lib.hid (show Below U2.heap.size U2 U2.drew from (Below.refl _ _).drew)
    have S0 := Lib.hid (SS.out ⟨_, D0.out⟩)
    cases p with
    | none =>
      have l0 := (HS.out _ (Below.refl _ _)).nil
      obtain ⟨rfl, rfl, rfl⟩ := l0
      obtain rfl : P = 0 := by have := PN.out; omega
      have D1 := Lib.hid (show Below U2.heap.size U2 (U2.alloc (.cells #[.int .i64 e0, .int .u64 e1, .int .u64 e2, .int .u64 e3] 25)).drew from (KB.alloc (Below.refl _ _) _).drew)
      have D2 := Lib.hid (show Below U2.heap.size U2 ((U2.alloc (.cells #[.int .i64 e0, .int .u64 e1, .int .u64 e2, .int .u64 e3] 25)).alloc (.cells #[.slice none 0 0, .slice (some ⟨U2.heap.size, 0, none⟩) 1 1, .slice none 0 0] 27)).drew from (KB.alloc (KB.alloc (Below.refl _ _) _) _).drew)
      have CC := Lib.hid (show Calls Try.prog 28 #[.slice (some ⟨U2.heap.size + 1, 0, none⟩) 3 3] (((U2.alloc (.cells #[.int .i64 e0, .int .u64 e1, .int .u64 e2, .int .u64 e3] 25)).alloc (.cells #[.slice none 0 0, .slice (some ⟨U2.heap.size, 0, none⟩) 1 1, .slice none 0 0] 27)).drew) (fun e w' => ∃ v, e = .returned v ∧ w'.ownsRow (((U2.alloc (.cells #[.int .i64 e0, .int .u64 e1, .int .u64 e2, .int .u64 e3] 25)).alloc (.cells #[.slice none 0 0, .slice (some ⟨U2.heap.size, 0, none⟩) 1 1, .slice none 0 0] 27)).drew).heap.size 25 4 v I.length (entsC I) ∧ Below (((U2.alloc (.cells #[.int .i64 e0, .int .u64 e1, .int .u64 e2, .int .u64 e3] 25)).alloc (.cells #[.slice none 0 0, .slice (some ⟨U2.heap.size, 0, none⟩) 1 1, .slice none 0 0] 27)).drew).heap.size (((U2.alloc (.cells #[.int .i64 e0, .int .u64 e1, .int .u64 e2, .int .u64 e3] 25)).alloc (.cells #[.slice none 0 0, .slice (some ⟨U2.heap.size, 0, none⟩) 1 1, .slice none 0 0] 27)).drew) w') from by
      have FE : flatT [(.slice none 0 0, []), (.slice (some ⟨U2.heap.size, 0, none⟩) 1 1, [(⟨e0, e1, e2, e3⟩ : E)]), (.slice none 0 0, [])] 3 = I := by rw [IN.out (by first | rfl | trivial)]; simp [flatT]
      have := concat_any [(.slice none 0 0, []), (.slice (some ⟨U2.heap.size, 0, none⟩) 1 1, [(⟨e0, e1, e2, e3⟩ : E)]), (.slice none 0 0, [])] (U2.heap.size + 1) 27 (((U2.alloc (.cells #[.int .i64 e0, .int .u64 e1, .int .u64 e2, .int .u64 e3] 25)).alloc (.cells #[.slice none 0 0, .slice (some ⟨U2.heap.size, 0, none⟩) 1 1, .slice none 0 0] 27)).drew) (Row.drew (Row.new' _ [.slice none 0 0, .slice (some ⟨U2.heap.size, 0, none⟩) 1 1, .slice none 0 0] _ _ (by simp))) (by
        intro x hx
        simp only [List.mem_cons, List.not_mem_nil, or_false] at hx
        rcases hx with rfl | rfl | rfl
        · exact SlAt.nil _ _
        · exact SlE.one (Row.drew (Row.old (Row.new _ [.int .i64 e0, .int .u64 e1, .int .u64 e2, .int .u64 e3] _) _))
        · exact SlAt.nil _ _) (by
        show (flatT _ 3).length ≤ 1000
        rw [FE]
        exact IL.out) (by show 3 ≤ 10; omega)
      simp only [List.length_cons, List.length_nil, Nat.zero_add, Nat.reduceAdd] at this
      rw [FE] at this
      exact this)
      go_region_held3 (fun w' => w'.cell? ⟨w.heap.size, 0, none⟩ = some (.slice none 0 0) ∧ w'.cell? ⟨w.heap.size + 1, 0, none⟩ = some (.int .i64 e0) ∧ w'.cell? ⟨w.heap.size + 1, 1, none⟩ = some (.int .u64 e1) ∧ w'.cell? ⟨w.heap.size + 1, 2, none⟩ = some (.int .u64 e2) ∧ w'.cell? ⟨w.heap.size + 1, 3, none⟩ = some (.int .u64 e3))
      (first | exact S0.out | exact SS.out ⟨_, D1.out⟩ | exact SS.out ⟨_, D2.out⟩ | exact SS.out ⟨_, X5.out⟩ | exact F5.out)
      (first | (go_at_call 28; (with_reducible refine CC.out.mono ?_); rintro e w5 ⟨v5, rfl, o5, g5⟩; obtain ⟨p5, n5, c5, rfl⟩ := SlAt.form (SlAt.own o5); have X5 := Lib.hid (show Below U2.heap.size U2 w5 from D2.out.trans (g5.mono D2.out.size)); have O5 := Lib.hid (own_base o5 D2.out.size); have F5 := Lib.hid (show (w5.setCell ⟨w.heap.size + 1 + 1, 0, none⟩ (.slice p5 n5 c5)).cell? ⟨w.heap.size, 0, none⟩ = some (.slice none 0 0) ∧ (w5.setCell ⟨w.heap.size + 1 + 1, 0, none⟩ (.slice p5 n5 c5)).cell? ⟨w.heap.size + 1, 0, none⟩ = some (.int .i64 e0) ∧ (w5.setCell ⟨w.heap.size + 1 + 1, 0, none⟩ (.slice p5 n5 c5)).cell? ⟨w.heap.size + 1, 1, none⟩ = some (.int .u64 e1) ∧ (w5.setCell ⟨w.heap.size + 1 + 1, 0, none⟩ (.slice p5 n5 c5)).cell? ⟨w.heap.size + 1, 2, none⟩ = some (.int .u64 e2) ∧ (w5.setCell ⟨w.heap.size + 1 + 1, 0, none⟩ (.slice p5 n5 c5)).cell? ⟨w.heap.size + 1, 3, none⟩ = some (.int .u64 e3) from ⟨((r_b ⟨w5, X5.out⟩).oth (C := w.heap.size + 1 + 1) (by omega) 0 _).cell 0, ((r_e ⟨w5, X5.out⟩).oth (C := w.heap.size + 1 + 1) (by omega) 0 _).cell 0, ((r_e ⟨w5, X5.out⟩).oth (C := w.heap.size + 1 + 1) (by omega) 0 _).cell 1, ((r_e ⟨w5, X5.out⟩).oth (C := w.heap.size + 1 + 1) (by omega) 0 _).cell 2, ((r_e ⟨w5, X5.out⟩).oth (C := w.heap.size + 1 + 1) (by omega) 0 _).cell 3⟩); have cr : w5.cell? ⟨w.heap.size + 1 + 1, 0, none⟩ = some (.slice none 0 0) := (r_r ⟨w5, X5.out⟩).cell 0; have fr : w5.frozen? ⟨w.heap.size + 1 + 1, 0, none⟩ = false := (r_r ⟨w5, X5.out⟩).free 0; clear o5 g5))
      go_wp2
      refine bodyPost_ret (v := .agg #[.slice p5 n5 c5]) (by simp [results, Try.results14, go_sem, *]) rfl ⟨_, rfl, SlAt.own (own_set (C := w.heap.size + 1 + 1) O5.out (r_r ⟨U2, Below.refl _ _⟩).lt 0 _), KB.put (KK.out ⟨w5, X5.out⟩) (by omega) 0 _⟩
    | some a =>
      have pn := PN.out
      have pc : P ≤ c := Nat.le_trans PN.out CN.out
      have p0 : (0 : Int) ≤ (P : Int) := by omega
      have p1 : (P : Int) ≤ (c : Int) := by omega
      have p2 : (P : Int) ≤ (n : Int) := by omega
      by_cases hcp : c = P
      · subst hcp
        obtain rfl : n = c := by have := CN.out; omega
        have D1 := Lib.hid (show Below U2.heap.size U2 (U2.alloc (.cells #[.int .i64 e0, .int .u64 e1, .int .u64 e2, .int .u64 e3] 25)).drew from (KB.alloc (Below.refl _ _) _).drew)
        have D2 := Lib.hid (show Below U2.heap.size U2 ((U2.alloc (.cells #[.int .i64 e0, .int .u64 e1, .int .u64 e2, .int .u64 e3] 25)).alloc (.cells #[.slice (some a) n n, .slice (some ⟨U2.heap.size, 0, none⟩) 1 1, .slice (some a) 0 0] 27)).drew from (KB.alloc (KB.alloc (Below.refl _ _) _) _).drew)
        have CC := Lib.hid (show Calls Try.prog 28 #[.slice (some ⟨U2.heap.size + 1, 0, none⟩) 3 3] (((U2.alloc (.cells #[.int .i64 e0, .int .u64 e1, .int .u64 e2, .int .u64 e3] 25)).alloc (.cells #[.slice (some a) n n, .slice (some ⟨U2.heap.size, 0, none⟩) 1 1, .slice (some a) 0 0] 27)).drew) (fun e w' => ∃ v, e = .returned v ∧ w'.ownsRow (((U2.alloc (.cells #[.int .i64 e0, .int .u64 e1, .int .u64 e2, .int .u64 e3] 25)).alloc (.cells #[.slice (some a) n n, .slice (some ⟨U2.heap.size, 0, none⟩) 1 1, .slice (some a) 0 0] 27)).drew).heap.size 25 4 v I.length (entsC I) ∧ Below (((U2.alloc (.cells #[.int .i64 e0, .int .u64 e1, .int .u64 e2, .int .u64 e3] 25)).alloc (.cells #[.slice (some a) n n, .slice (some ⟨U2.heap.size, 0, none⟩) 1 1, .slice (some a) 0 0] 27)).drew).heap.size (((U2.alloc (.cells #[.int .i64 e0, .int .u64 e1, .int .u64 e2, .int .u64 e3] 25)).alloc (.cells #[.slice (some a) n n, .slice (some ⟨U2.heap.size, 0, none⟩) 1 1, .slice (some a) 0 0] 27)).drew) w') from by
        have FE : flatT [(.slice (some a) n n, L.take n), (.slice (some ⟨U2.heap.size, 0, none⟩) 1 1, [(⟨e0, e1, e2, e3⟩ : E)]), (.slice (some a) 0 0, L.drop n)] 3 = I := by rw [IN.out (by first | rfl | trivial)]; simp [flatT]
        have := concat_any [(.slice (some a) n n, L.take n), (.slice (some ⟨U2.heap.size, 0, none⟩) 1 1, [(⟨e0, e1, e2, e3⟩ : E)]), (.slice (some a) 0 0, L.drop n)] (U2.heap.size + 1) 27 (((U2.alloc (.cells #[.int .i64 e0, .int .u64 e1, .int .u64 e2, .int .u64 e3] 25)).alloc (.cells #[.slice (some a) n n, .slice (some ⟨U2.heap.size, 0, none⟩) 1 1, .slice (some a) 0 0] 27)).drew) (Row.drew (Row.new' _ [.slice (some a) n n, .slice (some ⟨U2.heap.size, 0, none⟩) 1 1, .slice (some a) 0 0] _ _ (by simp))) (by
          intro x hx
          simp only [List.mem_cons, List.not_mem_nil, or_false] at hx
          rcases hx with rfl | rfl | rfl
          · exact (HS.out _ (KK.out ⟨_, D2.out⟩)).take n (Nat.le_refl _)
          · exact SlE.one (Row.drew (Row.old (Row.new _ [.int .i64 e0, .int .u64 e1, .int .u64 e2, .int .u64 e3] _) _))
          · have := (HS.out _ (KK.out ⟨_, D2.out⟩)).drop' n (Nat.le_refl _); rw [if_pos rfl, Nat.sub_self] at this; exact this) (by
          show (flatT _ 3).length ≤ 1000
          rw [FE]
          exact IL.out) (by show 3 ≤ 10; omega)
        simp only [List.length_cons, List.length_nil, Nat.zero_add, Nat.reduceAdd] at this
        rw [FE] at this
        exact this)
        go_region_held3 (fun w' => w'.cell? ⟨w.heap.size, 0, none⟩ = some (.slice (some a) n n) ∧ w'.cell? ⟨w.heap.size + 1, 0, none⟩ = some (.int .i64 e0) ∧ w'.cell? ⟨w.heap.size + 1, 1, none⟩ = some (.int .u64 e1) ∧ w'.cell? ⟨w.heap.size + 1, 2, none⟩ = some (.int .u64 e2) ∧ w'.cell? ⟨w.heap.size + 1, 3, none⟩ = some (.int .u64 e3))
        (first | exact S0.out | exact SS.out ⟨_, D1.out⟩ | exact SS.out ⟨_, D2.out⟩ | exact SS.out ⟨_, X5.out⟩ | exact F5.out)
        (first | (go_at_call 28; (with_reducible refine CC.out.mono ?_); rintro e w5 ⟨v5, rfl, o5, g5⟩; obtain ⟨p5, n5, c5, rfl⟩ := SlAt.form (SlAt.own o5); have X5 := Lib.hid (show Below U2.heap.size U2 w5 from D2.out.trans (g5.mono D2.out.size)); have O5 := Lib.hid (own_base o5 D2.out.size); have F5 := Lib.hid (show (w5.setCell ⟨w.heap.size + 1 + 1, 0, none⟩ (.slice p5 n5 c5)).cell? ⟨w.heap.size, 0, none⟩ = some (.slice (some a) n n) ∧ (w5.setCell ⟨w.heap.size + 1 + 1, 0, none⟩ (.slice p5 n5 c5)).cell? ⟨w.heap.size + 1, 0, none⟩ = some (.int .i64 e0) ∧ (w5.setCell ⟨w.heap.size + 1 + 1, 0, none⟩ (.slice p5 n5 c5)).cell? ⟨w.heap.size + 1, 1, none⟩ = some (.int .u64 e1) ∧ (w5.setCell ⟨w.heap.size + 1 + 1, 0, none⟩ (.slice p5 n5 c5)).cell? ⟨w.heap.size + 1, 2, none⟩ = some (.int .u64 e2) ∧ (w5.setCell ⟨w.heap.size + 1 + 1, 0, none⟩ (.slice p5 n5 c5)).cell? ⟨w.heap.size + 1, 3, none⟩ = some (.int .u64 e3) from ⟨((r_b ⟨w5, X5.out⟩).oth (C := w.heap.size + 1 + 1) (by omega) 0 _).cell 0, ((r_e ⟨w5, X5.out⟩).oth (C := w.heap.size + 1 + 1) (by omega) 0 _).cell 0, ((r_e ⟨w5, X5.out⟩).oth (C := w.heap.size + 1 + 1) (by omega) 0 _).cell 1, ((r_e ⟨w5, X5.out⟩).oth (C := w.heap.size + 1 + 1) (by omega) 0 _).cell 2, ((r_e ⟨w5, X5.out⟩).oth (C := w.heap.size + 1 + 1) (by omega) 0 _).cell 3⟩); have cr : w5.cell? ⟨w.heap.size + 1 + 1, 0, none⟩ = some (.slice none 0 0) := (r_r ⟨w5, X5.out⟩).cell 0; have fr : w5.frozen? ⟨w.heap.size + 1 + 1, 0, none⟩ = false := (r_r ⟨w5, X5.out⟩).free 0; clear o5 g5))
        go_wp2
        refine bodyPost_ret (v := .agg #[.slice p5 n5 c5]) (by simp [results, Try.results14, go_sem, *]) rfl ⟨_, rfl, SlAt.own (own_set (C := w.heap.size + 1 + 1) O5.out (r_r ⟨U2, Below.refl _ _⟩).lt 0 _), KB.put (KK.out ⟨w5, X5.out⟩) (by omega) 0 _⟩
      · have D1 := Lib.hid (show Below U2.heap.size U2 (U2.alloc (.cells #[.int .i64 e0, .int .u64 e1, .int .u64 e2, .int .u64 e3] 25)).drew from (KB.alloc (Below.refl _ _) _).drew)
        have D2 := Lib.hid (show Below U2.heap.size U2 ((U2.alloc (.cells #[.int .i64 e0, .int .u64 e1, .int .u64 e2, .int .u64 e3] 25)).alloc (.cells #[.slice (some a) P c, .slice (some ⟨U2.heap.size, 0, none⟩) 1 1, .slice (some (a.add (P * 4))) (n - P) (c - P)] 27)).drew from (KB.alloc (KB.alloc (Below.refl _ _) _) _).drew)
        have CC := Lib.hid (show Calls Try.prog 28 #[.slice (some ⟨U2.heap.size + 1, 0, none⟩) 3 3] (((U2.alloc (.cells #[.int .i64 e0, .int .u64 e1, .int .u64 e2, .int .u64 e3] 25)).alloc (.cells #[.slice (some a) P c, .slice (some ⟨U2.heap.size, 0, none⟩) 1 1, .slice (some (a.add (P * 4))) (n - P) (c - P)] 27)).drew) (fun e w' => ∃ v, e = .returned v ∧ w'.ownsRow (((U2.alloc (.cells #[.int .i64 e0, .int .u64 e1, .int .u64 e2, .int .u64 e3] 25)).alloc (.cells #[.slice (some a) P c, .slice (some ⟨U2.heap.size, 0, none⟩) 1 1, .slice (some (a.add (P * 4))) (n - P) (c - P)] 27)).drew).heap.size 25 4 v I.length (entsC I) ∧ Below (((U2.alloc (.cells #[.int .i64 e0, .int .u64 e1, .int .u64 e2, .int .u64 e3] 25)).alloc (.cells #[.slice (some a) P c, .slice (some ⟨U2.heap.size, 0, none⟩) 1 1, .slice (some (a.add (P * 4))) (n - P) (c - P)] 27)).drew).heap.size (((U2.alloc (.cells #[.int .i64 e0, .int .u64 e1, .int .u64 e2, .int .u64 e3] 25)).alloc (.cells #[.slice (some a) P c, .slice (some ⟨U2.heap.size, 0, none⟩) 1 1, .slice (some (a.add (P * 4))) (n - P) (c - P)] 27)).drew) w') from by
        have FE : flatT [(.slice (some a) P c, L.take P), (.slice (some ⟨U2.heap.size, 0, none⟩) 1 1, [(⟨e0, e1, e2, e3⟩ : E)]), (.slice (some (a.add (P * 4))) (n - P) (c - P), L.drop P)] 3 = I := by rw [IN.out (by first | rfl | trivial)]; simp [flatT]
        have := concat_any [(.slice (some a) P c, L.take P), (.slice (some ⟨U2.heap.size, 0, none⟩) 1 1, [(⟨e0, e1, e2, e3⟩ : E)]), (.slice (some (a.add (P * 4))) (n - P) (c - P), L.drop P)] (U2.heap.size + 1) 27 (((U2.alloc (.cells #[.int .i64 e0, .int .u64 e1, .int .u64 e2, .int .u64 e3] 25)).alloc (.cells #[.slice (some a) P c, .slice (some ⟨U2.heap.size, 0, none⟩) 1 1, .slice (some (a.add (P * 4))) (n - P) (c - P)] 27)).drew) (Row.drew (Row.new' _ [.slice (some a) P c, .slice (some ⟨U2.heap.size, 0, none⟩) 1 1, .slice (some (a.add (P * 4))) (n - P) (c - P)] _ _ (by simp))) (by
          intro x hx
          simp only [List.mem_cons, List.not_mem_nil, or_false] at hx
          rcases hx with rfl | rfl | rfl
          · exact (HS.out _ (KK.out ⟨_, D2.out⟩)).take P pn
          · exact SlE.one (Row.drew (Row.old (Row.new _ [.int .i64 e0, .int .u64 e1, .int .u64 e2, .int .u64 e3] _) _))
          · have := (HS.out _ (KK.out ⟨_, D2.out⟩)).drop' P pn; rw [if_neg hcp] at this; exact this) (by
          show (flatT _ 3).length ≤ 1000
          rw [FE]
          exact IL.out) (by show 3 ≤ 10; omega)
        simp only [List.length_cons, List.length_nil, Nat.zero_add, Nat.reduceAdd] at this
        rw [FE] at this
        exact this)
        go_region_held3 (fun w' => w'.cell? ⟨w.heap.size, 0, none⟩ = some (.slice (some a) n c) ∧ w'.cell? ⟨w.heap.size + 1, 0, none⟩ = some (.int .i64 e0) ∧ w'.cell? ⟨w.heap.size + 1, 1, none⟩ = some (.int .u64 e1) ∧ w'.cell? ⟨w.heap.size + 1, 2, none⟩ = some (.int .u64 e2) ∧ w'.cell? ⟨w.heap.size + 1, 3, none⟩ = some (.int .u64 e3))
        (first | exact S0.out | exact SS.out ⟨_, D1.out⟩ | exact SS.out ⟨_, D2.out⟩ | exact SS.out ⟨_, X5.out⟩ | exact F5.out)
        (first | (go_at_call 28; (with_reducible refine CC.out.mono ?_); rintro e w5 ⟨v5, rfl, o5, g5⟩; obtain ⟨p5, n5, c5, rfl⟩ := SlAt.form (SlAt.own o5); have X5 := Lib.hid (show Below U2.heap.size U2 w5 from D2.out.trans (g5.mono D2.out.size)); have O5 := Lib.hid (own_base o5 D2.out.size); have F5 := Lib.hid (show (w5.setCell ⟨w.heap.size + 1 + 1, 0, none⟩ (.slice p5 n5 c5)).cell? ⟨w.heap.size, 0, none⟩ = some (.slice (some a) n c) ∧ (w5.setCell ⟨w.heap.size + 1 + 1, 0, none⟩ (.slice p5 n5 c5)).cell? ⟨w.heap.size + 1, 0, none⟩ = some (.int .i64 e0) ∧ (w5.setCell ⟨w.heap.size + 1 + 1, 0, none⟩ (.slice p5 n5 c5)).cell? ⟨w.heap.size + 1, 1, none⟩ = some (.int .u64 e1) ∧ (w5.setCell ⟨w.heap.size + 1 + 1, 0, none⟩ (.slice p5 n5 c5)).cell? ⟨w.heap.size + 1, 2, none⟩ = some (.int .u64 e2) ∧ (w5.setCell ⟨w.heap.size + 1 + 1, 0, none⟩ (.slice p5 n5 c5)).cell? ⟨w.heap.size + 1, 3, none⟩ = some (.int .u64 e3) from ⟨((r_b ⟨w5, X5.out⟩).oth (C := w.heap.size + 1 + 1) (by omega) 0 _).cell 0, ((r_e ⟨w5, X5.out⟩).oth (C := w.heap.size + 1 + 1) (by omega) 0 _).cell 0, ((r_e ⟨w5, X5.out⟩).oth (C := w.heap.size + 1 + 1) (by omega) 0 _).cell 1, ((r_e ⟨w5, X5.out⟩).oth (C := w.heap.size + 1 + 1) (by omega) 0 _).cell 2, ((r_e ⟨w5, X5.out⟩).oth (C := w.heap.size + 1 + 1) (by omega) 0 _).cell 3⟩); have cr : w5.cell? ⟨w.heap.size + 1 + 1, 0, none⟩ = some (.slice none 0 0) := (r_r ⟨w5, X5.out⟩).cell 0; have fr : w5.frozen? ⟨w.heap.size + 1 + 1, 0, none⟩ = false := (r_r ⟨w5, X5.out⟩).free 0; clear o5 g5))
        go_wp2
        refine bodyPost_ret (v := .agg #[.slice p5 n5 c5]) (by simp [results, Try.results14, go_sem, *]) rfl ⟨_, rfl, SlAt.own (own_set (C := w.heap.size + 1 + 1) O5.out (r_r ⟨U2, Below.refl _ _⟩).lt 0 _), KB.put (KK.out ⟨w5, X5.out⟩) (by omega) 0 _⟩
  · have fr : ∀ (z : Wb U0) (i : Nat), z.at.frozen? ⟨w.heap.size + 1 + 1, i, none⟩ = false := fun z i => (r_r z).free i
    go_wp2
    refine bodyPost_ret (v := .agg #[.slice p n c]) (by simp [results, Try.results14, go_sem, *]) rfl ⟨_, rfl, ?_, KB.put (KK.out y1) (by omega) 0 _⟩
    rw [IS.out (by first | rfl | trivial)]
    exact HS.out _ (KB.put (KK.out y1) (by omega) 0 _)

set_option maxRecDepth 100000 in
set_option maxHeartbeats 6400000 in
theorem without_any (v : Value) (L : List E) (e : E) (w : World) (h : SlE w v L) (hr : Rise L) (hn : L.length ≤ 500) :
    Calls Try.prog 15 #[.agg #[v], ev e] w fun x w' => ∃ v2, x = .returned (.agg #[v2]) ∧ SlE w' v2 (delE L e) ∧ Below w.heap.size w w' := by
  obtain ⟨p, n, c, rfl⟩ := SlAt.form h
  have PL := Lib.hid (fun (U : World) (k : Below w.heap.size w U) => place_any _ L e U (h.below k) hr (by omega))
  have HS := Lib.hid (fun (U : World) (k : Below w.heap.size w U) => (h.below k : SlE U (.slice p n c) L))
  have HN := Lib.hid h.len
  have CN := Lib.hid (show n ≤ c from h.cap)
  have CM := Lib.hid (show c ≤ maxLen from h.capM)
  obtain ⟨P, hP⟩ : ∃ P, P = posE L e := ⟨_, rfl⟩
  obtain ⟨b, hb⟩ : ∃ b, b = decide (L[P]? = some e) := ⟨_, rfl⟩
  rw [← hP] at PL
  rw [← hb] at PL
  obtain ⟨I, hI⟩ : ∃ I, I = delE L e := ⟨_, rfl⟩
  rw [← hI]
  have IS := Lib.hid (fun (k : b = false) => show I = L by rw [hI]; unfold delE; rw [if_neg (by rw [← hP]; rw [hb] at k; exact of_decide_eq_false k)])
  have IN := Lib.hid (fun (k : b = true) => show I = L.take P ++ L.drop (P + 1) by rw [hI]; unfold delE; rw [if_pos (by rw [← hP]; rw [hb] at k; exact of_decide_eq_true k), ← hP])
  have IL := Lib.hid (show I.length ≤ 1000 by rw [hI]; have := delE_len L e; omega)
  have PN := Lib.hid (fun (k : b = true) => show P + 1 ≤ n by rw [hb] at k; have := (List.getElem?_eq_some_iff.1 (of_decide_eq_true k)).1; rw [h.len]; omega)
  obtain ⟨e0, e1, e2, e3⟩ := e
  unfold ev at PL ⊢
  simp only at PL ⊢
  clear h hr hP hb hI hn
  go_enter Try.func15, Try.ntmps15
  go_upto_region 1 with fail
  refine to_cls ?_
  intro U0 hU0 y0
  have r_b : ∀ z : Wb U0, Row z.at (w.heap.size) [.slice p n c] 29 := Row.next (((Row.new _ [.slice p n c] _).old _).old _) hU0
  have r_e : ∀ z : Wb U0, Row z.at (w.heap.size + 1) [.int .i64 e0, .int .u64 e1, .int .u64 e2, .int .u64 e3] 25 := Row.next ((Row.new' _ [.int .i64 e0, .int .u64 e1, .int .u64 e2, .int .u64 e3] _ _ (by simp)).old _) hU0
  have r_r : ∀ z : Wb U0, Row z.at (w.heap.size + 1 + 1) [.slice none 0 0] 29 := Row.next (Row.new' _ [.slice none 0 0] _ _ (by simp)) hU0
  have KK := Lib.hid (KB.next (KB.alloc (KB.alloc (KB.alloc (Below.refl _ _) _) _) _) hU0)
  clear hU0
  have c_b_0 : ∀ z : Wb U0, z.at.cell? ⟨w.heap.size, 0, none⟩ = some (.slice p n c) := fun z => (r_b z).cell 0
  have c_e_0 : ∀ z : Wb U0, z.at.cell? ⟨w.heap.size + 1, 0, none⟩ = some (.int .i64 e0) := fun z => (r_e z).cell 0
  have c_e_1 : ∀ z : Wb U0, z.at.cell? ⟨w.heap.size + 1, 1, none⟩ = some (.int .u64 e1) := fun z => (r_e z).cell 1
  have c_e_2 : ∀ z : Wb U0, z.at.cell? ⟨w.heap.size + 1, 2, none⟩ = some (.int .u64 e2) := fun z => (r_e z).cell 2
  have c_e_3 : ∀ z : Wb U0, z.at.cell? ⟨w.heap.size + 1, 3, none⟩ = some (.int .u64 e3) := fun z => (r_e z).cell 3
  have c_r_0 : ∀ z : Wb U0, z.at.cell? ⟨w.heap.size + 1 + 1, 0, none⟩ = some (.slice none 0 0) := fun z => (r_r z).cell 0
  go_wp2_with fail
  refine (PL.out _ (KK.out y0)).mono ?_
  rintro e w1 ⟨rfl, g⟩
  obtain ⟨y1, rfl⟩ := Wb.next (x := y0) g
  clear g
  cases b
  · have fr : ∀ (z : Wb U0) (i : Nat), z.at.frozen? ⟨w.heap.size + 1 + 1, i, none⟩ = false := fun z i => (r_r z).free i
    go_wp2
    refine bodyPost_ret (v := .agg #[.slice p n c]) (by simp [results, Try.results15, go_sem, *]) rfl ⟨_, rfl, ?_, KB.put (KK.out y1) (by omega) 0 _⟩
    rw [IS.out (by first | rfl | trivial)]
    exact HS.out _ (KB.put (KK.out y1) (by omega) 0 _)
  · go_upto_region 4 with fail
    refine to_pt ?_
    intro U2 hU2
    clear c_b_0 c_e_0 c_e_1 c_e_2 c_e_3 c_r_0
    have r_b : ∀ z : Wb U2, Row z.at (w.heap.size) [.slice p n c] 29 := Row.next (r_b y1) hU2
    have r_e : ∀ z : Wb U2, Row z.at (w.heap.size + 1) [.int .i64 e0, .int .u64 e1, .int .u64 e2, .int .u64 e3] 25 := Row.next (r_e y1) hU2
    have r_r : ∀ z : Wb U2, Row z.at (w.heap.size + 1 + 1) [.slice none 0 0] 29 := Row.next (r_r y1) hU2
    have KK := Lib.hid (KB.next (KK.out y1) hU2)
    clear hU2
    have c_b_0 : ∀ z : Wb U2, z.at.cell? ⟨w.heap.size, 0, none⟩ = some (.slice p n c) := fun z => (r_b z).cell 0
    have c_e_0 : ∀ z : Wb U2, z.at.cell? ⟨w.heap.size + 1, 0, none⟩ = some (.int .i64 e0) := fun z => (r_e z).cell 0
    have c_e_1 : ∀ z : Wb U2, z.at.cell? ⟨w.heap.size + 1, 1, none⟩ = some (.int .u64 e1) := fun z => (r_e z).cell 1
    have c_e_2 : ∀ z : Wb U2, z.at.cell? ⟨w.heap.size + 1, 2, none⟩ = some (.int .u64 e2) := fun z => (r_e z).cell 2
    have c_e_3 : ∀ z : Wb U2, z.at.cell? ⟨w.heap.size + 1, 3, none⟩ = some (.int .u64 e3) := fun z => (r_e z).cell 3
    have c_r_0 : ∀ z : Wb U2, z.at.cell? ⟨w.heap.size + 1 + 1, 0, none⟩ = some (.slice none 0 0) := fun z => (r_r z).cell 0
    have SS := Lib.hid (fun z : Wb U2 => (show z.at.cell? ⟨w.heap.size, 0, none⟩ = some (.slice p n c) ∧ z.at.cell? ⟨w.heap.size + 1, 0, none⟩ = some (.int .i64 e0) ∧ z.at.cell? ⟨w.heap.size + 1, 1, none⟩ = some (.int .u64 e1) ∧ z.at.cell? ⟨w.heap.size + 1, 2, none⟩ = some (.int .u64 e2) ∧ z.at.cell? ⟨w.heap.size + 1, 3, none⟩ = some (.int .u64 e3) from ⟨c_b_0 z, c_e_0 z, c_e_1 z, c_e_2 z, c_e_3 z⟩))
    clear c_b_0 c_e_0 c_e_1 c_e_2 c_e_3 c_r_0
    have D0 := Lib.hid (show Below U2.heap.size U2 U2.drew from (Below.refl _ _).drew)
    have S0 := Lib.hid (SS.out ⟨_, D0.out⟩)
    cases p with
    | none =>
      have l0 := (HS.out _ (Below.refl _ _)).nil
      have := PN.out (by first | rfl | trivial)
      omega
    | some a =>
      have pn := PN.out (by first | rfl | trivial)
      obtain ⟨Q, hQ⟩ : ∃ Q, Q = P + 1 := ⟨_, rfl⟩
      have pc : Q ≤ c := by have := CN.out; omega
      have p0 : (0 : Int) ≤ (P : Int) := by omega
      have p1 : (P : Int) ≤ (c : Int) := by omega
      have p2 : (P : Int) ≤ (n : Int) := by omega
      have q0 : (0 : Int) ≤ (Q : Int) := by omega
      have q1 : (Q : Int) ≤ (c : Int) := by omega
      have q2 : (Q : Int) ≤ (n : Int) := by omega
      have c9 : (c : Int) ≤ 9223372036854775807 := by have := CM.out; unfold maxLen at this; omega
      have WQ : IntKind.i64.wrap ((P : Int) + 1) = (Q : Int) := by rw [IntKind.wrap_i64]; omega
      have WR : wrap64 ((P : Int) + 1) = (Q : Int) := by unfold wrap64; omega
      have qn : Q ≤ n := by omega
      have pQ : P ≤ n := by omega
      have IN2 := Lib.hid (show I = L.take P ++ L.drop Q by rw [hQ]; exact IN.out (by first | rfl | trivial))
      clear hQ
      by_cases hcp : c = Q
      · subst hcp
        obtain rfl : n = c := by have := CN.out; omega
        have D2 := Lib.hid (show Below U2.heap.size U2 (U2.alloc (.cells #[.slice (some a) P n, .slice (some a) 0 0] 27)).drew from (KB.alloc (Below.refl _ _) _).drew)
        have CC := Lib.hid (show Calls Try.prog 28 #[.slice (some ⟨U2.heap.size, 0, none⟩) 2 2] ((U2.alloc (.cells #[.slice (some a) P n, .slice (some a) 0 0] 27)).drew) (fun e w' => ∃ v, e = .returned v ∧ w'.ownsRow ((U2.alloc (.cells #[.slice (some a) P n, .slice (some a) 0 0] 27)).drew).heap.size 25 4 v I.length (entsC I) ∧ Below ((U2.alloc (.cells #[.slice (some a) P n, .slice (some a) 0 0] 27)).drew).heap.size ((U2.alloc (.cells #[.slice (some a) P n, .slice (some a) 0 0] 27)).drew) w') from by
        have FE : flatT [(.slice (some a) P n, L.take P), (.slice (some a) 0 0, L.drop n)] 2 = I := by rw [IN2.out]; simp [flatT]
        have := concat_any [(.slice (some a) P n, L.take P), (.slice (some a) 0 0, L.drop n)] (U2.heap.size) 27 ((U2.alloc (.cells #[.slice (some a) P n, .slice (some a) 0 0] 27)).drew) (Row.drew (Row.new' _ [.slice (some a) P n, .slice (some a) 0 0] _ _ (by simp))) (by
          intro x hx
          simp only [List.mem_cons, List.not_mem_nil, or_false] at hx
          rcases hx with rfl | rfl
          · exact (HS.out _ (KK.out ⟨_, D2.out⟩)).take P pQ
          · have := (HS.out _ (KK.out ⟨_, D2.out⟩)).drop' n (Nat.le_refl _); rw [if_pos rfl, Nat.sub_self] at this; exact this) (by
          show (flatT _ 2).length ≤ 1000
          rw [FE]
          exact IL.out) (by show 2 ≤ 10; omega)
        simp only [List.length_cons, List.length_nil, Nat.zero_add, Nat.reduceAdd] at this
        rw [FE] at this
        exact this)
        go_region_held3 (fun w' => w'.cell? ⟨w.heap.size, 0, none⟩ = some (.slice (some a) n n) ∧ w'.cell? ⟨w.heap.size + 1, 0, none⟩ = some (.int .i64 e0) ∧ w'.cell? ⟨w.heap.size + 1, 1, none⟩ = some (.int .u64 e1) ∧ w'.cell? ⟨w.heap.size + 1, 2, none⟩ = some (.int .u64 e2) ∧ w'.cell? ⟨w.heap.size + 1, 3, none⟩ = some (.int .u64 e3))
        (first | exact S0.out | exact SS.out ⟨_, D2.out⟩ | exact SS.out ⟨_, X5.out⟩ | exact F5.out)
        (first | (go_at_call 28; (with_reducible refine CC.out.mono ?_); rintro e w5 ⟨v5, rfl, o5, g5⟩; obtain ⟨p5, n5, c5, rfl⟩ := SlAt.form (SlAt.own o5); have X5 := Lib.hid (show Below U2.heap.size U2 w5 from D2.out.trans (g5.mono D2.out.size)); have O5 := Lib.hid (own_base o5 D2.out.size); have F5 := Lib.hid (show (w5.setCell ⟨w.heap.size + 1 + 1, 0, none⟩ (.slice p5 n5 c5)).cell? ⟨w.heap.size, 0, none⟩ = some (.slice (some a) n n) ∧ (w5.setCell ⟨w.heap.size + 1 + 1, 0, none⟩ (.slice p5 n5 c5)).cell? ⟨w.heap.size + 1, 0, none⟩ = some (.int .i64 e0) ∧ (w5.setCell ⟨w.heap.size + 1 + 1, 0, none⟩ (.slice p5 n5 c5)).cell? ⟨w.heap.size + 1, 1, none⟩ = some (.int .u64 e1) ∧ (w5.setCell ⟨w.heap.size + 1 + 1, 0, none⟩ (.slice p5 n5 c5)).cell? ⟨w.heap.size + 1, 2, none⟩ = some (.int .u64 e2) ∧ (w5.setCell ⟨w.heap.size + 1 + 1, 0, none⟩ (.slice p5 n5 c5)).cell? ⟨w.heap.size + 1, 3, none⟩ = some (.int .u64 e3) from ⟨((r_b ⟨w5, X5.out⟩).oth (C := w.heap.size + 1 + 1) (by omega) 0 _).cell 0, ((r_e ⟨w5, X5.out⟩).oth (C := w.heap.size + 1 + 1) (by omega) 0 _).cell 0, ((r_e ⟨w5, X5.out⟩).oth (C := w.heap.size + 1 + 1) (by omega) 0 _).cell 1, ((r_e ⟨w5, X5.out⟩).oth (C := w.heap.size + 1 + 1) (by omega) 0 _).cell 2, ((r_e ⟨w5, X5.out⟩).oth (C := w.heap.size + 1 + 1) (by omega) 0 _).cell 3⟩); have cr : w5.cell? ⟨w.heap.size + 1 + 1, 0, none⟩ = some (.slice none 0 0) := (r_r ⟨w5, X5.out⟩).cell 0; have fr : w5.frozen? ⟨w.heap.size + 1 + 1, 0, none⟩ = false := (r_r ⟨w5, X5.out⟩).free 0; clear o5 g5))
        go_wp2
        refine bodyPost_ret (v := .agg #[.slice p5 n5 c5]) (by simp [results, Try.results15, go_sem, *]) rfl ⟨_, rfl, SlAt.own (own_set (C := w.heap.size + 1 + 1) O5.out (r_r ⟨U2, Below.refl _ _⟩).lt 0 _), KB.put (KK.out ⟨w5, X5.out⟩) (by omega) 0 _⟩
      · have D2 := Lib.hid (show Below U2.heap.size U2 (U2.alloc (.cells #[.slice (some a) P c, .slice (some (a.add (Q * 4))) (n - Q) (c - Q)] 27)).drew from (KB.alloc (Below.refl _ _) _).drew)
        have CC := Lib.hid (show Calls Try.prog 28 #[.slice (some ⟨U2.heap.size, 0, none⟩) 2 2] ((U2.alloc (.cells #[.slice (some a) P c, .slice (some (a.add (Q * 4))) (n - Q) (c - Q)] 27)).drew) (fun e w' => ∃ v, e = .returned v ∧ w'.ownsRow ((U2.alloc (.cells #[.slice (some a) P c, .slice (some (a.add (Q * 4))) (n - Q) (c - Q)] 27)).drew).heap.size 25 4 v I.length (entsC I) ∧ Below ((U2.alloc (.cells #[.slice (some a) P c, .slice (some (a.add (Q * 4))) (n - Q) (c - Q)] 27)).drew).heap.size ((U2.alloc (.cells #[.slice (some a) P c, .slice (some (a.add (Q * 4))) (n - Q) (c - Q)] 27)).drew) w') from by
        have FE : flatT [(.slice (some a) P c, L.take P), (.slice (some (a.add (Q * 4))) (n - Q) (c - Q), L.drop Q)] 2 = I := by rw [IN2.out]; simp [flatT]
        have := concat_any [(.slice (some a) P c, L.take P), (.slice (some (a.add (Q * 4))) (n - Q) (c - Q), L.drop Q)] (U2.heap.size) 27 ((U2.alloc (.cells #[.slice (some a) P c, .slice (some (a.add (Q * 4))) (n - Q) (c - Q)] 27)).drew) (Row.drew (Row.new' _ [.slice (some a) P c, .slice (some (a.add (Q * 4))) (n - Q) (c - Q)] _ _ (by simp))) (by
          intro x hx
          simp only [List.mem_cons, List.not_mem_nil, or_false] at hx
          rcases hx with rfl | rfl
          · exact (HS.out _ (KK.out ⟨_, D2.out⟩)).take P pQ
          · have := (HS.out _ (KK.out ⟨_, D2.out⟩)).drop' Q qn; rw [if_neg hcp] at this; exact this) (by
          show (flatT _ 2).length ≤ 1000
          rw [FE]
          exact IL.out) (by show 2 ≤ 10; omega)
        simp only [List.length_cons, List.length_nil, Nat.zero_add, Nat.reduceAdd] at this
        rw [FE] at this
        exact this)
        go_region_held3 (fun w' => w'.cell? ⟨w.heap.size, 0, none⟩ = some (.slice (some a) n c) ∧ w'.cell? ⟨w.heap.size + 1, 0, none⟩ = some (.int .i64 e0) ∧ w'.cell? ⟨w.heap.size + 1, 1, none⟩ = some (.int .u64 e1) ∧ w'.cell? ⟨w.heap.size + 1, 2, none⟩ = some (.int .u64 e2) ∧ w'.cell? ⟨w.heap.size + 1, 3, none⟩ = some (.int .u64 e3))
        (first | exact S0.out | exact SS.out ⟨_, D2.out⟩ | exact SS.out ⟨_, X5.out⟩ | exact F5.out)
        (first | (go_at_call 28; (with_reducible refine CC.out.mono ?_); rintro e w5 ⟨v5, rfl, o5, g5⟩; obtain ⟨p5, n5, c5, rfl⟩ := SlAt.form (SlAt.own o5); have X5 := Lib.hid (show Below U2.heap.size U2 w5 from D2.out.trans (g5.mono D2.out.size)); have O5 := Lib.hid (own_base o5 D2.out.size); have F5 := Lib.hid (show (w5.setCell ⟨w.heap.size + 1 + 1, 0, none⟩ (.slice p5 n5 c5)).cell? ⟨w.heap.size, 0, none⟩ = some (.slice (some a) n c) ∧ (w5.setCell ⟨w.heap.size + 1 + 1, 0, none⟩ (.slice p5 n5 c5)).cell? ⟨w.heap.size + 1, 0, none⟩ = some (.int .i64 e0) ∧ (w5.setCell ⟨w.heap.size + 1 + 1, 0, none⟩ (.slice p5 n5 c5)).cell? ⟨w.heap.size + 1, 1, none⟩ = some (.int .u64 e1) ∧ (w5.setCell ⟨w.heap.size + 1 + 1, 0, none⟩ (.slice p5 n5 c5)).cell? ⟨w.heap.size + 1, 2, none⟩ = some (.int .u64 e2) ∧ (w5.setCell ⟨w.heap.size + 1 + 1, 0, none⟩ (.slice p5 n5 c5)).cell? ⟨w.heap.size + 1, 3, none⟩ = some (.int .u64 e3) from ⟨((r_b ⟨w5, X5.out⟩).oth (C := w.heap.size + 1 + 1) (by omega) 0 _).cell 0, ((r_e ⟨w5, X5.out⟩).oth (C := w.heap.size + 1 + 1) (by omega) 0 _).cell 0, ((r_e ⟨w5, X5.out⟩).oth (C := w.heap.size + 1 + 1) (by omega) 0 _).cell 1, ((r_e ⟨w5, X5.out⟩).oth (C := w.heap.size + 1 + 1) (by omega) 0 _).cell 2, ((r_e ⟨w5, X5.out⟩).oth (C := w.heap.size + 1 + 1) (by omega) 0 _).cell 3⟩); have cr : w5.cell? ⟨w.heap.size + 1 + 1, 0, none⟩ = some (.slice none 0 0) := (r_r ⟨w5, X5.out⟩).cell 0; have fr : w5.frozen? ⟨w.heap.size + 1 + 1, 0, none⟩ = false := (r_r ⟨w5, X5.out⟩).free 0; clear o5 g5))
        go_wp2
        refine bodyPost_ret (v := .agg #[.slice p5 n5 c5]) (by simp [results, Try.results15, go_sem, *]) rfl ⟨_, rfl, SlAt.own (own_set (C := w.heap.size + 1 + 1) O5.out (r_r ⟨U2, Below.refl _ _⟩).lt 0 _), KB.put (KK.out ⟨w5, X5.out⟩) (by omega) 0 _⟩
end Go.Proofs.Yteiokenijmaloaa
