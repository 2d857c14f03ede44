/-
  Layer 10: the law's same, and the law LexTokens, walked.
-/
import Derived.Test.YtagbhhfflgikkaaDoorEq
set_option linter.unusedSimpArgs false
set_option linter.unusedVariables false
namespace GrL
open Go GrP
theorem tokCells_length (a : Int) : ∀ L : List Tok, (tokCells a L).length = L.length * 3
  | [] => rfl
  | x :: L => by
    have := tokCells_length a L
    unfold tokCells at this ⊢
    simp only [List.flatMap_cons, List.length_append, List.length_cons, List.length_nil, this]
    omega
theorem tokCells_get (a : Int) : ∀ (L : List Tok) (k : Nat) (h : k < L.length), (tokCells a L)[k * 3]? = some (.int .i64 (L[k].kind : Int)) ∧ (tokCells a L)[k * 3 + 1]? = some (.string (strL L[k].text)) ∧ (tokCells a L)[k * 3 + 2]? = some (.int .i64 (a + (L[k].pos : Int)))
  | x :: L, 0, _ => ⟨rfl, rfl, rfl⟩
  | x :: L, k + 1, h => by
    have := tokCells_get a L k (by simpa using h)
    have e : tokCells a (x :: L) = [.int .i64 (x.kind : Int), .string (strL x.text), .int .i64 (a + (x.pos : Int))] ++ tokCells a L := rfl
    rw [e, show (k + 1) * 3 = k * 3 + 3 by omega]
    simpa using this
end GrL
namespace Go.Proofs.YtagbhhfflgikkaaDoor
open Go.RowKit GrP GrL Go.Shelf

def SlT (a : Int) (W : World) (v : Value) (L : List GrL.Tok) : Prop := SlAt W v 3 L.length (tokCells a L)
theorem SlT.below {a : Int} {W U : World} {v : Value} {L : List GrL.Tok} (h : SlT a W v L) (k : Below W.heap.size W U) : SlT a U v L := SlAt.below h k
theorem add_rest (a : Addr) (k r : Nat) (h : 0 < r) : (⟨(a.add k).block, (a.add k).off + r, none⟩ : Addr) = a.add (k + r) := by
  rw [← add_add]
  obtain ⟨x, hx⟩ : ∃ x, x = a.add k := ⟨_, rfl⟩
  rw [← hx]
  unfold Addr.add
  rw [if_neg (by omega)]
theorem SlT.at {a : Int} {W : World} {b : Addr} {n c : Nat} {L : List GrL.Tok} (h : SlT a W (.slice (some b) n c) L) (k : Nat) (hk : k < L.length) : W.cell? (b.add (k * 3)) = some (.int .i64 (L[k].kind : Int)) ∧ W.cell? ⟨(b.add (k * 3)).block, (b.add (k * 3)).off + 1, none⟩ = some (.string (strL L[k].text)) ∧ W.cell? ⟨(b.add (k * 3)).block, (b.add (k * 3)).off + 2, none⟩ = some (.int .i64 (a + (L[k].pos : Int))) := by
  obtain ⟨_, ⟨e, _⟩ | ⟨d, cap, e, _, _, hx⟩⟩ := h
  · cases e
  · injection e with e1 e2 e3
    injection e1 with e1
    subst e1
    obtain ⟨g0, g1, g2⟩ := tokCells_get a L k hk
    exact ⟨hx _ _ g0, by rw [add_rest _ _ 1 (by omega)]; exact hx _ _ g1, by rw [add_rest _ _ 2 (by omega)]; exact hx _ _ g2⟩
theorem SlT.len {a : Int} {W : World} {b : Option Addr} {n c : Nat} {L : List GrL.Tok} (h : SlT a W (.slice b n c) L) : n = L.length := by
  obtain ⟨_, ⟨e, h0⟩ | ⟨d, cap, e, _⟩⟩ := h
  · injection e with e1 e2 e3; omega
  · injection e with e1 e2 e3
theorem SlT.addr {a : Int} {W : World} {p : Option Addr} {n c : Nat} {L : List GrL.Tok} (h : SlT a W (.slice p n c) L) (hn : 0 < n) : ∃ b, p = some b := by
  obtain ⟨_, ⟨e, h0⟩ | ⟨b, cp, e, _⟩⟩ := h
  · injection e with e1 e2 e3
    omega
  · injection e with e1 e2 e3
    exact ⟨b, e1⟩
theorem neq_tok (k p : Int) (t : ByteArray) (w : World) : (binOp .neq 47 (.agg #[.int .i64 k, .string t, .int .i64 p]) (.agg #[.int .i64 k, .string t, .int .i64 p])).run Tryd.prog w = .ok (.bool false) w := by
  simp [go_sem]

set_option maxRecDepth 100000 in
set_option maxHeartbeats 3200000 in
theorem same_any (a : Int) (v1 v2 : Value) (L : List GrL.Tok) (w : World) (h1 : SlT a w v1 L) (h2 : SlT a w v2 L) (hn : L.length ≤ 9223372036854775800) :
    Calls Tryd.prog 16 #[v1, v2] w fun e w' => e = .returned (.bool true) ∧ Below w.heap.size w w' := by
  obtain ⟨p1, n1, c1, rfl⟩ := SlAt.form h1
  obtain ⟨p2, n2, c2, rfl⟩ := SlAt.form h2
  have e1 := h1.len
  have e2 := h2.len
  obtain rfl : n1 = n2 := by omega
  have H1 := Lib.hid h1
  have H2 := Lib.hid h2
  have E1 := Lib.hid e1
  have q9 : (n1 : Int) ≤ 9223372036854775800 := by omega
  clear h1 h2 e1 e2 hn
  go_enter Tryd.func16, Tryd.ntmps16
  go_wp2_with fail
  go_loopw [5] (fun i wr => ∃ k : Nat, k ≤ n1 ∧ i = .int .i64 (k : Int) ∧ Below w.heap.size w wr) (fun i _ => n1 - (intOf i).toNat)
  case atStart => exact ⟨0, by omega, rfl, Below.refl _ _⟩
  case round =>
    obtain ⟨k, hk, rfl, hb⟩ := hrel
    have BB := Lib.hid hb
    clear hb
    by_cases ck : k < n1
    · have l1 : k < L.length := by have := E1.out; omega
      obtain ⟨b1, rfl⟩ := SlT.addr H1.out (by omega)
      obtain ⟨b2, rfl⟩ := SlT.addr H2.out (by omega)
      have z1 := Lib.hid (fun y : Wb wr => (H1.out.below (BB.out.trans (y.bel.mono BB.out.size))).at k l1)
      have z2 := Lib.hid (fun y : Wb wr => (H2.out.below (BB.out.trans (y.bel.mono BB.out.size))).at k l1)
      obtain ⟨x0, hx0⟩ : ∃ x : Int, x = ((L[k]'l1).kind : Int) := ⟨_, rfl⟩
      obtain ⟨x1, hx1⟩ : ∃ x, x = strL (L[k]'l1).text := ⟨_, rfl⟩
      obtain ⟨x2, hx2⟩ : ∃ x : Int, x = a + ((L[k]'l1).pos : Int) := ⟨_, rfl⟩
      rw [← hx0, ← hx1, ← hx2] at z1 z2
      have y0 := fun y : Wb wr => (z1.out y).1
      have y1 := fun y : Wb wr => (z1.out y).2.1
      have y2 := fun y : Wb wr => (z1.out y).2.2
      have y3 := fun y : Wb wr => (z2.out y).1
      have y4 := fun y : Wb wr => (z2.out y).2.1
      have y5 := fun y : Wb wr => (z2.out y).2.2
      have NQ := neq_tok x0 x2 x1
      have HI := Lib.hid (show k + 1 ≤ n1 by omega)
      clear z1 z2 hx0 hx1 hx2 l1 hk
      have i0 : (0 : Int) ≤ (k : Int) := by omega
      have i1 : (k : Int) < (n1 : Int) := by omega
      clear ck
      go_wp2_with fail
      refine wp_region_wb (by kernel_rfl) (by kernel_rfl) ?_
      repeat (go_big_quiet_step (fail))
      refine wpQuiet_nil ?_
      rintro _ ⟨y, rfl⟩
      go_wp2
      go_roundw
      case rel => exact ⟨k + 1, HI.out, by go_num, BB.out.trans (y.bel.mono BB.out.size)⟩
      case measure => have := HI.out; simp [intOf]; omega
    · obtain rfl : k = n1 := by omega
      have i2 : ¬ (k : Int) < (k : Int) := by omega
      clear ck hk
      go_wp2
      go_ret
      exact ⟨rfl, BB.out⟩

def tkc (l : Tx) : Nat := ((toks l l.length 0).2.map Prod.fst).getD 0
def tkp (l : Tx) (a : Int) : Int := ((toks l l.length 0).2.map fun q => a + (q.2 : Int)).getD 0
def tkl (l : Tx) : List GrL.Tok := if (toks l l.length 0).2 = none then (toks l l.length 0).1 else []
theorem ltok_any (l : Tx) (a : Int) (w : World) (hl : l.length ≤ 4194304) (ha0 : 0 ≤ a) (ha1 : a ≤ 1152921504606846976) : Calls Tryd.prog 14 #[.agg #[.string (strL l), .int .i64 a]] w fun e w' => ∃ p n c, e = .returned (.tuple #[.slice p n c, .agg #[.int .i64 (tkc l : Int), .int .i64 (tkp l a)]]) ∧ SlT a w' (.slice p n c) (tkl l) ∧ Below w.heap.size w w' := by
  refine (ltokens_any l a w hl ha0 ha1).mono ?_
  rintro e w' ⟨⟨c, p, h, rfl⟩ | ⟨h, v, rfl, ho⟩, d⟩
  · exact ⟨_, _, _, by rw [tkc, tkp, h]; rfl, by rw [tkl, h, if_neg (by simp)]; exact SlAt.nil _ _, d⟩
  · obtain ⟨p, n, c, rfl⟩ := SlAt.form (SlAt.own ho)
    exact ⟨p, n, c, by rw [tkc, tkp, h]; rfl, by rw [tkl, h, if_pos rfl]; exact SlAt.own ho, d⟩
theorem rtok_any (l : Tx) (a : Int) (w : World) (hl : l.length ≤ 4194304) (ha0 : 0 ≤ a) (ha1 : a ≤ 1152921504606846976) : Calls Tryd.prog 15 #[.string (strL l), .int .i64 a] w fun e w' => ∃ p n c, e = .returned (.tuple #[.slice p n c, .int .i64 (tkc l : Int), .int .i64 (tkp l a)]) ∧ SlT a w' (.slice p n c) (tkl l) ∧ Below w.heap.size w w' := by
  refine (rtokens_any l a w hl ha0 ha1).mono ?_
  rintro e w' ⟨⟨c, p, h, rfl⟩ | ⟨h, v, rfl, ho⟩, d⟩
  · exact ⟨_, _, _, by rw [tkc, tkp, h]; rfl, by rw [tkl, h, if_neg (by simp)]; exact SlAt.nil _ _, d⟩
  · obtain ⟨p, n, c, rfl⟩ := SlAt.form (SlAt.own ho)
    exact ⟨p, n, c, by rw [tkc, tkp, h]; rfl, by rw [tkl, h, if_pos rfl]; exact SlAt.own ho, d⟩
theorem tkl_len (l : Tx) : (tkl l).length ≤ l.length + 1 := by
  have key : ∀ k i, i ≤ l.length → (toks l k i).1.length ≤ l.length - i + 1 := by
    intro k
    induction k with
    | zero => intro i _; simp [toks]
    | succ k ih =>
      intro i hi
      by_cases h : i < l.length
      · rw [toks_at k h]
        split
        · have := ih (i + 1) (by omega); omega
        · next hb =>
          split
          · simp
          · next he =>
            have h1 := one_pos (l := l.drop i) (by omega)
            have h2 := one_le (l := l.drop i) (by intro e; have := congrArg List.length e; rw [List.length_drop] at this; simp at this; omega)
            rw [List.length_drop] at h2
            have := ih (i + (one (l.drop i)).2.2) (by omega)
            simp only [List.length_cons]
            omega
      · rw [toks_out h]; simp
  unfold tkl
  split
  · have := key l.length 0 (by omega); omega
  · simp

set_option maxRecDepth 100000 in
set_option maxHeartbeats 3200000 in
theorem lexTokens_walk (l : Tx) (a : Int) (m : Int) (w : World) (hl : l.length ≤ 4194304) (hm : w.cell? ⟨0, 0, none⟩ = some (.int .i64 m)) : Calls Tryd.prog 5 #[.string (strL l), .int .i64 a] w fun e w' => e = .returned (.bool true) ∧ Below w.heap.size w w' := by
  have AW := Lib.hid (awake_any m w hm)
  clear hm
  by_cases a0 : a < 0
  · clear hl
    go_enter Tryd.func5, Tryd.ntmps5
    go_wp2_with (go_at_call 7; refine AW.out.mono ?_; rintro e w1 ⟨rfl, d⟩; obtain ⟨x1, rfl⟩ := Wb.start d; clear d)
    go_ret
    exact ⟨rfl, x1.bel⟩
  · by_cases a1 : 1099511627776 < a
    · clear hl
      go_enter Tryd.func5, Tryd.ntmps5
      go_wp2_with (go_at_call 7; refine AW.out.mono ?_; rintro e w1 ⟨rfl, d⟩; obtain ⟨x1, rfl⟩ := Wb.start d; clear d)
      go_ret
      exact ⟨rfl, x1.bel⟩
    · have LT := Lib.hid (fun w => ltok_any l a w hl (by omega) (by omega))
      have RT := Lib.hid (fun w => rtok_any l a w hl (by omega) (by omega))
      have SA := Lib.hid (fun v1 v2 w h1 h2 => same_any a v1 v2 (tkl l) w h1 h2 (by have := tkl_len l; omega))
      obtain ⟨c, hc⟩ : ∃ c, c = tkc l := ⟨_, rfl⟩
      obtain ⟨q, hq⟩ : ∃ q, q = tkp l a := ⟨_, rfl⟩
      rw [← hc, ← hq] at LT RT
      clear hc hq hl
      go_enter Tryd.func5, Tryd.ntmps5
      go_upto_region 5 with (go_at_call 7; refine AW.out.mono ?_; rintro e w1 ⟨rfl, d⟩; obtain ⟨x1, rfl⟩ := Wb.start d; clear d)
      go_upto_region 6 with (go_at_call 14; refine (LT.out _).mono ?_; rintro e w2 ⟨p1, n1, c1, rfl, s1, d⟩; obtain ⟨x2, rfl⟩ := Wb.next d; clear d)
      refine to_cls ?_
      intro U hU y0
      have r_p := fun z : Wb U => (Row.next (Row.new x2.at [.int .i64 (c : Int), .int .i64 q] 25) hU) z
      have S1 := Lib.hid (s1.below (((Below.refl x2.at.heap.size x2.at).alloc (Nat.le_refl _) _).trans (hU.mono (by simp))))
      have KU := Lib.hid (fun z : Wb U => show Below w.heap.size w z.at from ((x2.bel.alloc x2.size _).trans (hU.mono (by have := x2.size; simp; omega))).trans (z.bel.mono (by have := x2.size; have := hU.size; simp at this; omega)))
      have c_0 := fun z : Wb U => (r_p z).cell 0
      have c_1 := fun z : Wb U => (r_p z).cell 1
      simp only [List.getElem?_cons_zero, List.getElem?_cons_succ] at c_0 c_1
      clear hU r_p s1
      go_wp2_with (first | (go_at_call 15; refine (RT.out _).mono ?_; rintro e w3 ⟨p2, n2, c2, rfl, s2, d⟩; obtain ⟨x3, rfl⟩ := Wb.next d; have S2 := Lib.hid s2; clear d s2) | (go_at_call 16; refine (SA.out _ _ _ (S1.out.below x3.bel) S2.out).mono ?_; rintro e w4 ⟨rfl, d⟩; obtain ⟨x4, rfl⟩ := Wb.next d; clear d))
      go_ret
      exact ⟨rfl, KU.out x4⟩
theorem lexTokens_call (s : ByteArray) (a : Int) (w : World) (h : w.ShapedOpen Tryd.prog) (hs : s.data.toList.length ≤ 4194304) : Calls Tryd.prog 5 #[.string s, .int .i64 a] w fun e w' => e = .returned (.bool true) ∧ Below w.heap.size w w' := by
  obtain ⟨m, hm⟩ := max_of_shape w h
  rw [string_strL s]
  exact lexTokens_walk _ a m w hs hm
end Go.Proofs.YtagbhhfflgikkaaDoor
