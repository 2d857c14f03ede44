/-
  Layer 1: Total; the law RelTotal.
-/
import Derived.Test.YtjgfnemdklljmaaAt
set_option linter.unusedSimpArgs false
set_option linter.unusedVariables false
namespace GrR
open Go
def bolC (S : List Bool) : List Value := S.map Value.bool
def sB (S : List Bool) (a : Nat) : Bool := S.getD a false
def markL (S : List Bool) (k : Nat) : List Nat := (List.range k).filter (sB S)
def eiB (n : Nat) (T : Mx) (a b : Nat) : Bool := hasZ n T a b || hasZ n T b a
def rowOK (n : Nat) (T : Mx) (S : List Bool) (a : Nat) : Bool := !sB S a || (markL S a).all fun b => eiB n T a b
def totB (n : Nat) (T : Mx) (S : List Bool) (k : Nat) : Bool := (List.range k).all fun a => rowOK n T S a
def viol (n : Nat) (T : Mx) (S : List Bool) (a b : Nat) : Bool := ((a : Int) != (b : Int)) && sB S a && sB S b && !hasZ n T a b && !hasZ n T b a
def wantK (n : Nat) (T : Mx) (S : List Bool) (k m : Nat) : Bool := ((List.range k).all fun a => (List.range S.length).all fun b => !viol n T S a b) && (List.range m).all fun b => !viol n T S k b
theorem markL_no {S : List Bool} {k : Nat} (h : sB S k = false) : markL S (k + 1) = markL S k := by
  unfold markL
  rw [List.range_succ, List.filter_append]
  simp [h]
theorem markL_yes {S : List Bool} {k : Nat} (h : sB S k = true) : markL S (k + 1) = markL S k ++ [k] := by
  unfold markL
  rw [List.range_succ, List.filter_append]
  simp [h]
theorem markL_le (S : List Bool) (k : Nat) : (markL S k).length ≤ k := by
  have := List.length_filter_le (sB S) (List.range k)
  simpa [markL] using this
theorem totB_succ (n : Nat) (T : Mx) (S : List Bool) (k : Nat) : totB n T S (k + 1) = (totB n T S k && rowOK n T S k) := by
  unfold totB
  rw [List.range_succ, List.all_append]
  simp
theorem totB_no {n : Nat} {T : Mx} {S : List Bool} {k m : Nat} (hk : k < m) (h : rowOK n T S k = false) : totB n T S m = false := by
  cases c : totB n T S m
  · rfl
  · unfold totB at c
    rw [List.all_eq_true] at c
    have := c k (List.mem_range.2 hk)
    rw [h] at this
    cases this
theorem wantK_succ (n : Nat) (T : Mx) (S : List Bool) (k m : Nat) : wantK n T S k (m + 1) = (wantK n T S k m && !viol n T S k m) := by
  unfold wantK
  rw [List.range_succ, List.all_append, Bool.and_assoc]
  simp
theorem wantK_next (n : Nat) (T : Mx) (S : List Bool) (k : Nat) : wantK n T S (k + 1) 0 = wantK n T S k S.length := by
  unfold wantK
  rw [List.range_succ, List.all_append]
  simp
theorem want_tot (n : Nat) (T : Mx) (S : List Bool) : totB n T S S.length = wantK n T S S.length 0 := by
  rw [Bool.eq_iff_iff]
  unfold totB wantK
  simp only [List.all_eq_true, List.mem_range, List.range_zero, List.all_nil, Bool.and_true]
  constructor
  · intro h a ha b hb
    cases v : viol n T S a b
    · rfl
    · exfalso
      simp only [viol, Bool.and_eq_true, Bool.not_eq_true', bne_iff_ne, ne_eq] at v
      obtain ⟨⟨⟨⟨v1, v2⟩, v3⟩, v4⟩, v5⟩ := v
      rcases Nat.lt_or_gt_of_ne (show a ≠ b by omega) with c | c
      · have := h b hb
        simp only [rowOK, v3, Bool.not_true, Bool.false_or, List.all_eq_true] at this
        have := this a (by simp [markL, c, v2])
        simp [eiB, v4, v5] at this
      · have := h a ha
        simp only [rowOK, v2, Bool.not_true, Bool.false_or, List.all_eq_true] at this
        have := this b (by simp [markL, c, v3])
        simp [eiB, v4, v5] at this
  · intro h a ha
    cases s : sB S a
    · simp [rowOK, s]
    · simp only [rowOK, s, Bool.not_true, Bool.false_or, List.all_eq_true]
      intro b hb
      simp only [markL, List.mem_filter, List.mem_range] at hb
      have := h a ha b (by omega)
      cases e : eiB n T a b
      · exfalso
        simp only [eiB, Bool.or_eq_false_iff] at e
        have ne : ((a : Int) != (b : Int)) = true := by simp; omega
        simp [viol, s, hb.2, e.1, e.2, ne] at this
      · rfl
end GrR
namespace Go.Proofs.Ytjgfnemdklljmaa
open Go.RowKit GrR
/-- a slice of marks -/
def SlM (W : World) (v : Value) (S : List Bool) : Prop := SlAt W v 1 S.length (bolC S)
theorem SlM.below {W U : World} {v : Value} {S : List Bool} (h : SlM W v S) (k : Below W.heap.size W U) : SlM U v S := SlAt.below h k
theorem SlM.len {W : World} {a : Option Addr} {n c : Nat} {L : List Bool} (h : SlM W (.slice a n c) L) : n = L.length := by
  obtain ⟨_, ⟨e, h0⟩ | ⟨b, cap, e, _⟩⟩ := h
  · injection e with e1 e2 e3; omega
  · injection e with e1 e2 e3
theorem SlM.addr {W : World} {p : Option Addr} {n c : Nat} {L : List Bool} (h : SlM W (.slice p n c) L) (hn : 0 < n) : ∃ a, p = some a := by
  obtain ⟨_, ⟨e, h0⟩ | ⟨a, cp, e, _⟩⟩ := h
  · injection e with e1 e2 e3
    omega
  · injection e with e1 e2 e3
    exact ⟨a, e1⟩
theorem SlM.most {W : World} {p : Option Addr} {n c : Nat} {P : List Bool} (h : SlM W (.slice p n c) P) : n ≤ 9223372036854775807 := by
  obtain ⟨_, ⟨e, h0⟩ | ⟨a, cp, e, h1, h2, _⟩⟩ := h
  · injection e with e1 e2 e3
    omega
  · injection e with e1 e2 e3
    unfold maxLen at h2
    omega
theorem SlM.at {W : World} {a : Addr} {n c : Nat} {L : List Bool} (h : SlM W (.slice (some a) n c) L) (k : Nat) (hk : k < L.length) : W.cell? (a.add k) = some (.bool (sB L k)) := by
  obtain ⟨_, ⟨e, _⟩ | ⟨b, cap, e, _, _, hx⟩⟩ := h
  · cases e
  · injection e with e1 e2 e3
    injection e1 with e1
    subst e1
    refine hx _ _ ?_
    unfold bolC sB
    rw [List.getElem?_map, List.getD_eq_getElem?_getD, List.getElem?_eq_getElem hk]
    rfl

set_option maxRecDepth 100000 in
set_option maxHeartbeats 6400000 in
theorem total_any (B n : Nat) (T : Mx) (v : Value) (S : List Bool) (w : World) (hR : RelAt w B n T) (h : SlM w v S) (hl : S.length ≤ 60) :
    Calls Try.prog 47 #[.pointer (some ⟨B, 0, none⟩), v] w fun e w' => e = .returned (.bool (totB n T S S.length)) ∧ Below w.heap.size w w' := by
  obtain ⟨i0, hi, hz0, hz1, hz2⟩ := info_parts intInfo
  obtain ⟨p, L, c, rfl⟩ := SlAt.form h
  have E := Lib.hid h.len
  have HR := Lib.hid hR
  have HS := Lib.hid h
  have L9 : L ≤ 60 := by have := h.len; omega
  clear hR h hl
  rw [← E.out]
  go_enter Try.func47, Try.ntmps47
  go_wp2_with fail
  go_loopw [5, 12] (fun v i wr => ∃ k : Nat, k ≤ L ∧ i = .int .i64 (k : Int) ∧ totB n T S k = true ∧ wr.ownsRow w.heap.size 3 1 v (markL S k).length (natC (markL S k)) ∧ Below w.heap.size w wr) (fun _ i _ => L - (intOf i).toNat)
  case atStart => exact ⟨0, by omega, rfl, rfl, World.ownsRow_nil _ _ _ _, Below.refl _ _⟩
  case round =>
    obtain ⟨k, hk, rfl, ht, ho, hb⟩ := hrel
    obtain ⟨mp, mm, mc, rfl⟩ := SlAt.form (SlAt.own ho)
    have EM := Lib.hid (SlN.len (L := markL S k) (SlAt.own ho))
    have TK := Lib.hid ht
    have HO := Lib.hid ho
    have HB := Lib.hid hb
    clear ht ho hb
    by_cases ck : k < L
    · have k1 : (k : Int) < (L : Int) := by omega
      have k0 : (0 : Int) ≤ (k : Int) := by omega
      have k9 : (L : Int) ≤ 60 := by omega
      obtain ⟨a, rfl⟩ := SlM.addr HS.out (by omega)
      have c0 := (HS.out.below HB.out).at k (by have := E.out; omega)
      cases cs : sB S k with
      | false =>
        rw [cs] at c0
        have TS := Lib.hid (show totB n T S (k + 1) = true by rw [totB_succ, TK.out, rowOK, cs]; rfl)
        have MK := Lib.hid (markL_no cs)
        go_wp2_with fail
        clear c0
        go_roundw
        case rel => exact ⟨k + 1, by omega, by go_num, TS.out, by rw [MK.out, ← EM.out]; exact (EM.out ▸ HO.out), HB.out⟩
        case measure => simp [intOf]; omega
      | true =>
        rw [cs] at c0
        have MK := Lib.hid (markL_yes cs)
        have ML := Lib.hid (markL_le S k)
        have m9 : mm ≤ 60 := by have := EM.out; have := ML.out; omega
        go_upto_region 7 with fail
        clear c0
        go_wp2_with fail
        go_loopw [9, 21] (fun _ i wr => ∃ q : Nat, q ≤ mm ∧ i = .int .i64 (q : Int) ∧ (∀ b ∈ (markL S k).take q, eiB n T k b = true) ∧ wr.ownsRow w.heap.size 3 1 (.slice mp mm mc) (markL S k).length (natC (markL S k)) ∧ Below w.heap.size w wr) (fun _ i _ => mm - (intOf i).toNat)
        case atStart => exact ⟨0, by omega, rfl, by simp, HO.out, HB.out⟩
        case round =>
          clear HO HB
          obtain ⟨q, hq, rfl, hall, ho, hb⟩ := hrel
          have AL := Lib.hid hall
          have HO := Lib.hid ho
          have HB := Lib.hid hb
          clear hall ho hb
          by_cases cq : q < mm
          · have q1 : (q : Int) < (mm : Int) := by omega
            have q0 : (0 : Int) ≤ (q : Int) := by omega
            have lq : q < (markL S k).length := by have := EM.out; omega
            obtain ⟨ma, rfl⟩ := SlN.addr (L := markL S k) (SlAt.own HO.out) (by omega)
            have c1 := SlN.at (L := markL S k) (SlAt.own HO.out) q lq
            have TK2 := Lib.hid (show (markL S k).take (q + 1) = (markL S k).take q ++ [(markL S k)[q]] from List.take_succ_eq_append_getElem lq)
            have MB := Lib.hid (List.getElem_mem lq)
            obtain ⟨b, hb⟩ : ∃ b, b = (markL S k)[q] := ⟨_, rfl⟩
            rw [← hb] at c1 TK2 MB
            clear hb lq
            have H1 := Lib.hid (fun (x y : Int) => relhas_any B n T x y wr (HR.out.below HB.out))
            cases h1 : hasZ n T (k : Int) (b : Int) with
            | true =>
              have EI := Lib.hid (show eiB n T k b = true by rw [eiB, h1]; rfl)
              go_wp2_with (go_at_call 20; refine (H1.out _ _).mono ?_; rintro e w1 ⟨rfl, rfl⟩)
              clear c1 h1
              go_roundw
              case rel => exact ⟨q + 1, by omega, by go_num, (fun y hy => by
                rw [TK2.out, List.mem_append, List.mem_singleton] at hy
                rcases hy with hy | rfl
                · exact AL.out y hy
                · exact EI.out), HO.out, HB.out⟩
              case measure => simp [intOf]; omega
            | false =>
              cases h2 : hasZ n T (b : Int) (k : Int) with
              | true =>
                have EI := Lib.hid (show eiB n T k b = true by rw [eiB, h2, Bool.or_true])
                go_wp2_with (go_at_call 20; refine (H1.out _ _).mono ?_; rintro e w1 ⟨rfl, rfl⟩)
                clear c1 h1 h2
                go_roundw
                case rel => exact ⟨q + 1, by omega, by go_num, (fun y hy => by
                  rw [TK2.out, List.mem_append, List.mem_singleton] at hy
                  rcases hy with hy | rfl
                  · exact AL.out y hy
                  · exact EI.out), HO.out, HB.out⟩
                case measure => simp [intOf]; omega
              | false =>
                have NO := Lib.hid (show totB n T S L = false from totB_no ck (by
                  cases r : rowOK n T S k
                  · rfl
                  · simp only [rowOK, cs, Bool.not_true, Bool.false_or, List.all_eq_true] at r
                    have := r b MB.out
                    simp [eiB, h1, h2] at this))
                go_wp2_with (go_at_call 20; refine (H1.out _ _).mono ?_; rintro e w1 ⟨rfl, rfl⟩)
                go_ret
                exact ⟨(by rw [NO.out]; rfl), HB.out⟩
          · obtain rfl : q = mm := by omega
            have TS := Lib.hid (show totB n T S (k + 1) = true by
              rw [totB_succ, TK.out, rowOK, cs]
              simp only [Bool.not_true, Bool.false_or, Bool.true_and, List.all_eq_true]
              intro b hb
              exact AL.out b (by rw [List.take_of_length_le (by have := EM.out; omega)]; exact hb))
            have i2 : ¬ (q : Int) < (q : Int) := by omega
            have q9 : (q : Int) ≤ 60 := by omega
            go_upto_region 12 with fail
            refine to_cls ?_
            intro U hU z
            have O3 := Lib.hid (own_below (own_below HO.out hU) z.bel)
            have B3 := Lib.hid ((HB.out.trans (hU.mono HB.out.size)).trans (z.bel.mono (Nat.le_trans HB.out.size hU.size)))
            clear hU
            rw [← EM.out] at O3
            go_wp2_with (at_builtin; refine wpList_append_own _ rfl (.tmp 38) (.tmp 40) 50 rfl w.heap.size 3 i0 (.int .i64 0) 1 8 Try.underlying50 hi hz0 hz1 hz2 rfl (by decide) _ _ _ rfl (O3.out.alloc _) ⟨z.at.heap.size, 0, none⟩ 1 1 [.int .i64 (k : Int)] rfl rfl (one_new' _ _ _) ?c2 ?c3 ?c4 ?c5 ?_)
            case c2 => first | rfl | exact one_int' _ _
            case c3 => unfold maxLen; omega
            case c4 => omega
            case c5 => have := B3.out.size; simp; omega
            intro v' w3 hown' hgrow _
            have B4 := Lib.hid (show Below w.heap.size w w3 from (B3.out.alloc B3.out.size _).grown hgrow (by have := B3.out.size; simp; omega) (fun j hj => (O3.out.lt j hj).1))
            have LN := Lib.hid (show (markL S (k + 1)).length = q + 1 by rw [MK.out]; simp [EM.out])
            have O4 := Lib.hid (show w3.ownsRow w.heap.size 3 1 v' (markL S (k + 1)).length (natC (markL S (k + 1))) by
              rw [LN.out, MK.out]
              unfold natC at hown' ⊢
              rw [List.map_append]
              exact hown')
            clear hown' hgrow O3 B3
            go_wp2_with fail
            go_roundw
            case rel => exact ⟨k + 1, by omega, by go_num, TS.out, O4.out, B4.out⟩
            case measure => simp [intOf]; omega
    · obtain rfl : k = L := by omega
      have i2 : ¬ (k : Int) < (k : Int) := by omega
      go_wp2
      go_ret
      exact ⟨(by rw [TK.out]; rfl), HB.out⟩

set_option maxRecDepth 100000 in
set_option maxHeartbeats 6400000 in
theorem RelTotal_walk (n : Int) (v v2 : Value) (P : List Pr) (S : List Bool) (w : World) (h : SlP w v P) (h2 : SlM w v2 S) :
    Calls Try.prog 11 #[.int .i64 n, v, v2] w fun e w' => e = .returned (.bool true) ∧ Below w.heap.size w w' := by
  obtain ⟨p, ln, c, rfl⟩ := SlAt.form h2
  have E := Lib.hid h2.len
  have S0 := Lib.hid h
  clear h
  have AW := Lib.hid (fun w => awake_any w)
  have M_0 := Lib.hid (h2)
  clear h2
  go_enter Try.func11, Try.ntmps11
  go_wp2_with fail
  refine (AW.out _).mono ?_
  rintro e w1 ⟨rfl, hb⟩
  have M_1 := Lib.hid (M_0.out.below hb)
  have BW_1 := Lib.hid (hb)
  clear M_0
  clear hb
  go_wp2_with fail
  refine (bothZ n _ P _ (S0.out.below BW_1.out)).mono ?_
  rintro e w2 ⟨pr, rfl, hb, hp⟩
  have M_2 := Lib.hid (M_1.out.below hb)
  have BW_2 := Lib.hid (BW_1.out.trans (hb.mono BW_1.out.size))
  clear M_1 BW_1
  clear hb
  rcases hp with rfl | ⟨m1, B1, O1, e1, l1, rfl, hr, ht, lo1, hi1⟩
  · go_wp2; go_ret; exact ⟨rfl, BW_2.out⟩
  have R_2 := Lib.hid (hr)
  have T_2 := Lib.hid (ht)
  subst e1
  clear hr ht
  by_cases c6 : 60 < ln
  · have c7 : decide ((ln : Int) > 60) = true := by simp; omega
    go_wp2; go_ret; exact ⟨rfl, BW_2.out⟩
  have c7 : decide ((ln : Int) > 60) = false := by simp; omega
  have L9 : (ln : Int) ≤ 60 := by omega
  have RH := Lib.hid (fun (x y : Int) => rhas_any O1 m1 (ofM P) x y w2 (by omega) T_2.out)
  have WT := Lib.hid (want_tot m1 (ofM P) S)
  go_wp2_with fail
  clear c6 c7
  go_loop [9, 10] (fun v i => ∃ k : Nat, k ≤ ln ∧ i = .int .i64 (k : Int) ∧ v = .bool (wantK m1 (ofM P) S k 0)) (fun _ i => ln - (intOf i).toNat)
  case atStart => exact ⟨0, by omega, rfl, rfl⟩
  case round =>
    obtain ⟨k, hk, rfl, rfl⟩ := hrel
    by_cases ck : k < ln
    · have k1 : (k : Int) < (ln : Int) := by omega
      have k0 : (0 : Int) ≤ (k : Int) := by omega
      obtain ⟨a, rfl⟩ := SlM.addr M_2.out (by omega)
      have WN := Lib.hid (wantK_next m1 (ofM P) S k)
      go_wp2_with fail
      go_loop [9, 11] (fun v i => ∃ m : Nat, m ≤ ln ∧ i = .int .i64 (m : Int) ∧ v = .bool (wantK m1 (ofM P) S k m)) (fun _ i => ln - (intOf i).toNat)
      case atStart => exact ⟨0, by omega, rfl, rfl⟩
      case round =>
        obtain ⟨m, hm, rfl, rfl⟩ := hrel
        by_cases cm : m < ln
        · have m1' : (m : Int) < (ln : Int) := by omega
          have m0 : (0 : Int) ≤ (m : Int) := by omega
          have c0 := M_2.out.at k (by have := E.out; omega)
          have c1 := M_2.out.at m (by have := E.out; omega)
          have WS := Lib.hid (wantK_succ m1 (ofM P) S k m)
          have VV := Lib.hid (show viol m1 (ofM P) S k m = (((k : Int) != (m : Int)) && sB S k && sB S m && !hasZ m1 (ofM P) k m && !hasZ m1 (ofM P) m k) from rfl)
          obtain ⟨wk, hwk⟩ : ∃ b, b = wantK m1 (ofM P) S k m := ⟨_, rfl⟩
          rw [← hwk] at WS ⊢
          clear hwk
          cases d0 : ((k : Int) != (m : Int)) with
          | false =>
            rw [d0] at VV
            go_wp2_with fail
            clear c0 c1 d0
            go_round
            case rel => exact ⟨m + 1, by omega, by go_num, by rw [WS.out, VV.out]; simp⟩
            case measure => simp [intOf]; omega
          | true =>
            cases d1 : sB S k with
            | false =>
              rw [d0, d1] at VV
              rw [d1] at c0
              go_wp2_with fail
              clear c0 c1 d0 d1
              go_round
              case rel => exact ⟨m + 1, by omega, by go_num, by rw [WS.out, VV.out]; simp⟩
              case measure => simp [intOf]; omega
            | true =>
              cases d2 : sB S m with
              | false =>
                rw [d0, d1, d2] at VV
                rw [d1] at c0
                rw [d2] at c1
                go_wp2_with fail
                clear c0 c1 d0 d1 d2
                go_round
                case rel => exact ⟨m + 1, by omega, by go_num, by rw [WS.out, VV.out]; simp⟩
                case measure => simp [intOf]; omega
              | true =>
                rw [d0, d1, d2] at VV
                rw [d1] at c0
                rw [d2] at c1
                cases h1 : hasZ m1 (ofM P) (k : Int) (m : Int) with
                | true =>
                  rw [h1] at VV
                  go_wp2_with (go_at_call 24; refine (RH.out _ _).mono ?_; rintro e w1 ⟨rfl, rfl⟩)
                  clear c0 c1 d0 d1 d2 h1
                  go_round
                  case rel => exact ⟨m + 1, by omega, by go_num, by rw [WS.out, VV.out]; simp⟩
                  case measure => simp [intOf]; omega
                | false =>
                  cases h2 : hasZ m1 (ofM P) (m : Int) (k : Int) with
                  | true =>
                    rw [h1, h2] at VV
                    go_wp2_with (go_at_call 24; refine (RH.out _ _).mono ?_; rintro e w1 ⟨rfl, rfl⟩)
                    clear c0 c1 d0 d1 d2 h1 h2
                    go_round
                    case rel => exact ⟨m + 1, by omega, by go_num, by rw [WS.out, VV.out]; simp⟩
                    case measure => simp [intOf]; omega
                  | false =>
                    rw [h1, h2] at VV
                    go_wp2_with (go_at_call 24; refine (RH.out _ _).mono ?_; rintro e w1 ⟨rfl, rfl⟩)
                    clear c0 c1 d0 d1 d2 h1 h2
                    go_round
                    case rel => exact ⟨m + 1, by omega, by go_num, by rw [WS.out, VV.out]; simp⟩
                    case measure => simp [intOf]; omega
        · obtain rfl : m = ln := by omega
          have i2 : ¬ (m : Int) < (m : Int) := by omega
          go_wp2_with fail
          go_round
          case rel => exact ⟨k + 1, by omega, by go_num, by rw [WN.out, E.out]⟩
          case measure => simp [intOf]; omega
    · obtain rfl : k = ln := by omega
      have i2 : ¬ (k : Int) < (k : Int) := by omega
      have TT := Lib.hid (total_any B1 m1 (ofM P) _ S _ R_2.out M_2.out (by have := E.out; omega))
      rw [WT.out, ← E.out] at TT
      obtain ⟨q, hq⟩ : ∃ q, q = wantK m1 (ofM P) S k 0 := ⟨_, rfl⟩
      rw [← hq] at TT ⊢
      clear hq
      have qq : (q == q) = true := by simp
      go_wp2_with fail
      refine TT.out.mono ?_
      rintro e w9 ⟨rfl, hb⟩
      have B9 := Lib.hid (BW_2.out.trans (hb.mono BW_2.out.size))
      clear hb
      go_wp2
      go_ret
      first | exact ⟨rfl, B9.out⟩ | exact ⟨(by simp), B9.out⟩
end Go.Proofs.Ytjgfnemdklljmaa
