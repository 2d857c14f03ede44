/-
  Layer 9, the walks: played: a buffer, and the document's list.
-/
import Derived.Test.YteiokenijmaloaaUj
import Derived.Deep.RegionLaw
set_option linter.unusedSimpArgs false
set_option linter.unusedVariables false
namespace GrT
structure OpT where
  kd : Int
  e : E
  fk : Int
  fp : Int
  fs : Int
abbrev OpTs := List OpT
def opsT (L : OpTs) : List Go.Value := L.flatMap fun q => [.int .i64 q.kd, .int .i64 q.e.space, .int .u64 q.e.page, .int .u64 q.e.first, .int .u64 q.e.last, .int .i64 q.fk, .int .u64 q.fp, .int .i64 q.fs]
theorem opsT_len (L : OpTs) : (opsT L).length = L.length * 8 := by
  induction L with
  | nil => rfl
  | cons p L ih => show (_ :: _ :: _ :: _ :: _ :: _ :: _ :: _ :: opsT L).length = _; simp [ih]; omega
theorem opsT_get (L : OpTs) (k : Nat) (h : k < L.length) : (opsT L)[k * 8]? = some (.int .i64 L[k].kd) ∧ (opsT L)[k * 8 + 1]? = some (.int .i64 L[k].e.space) ∧ (opsT L)[k * 8 + 2]? = some (.int .u64 L[k].e.page) ∧ (opsT L)[k * 8 + 3]? = some (.int .u64 L[k].e.first) ∧ (opsT L)[k * 8 + 4]? = some (.int .u64 L[k].e.last) ∧ (opsT L)[k * 8 + 5]? = some (.int .i64 L[k].fk) ∧ (opsT L)[k * 8 + 6]? = some (.int .u64 L[k].fp) ∧ (opsT L)[k * 8 + 7]? = some (.int .i64 L[k].fs) := by
  induction L generalizing k with
  | nil => simp at h
  | cons q L ih =>
    have e : opsT (q :: L) = .int .i64 q.kd :: .int .i64 q.e.space :: .int .u64 q.e.page :: .int .u64 q.e.first :: .int .u64 q.e.last :: .int .i64 q.fk :: .int .u64 q.fp :: .int .i64 q.fs :: opsT L := rfl
    rw [e]
    cases k with
    | zero => simp
    | succ k =>
      have := ih k (by simp at h; omega)
      rw [show (k + 1) * 8 = k * 8 + 8 by omega]
      simpa using this
def BdT (L : OpTs) : Prop := ∀ q ∈ L, EB q.e ∧ 0 ≤ q.fp ∧ q.fp < 18446744073709551616
end GrT
namespace Go.Proofs.Yteiokenijmaloaa
open Go.RowKit GrT

theorem entsC_int (L : List E) : ∀ u ∈ entsC L, ∃ k i, u = .int k i := fun u hu => by
  obtain ⟨e, _, he⟩ := List.mem_flatMap.1 hu
  simp only [List.mem_cons, List.not_mem_nil, or_false] at he
  rcases he with rfl | rfl | rfl | rfl <;> exact ⟨_, _, rfl⟩
theorem avoid_slice {W : World} {B : Nat} {p : Option Addr} {n c : Nat} {TT : TypeId} (hB : Row W B [.slice p n c] TT) {x : Addr} {k : IntKind} {i : Int} (h : W.cell? x = some (.int k i)) : x.block ≠ B := by
  intro e
  unfold World.cell? at h
  rw [e, show W.heap[B]? = _ from hB] at h
  simp only at h
  split at h
  · cases h
  · match ho : x.off, h with
    | 0, h => simp at h
    | o + 1, h => simp at h
theorem SlE.setR {W : World} {v : Value} {L : List E} (h : SlE W v L) {B : Nat} {p : Option Addr} {n c : Nat} {TT : TypeId} (hB : Row W B [.slice p n c] TT) (u : Value) : SlE (W.setCell ⟨B, 0, none⟩ u) v L := by
  obtain ⟨h1, h2 | ⟨a, cap, e, hc, hm, hx⟩⟩ := h
  · exact ⟨h1, .inl h2⟩
  · refine ⟨h1, .inr ⟨a, cap, e, hc, hm, fun j u' hj => ?_⟩⟩
    have hj' := hx j u' hj
    obtain ⟨k, i, rfl⟩ := entsC_int L u' (List.mem_of_getElem? hj)
    rw [World.cell?_of_block (w := W) (heap_setCell_other W ⟨B, 0, none⟩ (a.add j).block u (avoid_slice hB hj'))]
    exact hj'
def SlT (W : World) (v : Value) (L : OpTs) : Prop := SlAt W v 8 L.length (opsT L)
theorem SlT.below {W U : World} {v : Value} {L : OpTs} (h : SlT W v L) (k : Below W.heap.size W U) : SlT U v L := SlAt.below h k
theorem off_addT (b : Addr) (i : Nat) (hi : i ≠ 0) : (⟨b.block, b.off + i, none⟩ : Addr) = b.add i := by unfold Addr.add; rw [if_neg hi]
theorem SlT.at {W : World} {a : Addr} {n c : Nat} {L : OpTs} (h : SlT W (.slice (some a) n c) L) (k : Nat) (hk : k < L.length) : W.cell? (a.add (k * 8)) = some (.int .i64 L[k].kd) ∧ W.cell? (⟨(a.add (k * 8)).block, (a.add (k * 8)).off + 1, none⟩) = some (.int .i64 L[k].e.space) ∧ W.cell? (⟨(a.add (k * 8)).block, (a.add (k * 8)).off + 2, none⟩) = some (.int .u64 L[k].e.page) ∧ W.cell? (⟨(a.add (k * 8)).block, (a.add (k * 8)).off + 3, none⟩) = some (.int .u64 L[k].e.first) ∧ W.cell? (⟨(a.add (k * 8)).block, (a.add (k * 8)).off + 4, none⟩) = some (.int .u64 L[k].e.last) ∧ W.cell? (⟨(a.add (k * 8)).block, (a.add (k * 8)).off + 5, none⟩) = some (.int .i64 L[k].fk) ∧ W.cell? (⟨(a.add (k * 8)).block, (a.add (k * 8)).off + 6, none⟩) = some (.int .u64 L[k].fp) ∧ W.cell? (⟨(a.add (k * 8)).block, (a.add (k * 8)).off + 7, none⟩) = some (.int .i64 L[k].fs) := by
  obtain ⟨_, ⟨e, _⟩ | ⟨b, cap, e, _, _, hx⟩⟩ := h
  · cases e
  · injection e with e1 e2 e3
    injection e1 with e1
    subst e1
    obtain ⟨g0, g1, g2, g3, g4, g5, g6, g7⟩ := opsT_get L k hk
    exact ⟨hx _ _ g0, by rw [off_addT _ _ (by decide), add_add]; exact hx _ _ g1, by rw [off_addT _ _ (by decide), add_add]; exact hx _ _ g2, by rw [off_addT _ _ (by decide), add_add]; exact hx _ _ g3, by rw [off_addT _ _ (by decide), add_add]; exact hx _ _ g4, by rw [off_addT _ _ (by decide), add_add]; exact hx _ _ g5, by rw [off_addT _ _ (by decide), add_add]; exact hx _ _ g6, by rw [off_addT _ _ (by decide), add_add]; exact hx _ _ g7⟩
theorem SlT.len {W : World} {a : Option Addr} {n c : Nat} {L : OpTs} (h : SlT W (.slice a n c) L) : n = L.length := by
  obtain ⟨_, ⟨e, h0⟩ | ⟨b, cap, e, _⟩⟩ := h
  · injection e with e1 e2 e3; omega
  · injection e with e1 e2 e3
theorem SlT.addr {W : World} {p : Option Addr} {n c : Nat} {L : OpTs} (h : SlT W (.slice p n c) L) (hn : 0 < n) : ∃ a, p = some a := by
  obtain ⟨_, ⟨e, h0⟩ | ⟨a, cp, e, _⟩⟩ := h
  · injection e with e1 e2 e3
    omega
  · injection e with e1 e2 e3
    exact ⟨a, e1⟩

theorem with_ev (v : Value) (L : List E) (e0 e1 e2 e3 : Int) (w : World) (h : SlE w v L) (hr : Rise L) (hn : L.length ≤ 500) :
    Calls Try.prog 14 #[.agg #[v], .agg #[.int .i64 e0, .int .u64 e1, .int .u64 e2, .int .u64 e3]] w fun x w' => ∃ v2, x = .returned (.agg #[v2]) ∧ SlE w' v2 (insE L ⟨e0, e1, e2, e3⟩) ∧ Below w.heap.size w w' := with_any v L ⟨e0, e1, e2, e3⟩ w h hr hn
theorem without_ev (v : Value) (L : List E) (e0 e1 e2 e3 : Int) (w : World) (h : SlE w v L) (hr : Rise L) (hn : L.length ≤ 500) :
    Calls Try.prog 15 #[.agg #[v], .agg #[.int .i64 e0, .int .u64 e1, .int .u64 e2, .int .u64 e3]] w fun x w' => ∃ v2, x = .returned (.agg #[v2]) ∧ SlE w' v2 (delE L ⟨e0, e1, e2, e3⟩) ∧ Below w.heap.size w w' := without_any v L ⟨e0, e1, e2, e3⟩ w h hr hn
theorem has_ev (v : Value) (L : List E) (e0 e1 e2 e3 : Int) (w : World) (h : SlE w v L) (hr : Rise L) (hn : L.length ≤ 500) :
    Calls Try.prog 13 #[.agg #[v], .agg #[.int .i64 e0, .int .u64 e1, .int .u64 e2, .int .u64 e3]] w fun x w' => x = .returned (.bool (decide (⟨e0, e1, e2, e3⟩ ∈ L))) ∧ Below w.heap.size w w' := has_any v L ⟨e0, e1, e2, e3⟩ w h hr (by omega)
set_option maxRecDepth 100000 in
set_option maxHeartbeats 12800000 in
theorem tplayed_any (v : Value) (S : OpTs) (w : World) (h : SlT w v S) (hb : BdT S) :
    Calls Try.prog 9 #[v] w fun e w' => ∃ bv lv L, e = .returned (.tuple #[.agg #[bv], lv]) ∧ SlE w' bv L ∧ SlE w' lv L ∧ Rise L ∧ LB L ∧ L.length ≤ 50 ∧ Below w.heap.size w w' := by
  obtain ⟨sp, sn, sc, rfl⟩ := SlAt.form h
  have HN := Lib.hid h.len
  have HS := Lib.hid h
  have HB := Lib.hid hb
  have q0 : 0 ≤ (sn : Int) := by omega
  clear h hb
  go_enter Try.func9, Try.ntmps9
  go_wp2_with fail
  obtain ⟨M, hM⟩ : ∃ M, M = w.heap.size + 1 := ⟨_, rfl⟩
  obtain ⟨R, hR⟩ : ∃ R, R = w.heap.size := ⟨_, rfl⟩
  have RM0 := Lib.hid (show Row ((w.alloc (.cells #[.slice none 0 0] 29)).alloc (.cells #[.slice none 0 0] 29)) M [.slice none 0 0] 29 from Row.new' _ [.slice none 0 0] _ _ (by rw [hM]; simp))
  have RR0 := Lib.hid (show Row ((w.alloc (.cells #[.slice none 0 0] 29)).alloc (.cells #[.slice none 0 0] 29)) R [.slice none 0 0] 29 from (Row.new' _ [.slice none 0 0] _ _ hR.symm).old _)
  have KB0 := Lib.hid (KB.alloc (KB.alloc (Below.refl w.heap.size w) (.cells #[.slice none 0 0] 29)) (.cells #[.slice none 0 0] 29))
  have HM := Lib.hid hM
  have HR := Lib.hid hR
  simp only [← hM]
  simp only [← hR]
  clear hM hR
  go_loopw [5, 6] (fun lv i wr => ∃ (k : Nat) (bp : Option Addr) (bn bc : Nat) (L : List E), k ≤ sn ∧ k ≤ 50 ∧ i = .int .i64 (k : Int) ∧ Row wr M [.slice bp bn bc] 29 ∧ Row wr R [.slice none 0 0] 29 ∧ SlE wr (.slice bp bn bc) L ∧ SlE wr lv L ∧ Rise L ∧ LB L ∧ L.length ≤ k ∧ Below w.heap.size w wr) (fun _ i _ => 50 - (intOf i).toNat)
  case atStart => exact ⟨0, none, 0, 0, [], by omega, by omega, rfl, RM0.out, RR0.out, SlAt.nil _ _, SlAt.nil _ _, List.Pairwise.nil, (fun _ h => by cases h), by simp, KB0.out⟩
  case round =>
    obtain ⟨k, bp, bn, bc, L, hk, hk2, rfl, hm, hr, hbl, hll, hri, hlb, hlen, hbel⟩ := hrel
    have RM := Lib.hid hm
    have RR := Lib.hid hr
    have BL := Lib.hid hbl
    have LL := Lib.hid hll
    have RI := Lib.hid hri
    have LBB := Lib.hid hlb
    have LN := Lib.hid (show L.length ≤ 500 by omega)
    have LN50 := Lib.hid (show L.length ≤ 50 by omega)
    have LK1 := Lib.hid hlen
    have BB := Lib.hid hbel
    clear hm hr hbl hll hri hlb hlen hbel
    have wM := Lib.hid (show w.heap.size ≤ M by rw [HM.out]; omega)
    have MR := Lib.hid (show M ≠ R by rw [HM.out, HR.out]; omega)
    have k0 : (0 : Int) ≤ (k : Int) := by omega
    by_cases ck : k < sn
    · by_cases c6 : k < 50
      · have lk : k < S.length := by have := HN.out; omega
        obtain ⟨a, rfl⟩ := SlT.addr HS.out (by omega)
        have CH := Lib.hid (fun (U : World) (k2 : Below w.heap.size w U) => (HS.out.below k2).at k lk)
        have X1 := Lib.hid (HB.out S[k] (List.getElem_mem lk))
        obtain ⟨⟨kd, ⟨e0, e1, e2, e3⟩, fk, fp, fs⟩, hx⟩ : ∃ p, p = S[k] := ⟨_, rfl⟩
        rw [← hx] at CH X1
        simp only at CH X1
        have EBD := Lib.hid X1.out.1
        have FB := Lib.hid X1.out.2
        clear hx lk X1
        have y0 := (CH.out _ BB.out).1
        have i1 : (k : Int) < (sn : Int) := by omega
        have d1 : decide ((k : Int) < (sn : Int)) = true := by simpa using i1
        have d2 : decide ((k : Int) < 50) = true := by simp; omega
        by_cases kz : kd = 0
        · subst kz
          go_upto_region 8 with fail
          refine to_pt ?_
          intro U hU
          have BU := Lib.hid (BB.out.trans (hU.mono BB.out.size))
          have RM2 := Lib.hid (RM.out.below hU)
          have RR2 := Lib.hid (RR.out.below hU)
          have BL2 := Lib.hid (BL.out.below hU)
          have LL2 := Lib.hid (LL.out.below hU)
          clear hU y0
          have D0 := Lib.hid (show Below U.heap.size U U.drew from (Below.refl _ _).drew)
          have CB0 := Lib.hid (with_ev (.slice bp bn bc) L e0 e1 e2 e3 U.drew (BL2.out.below D0.out) RI.out LN.out)
          have CR0 := Lib.hid (rwith_any u5 L e0 e1 e2 e3 U.drew (LL2.out.below D0.out) LN.out)
          have SF := Lib.hid (fun (V : World) (k2 : Below U.heap.size U V) => (show (V.cell? (⟨(a.add (k * 8)).block, (a.add (k * 8)).off + 1, none⟩) = some (.int .i64 e0) ∧ V.cell? (⟨(a.add (k * 8)).block, (a.add (k * 8)).off + 2, none⟩) = some (.int .u64 e1) ∧ V.cell? (⟨(a.add (k * 8)).block, (a.add (k * 8)).off + 3, none⟩) = some (.int .u64 e2) ∧ V.cell? (⟨(a.add (k * 8)).block, (a.add (k * 8)).off + 4, none⟩) = some (.int .u64 e3)) ∧ V.cell? ⟨M, 0, none⟩ = some (.slice bp bn bc) ∧ V.frozen? ⟨M, 0, none⟩ = false from ⟨⟨(CH.out V (BU.out.trans (k2.mono BU.out.size))).2.1, (CH.out V (BU.out.trans (k2.mono BU.out.size))).2.2.1, (CH.out V (BU.out.trans (k2.mono BU.out.size))).2.2.2.1, (CH.out V (BU.out.trans (k2.mono BU.out.size))).2.2.2.2.1⟩, (RM2.out.below k2).cell 0, (RM2.out.below k2).free 0⟩))
          obtain ⟨⟨c1_0, c2_0, c3_0, c4_0⟩, m0, f0⟩ := SF.out _ D0.out
          go_region_law ((first
              | (go_simp; go_at_call 14; (with_reducible refine CB0.out.mono ?_); rintro e w3 ⟨b3, rfl, HB3, g3⟩; have X3 := Lib.hid (D0.out.trans (g3.mono D0.out.size)); have H3 := Lib.hid HB3; obtain ⟨⟨c1_3, c2_3, c3_3, c4_3⟩, m3, f3⟩ := SF.out _ X3.out; have CR1 := Lib.hid (rwith_any u5 L e0 e1 e2 e3 w3 (LL2.out.below X3.out) LN.out); clear g3 HB3)
              | (go_simp; go_at_call 21; (with_reducible refine CR1.out.mono ?_); rintro e w4 ⟨l4, rfl, HL, g4⟩; obtain ⟨p5, n5, c5, rfl⟩ := SlAt.form H3.out; have X4 := Lib.hid (X3.out.trans (g4.mono X3.out.size)); have HBX := Lib.hid (H3.out.below g4); have HLX := Lib.hid HL; obtain ⟨⟨c1_4, c2_4, c3_4, c4_4⟩, m4, f4⟩ := SF.out _ X4.out; clear g4 HL)
              | (go_simp; go_at_call 21; (with_reducible refine CR0.out.mono ?_); rintro e w3 ⟨l4, rfl, HL, g3⟩; have X3 := Lib.hid (D0.out.trans (g3.mono D0.out.size)); have H3 := Lib.hid HL; obtain ⟨⟨c1_3, c2_3, c3_3, c4_3⟩, m3, f3⟩ := SF.out _ X3.out; have CB1 := Lib.hid (with_ev (.slice bp bn bc) L e0 e1 e2 e3 w3 (BL2.out.below X3.out) RI.out LN.out); clear g3 HL)
              | (go_simp; go_at_call 14; (with_reducible refine CB1.out.mono ?_); rintro e w4 ⟨b3, rfl, HB3, g4⟩; obtain ⟨p5, n5, c5, rfl⟩ := SlAt.form HB3; have X4 := Lib.hid (X3.out.trans (g4.mono X3.out.size)); have HLX := Lib.hid (H3.out.below g4); have HBX := Lib.hid HB3; obtain ⟨⟨c1_4, c2_4, c3_4, c4_4⟩, m4, f4⟩ := SF.out _ X4.out; clear g4 HB3)))
          all_goals
            have RM4 := Lib.hid (show Row (w4.setCell ⟨M, 0, none⟩ (.slice p5 n5 c5)) M [.slice p5 n5 c5] 29 from (RM2.out.below X4.out).set 0 _)
            have RR4 := Lib.hid (show Row (w4.setCell ⟨M, 0, none⟩ (.slice p5 n5 c5)) R [.slice none 0 0] 29 from (RR2.out.below X4.out).oth MR.out.symm 0 _)
            have BL4 := Lib.hid (HBX.out.setR (RM2.out.below X4.out) (.slice p5 n5 c5))
            have LL4 := Lib.hid (HLX.out.setR (RM2.out.below X4.out) (.slice p5 n5 c5))
            have KB4 := Lib.hid (show Below w.heap.size w (w4.setCell ⟨M, 0, none⟩ (.slice p5 n5 c5)) from KB.put (BU.out.trans (X4.out.mono BU.out.size)) wM.out 0 _)
            go_wp2
            go_roundw
            case rel => exact ⟨k + 1, p5, n5, c5, (insE L ⟨e0, e1, e2, e3⟩), by omega, by omega, by go_num, RM4.out, RR4.out, BL4.out, LL4.out, insE_rise RI.out _, LBB.out.ins RI.out EBD.out, (by have := insE_len L ⟨e0, e1, e2, e3⟩; have := LK1.out; omega), KB4.out⟩
            case measure => simp [intOf]; omega
        · have b0 : (kd == 0) = false := by simpa using kz
          by_cases ko : kd = 1
          · subst ko
            go_upto_region 10 with fail
            refine to_pt ?_
            intro U hU
            have BU := Lib.hid (BB.out.trans (hU.mono BB.out.size))
            have RM2 := Lib.hid (RM.out.below hU)
            have RR2 := Lib.hid (RR.out.below hU)
            have BL2 := Lib.hid (BL.out.below hU)
            have LL2 := Lib.hid (LL.out.below hU)
            clear hU y0
            have D0 := Lib.hid (show Below U.heap.size U U.drew from (Below.refl _ _).drew)
            have CB0 := Lib.hid (without_ev (.slice bp bn bc) L e0 e1 e2 e3 U.drew (BL2.out.below D0.out) RI.out LN.out)
            have CR0 := Lib.hid (rwithout_any u5 L e0 e1 e2 e3 U.drew (LL2.out.below D0.out) LN.out)
            have SF := Lib.hid (fun (V : World) (k2 : Below U.heap.size U V) => (show (V.cell? (⟨(a.add (k * 8)).block, (a.add (k * 8)).off + 1, none⟩) = some (.int .i64 e0) ∧ V.cell? (⟨(a.add (k * 8)).block, (a.add (k * 8)).off + 2, none⟩) = some (.int .u64 e1) ∧ V.cell? (⟨(a.add (k * 8)).block, (a.add (k * 8)).off + 3, none⟩) = some (.int .u64 e2) ∧ V.cell? (⟨(a.add (k * 8)).block, (a.add (k * 8)).off + 4, none⟩) = some (.int .u64 e3)) ∧ V.cell? ⟨M, 0, none⟩ = some (.slice bp bn bc) ∧ V.frozen? ⟨M, 0, none⟩ = false from ⟨⟨(CH.out V (BU.out.trans (k2.mono BU.out.size))).2.1, (CH.out V (BU.out.trans (k2.mono BU.out.size))).2.2.1, (CH.out V (BU.out.trans (k2.mono BU.out.size))).2.2.2.1, (CH.out V (BU.out.trans (k2.mono BU.out.size))).2.2.2.2.1⟩, (RM2.out.below k2).cell 0, (RM2.out.below k2).free 0⟩))
            obtain ⟨⟨c1_0, c2_0, c3_0, c4_0⟩, m0, f0⟩ := SF.out _ D0.out
            go_region_law ((first
                | (go_simp; go_at_call 15; (with_reducible refine CB0.out.mono ?_); rintro e w3 ⟨b3, rfl, HB3, g3⟩; have X3 := Lib.hid (D0.out.trans (g3.mono D0.out.size)); have H3 := Lib.hid HB3; obtain ⟨⟨c1_3, c2_3, c3_3, c4_3⟩, m3, f3⟩ := SF.out _ X3.out; have CR1 := Lib.hid (rwithout_any u5 L e0 e1 e2 e3 w3 (LL2.out.below X3.out) LN.out); clear g3 HB3)
                | (go_simp; go_at_call 24; (with_reducible refine CR1.out.mono ?_); rintro e w4 ⟨l4, rfl, HL, g4⟩; obtain ⟨p5, n5, c5, rfl⟩ := SlAt.form H3.out; have X4 := Lib.hid (X3.out.trans (g4.mono X3.out.size)); have HBX := Lib.hid (H3.out.below g4); have HLX := Lib.hid (show SlE _ _ (delE L ⟨e0, e1, e2, e3⟩) by have := SlAt.own HL; rw [← delE_filter RI.out] at this; exact this); obtain ⟨⟨c1_4, c2_4, c3_4, c4_4⟩, m4, f4⟩ := SF.out _ X4.out; clear g4 HL)
                | (go_simp; go_at_call 24; (with_reducible refine CR0.out.mono ?_); rintro e w3 ⟨l4, rfl, HL, g3⟩; have X3 := Lib.hid (D0.out.trans (g3.mono D0.out.size)); have H3 := Lib.hid (show SlE _ _ (delE L ⟨e0, e1, e2, e3⟩) by have := SlAt.own HL; rw [← delE_filter RI.out] at this; exact this); obtain ⟨⟨c1_3, c2_3, c3_3, c4_3⟩, m3, f3⟩ := SF.out _ X3.out; have CB1 := Lib.hid (without_ev (.slice bp bn bc) L e0 e1 e2 e3 w3 (BL2.out.below X3.out) RI.out LN.out); clear g3 HL)
                | (go_simp; go_at_call 15; (with_reducible refine CB1.out.mono ?_); rintro e w4 ⟨b3, rfl, HB3, g4⟩; obtain ⟨p5, n5, c5, rfl⟩ := SlAt.form HB3; have X4 := Lib.hid (X3.out.trans (g4.mono X3.out.size)); have HLX := Lib.hid (H3.out.below g4); have HBX := Lib.hid HB3; obtain ⟨⟨c1_4, c2_4, c3_4, c4_4⟩, m4, f4⟩ := SF.out _ X4.out; clear g4 HB3)))
            all_goals
              have RM4 := Lib.hid (show Row (w4.setCell ⟨M, 0, none⟩ (.slice p5 n5 c5)) M [.slice p5 n5 c5] 29 from (RM2.out.below X4.out).set 0 _)
              have RR4 := Lib.hid (show Row (w4.setCell ⟨M, 0, none⟩ (.slice p5 n5 c5)) R [.slice none 0 0] 29 from (RR2.out.below X4.out).oth MR.out.symm 0 _)
              have BL4 := Lib.hid (HBX.out.setR (RM2.out.below X4.out) (.slice p5 n5 c5))
              have LL4 := Lib.hid (HLX.out.setR (RM2.out.below X4.out) (.slice p5 n5 c5))
              have KB4 := Lib.hid (show Below w.heap.size w (w4.setCell ⟨M, 0, none⟩ (.slice p5 n5 c5)) from KB.put (BU.out.trans (X4.out.mono BU.out.size)) wM.out 0 _)
              go_wp2
              go_roundw
              case rel => exact ⟨k + 1, p5, n5, c5, (delE L ⟨e0, e1, e2, e3⟩), by omega, by omega, by go_num, RM4.out, RR4.out, BL4.out, LL4.out, rise_del RI.out _, (by rw [delE_filter RI.out]; exact LBB.out.filter _), (by have := delE_len L ⟨e0, e1, e2, e3⟩; have := LK1.out; omega), KB4.out⟩
              case measure => simp [intOf]; omega
          · have b1 : (kd == 1) = false := by simpa using ko
            by_cases kt : kd = 2
            · subst kt
              go_upto_region 12 with fail
              refine to_pt ?_
              intro U hU
              have BU := Lib.hid (BB.out.trans (hU.mono BB.out.size))
              have RM2 := Lib.hid (RM.out.below hU)
              have RR2 := Lib.hid (RR.out.below hU)
              have BL2 := Lib.hid (BL.out.below hU)
              have LL2 := Lib.hid (LL.out.below hU)
              clear hU y0
              have D0 := Lib.hid (show Below U.heap.size U U.drew from (Below.refl _ _).drew)
              have CB0 := Lib.hid (drop_any (.slice bp bn bc) L fk fp fs U.drew (BL2.out.below D0.out) LN.out LBB.out FB.out.1 FB.out.2)
              have CR0 := Lib.hid (rdrop_any u5 L fk fp fs U.drew (LL2.out.below D0.out) LN.out LBB.out FB.out.1 FB.out.2)
              have SF := Lib.hid (fun (V : World) (k2 : Below U.heap.size U V) => (show (V.cell? (⟨(a.add (k * 8)).block, (a.add (k * 8)).off + 5, none⟩) = some (.int .i64 fk) ∧ V.cell? (⟨(a.add (k * 8)).block, (a.add (k * 8)).off + 6, none⟩) = some (.int .u64 fp) ∧ V.cell? (⟨(a.add (k * 8)).block, (a.add (k * 8)).off + 7, none⟩) = some (.int .i64 fs)) ∧ V.cell? ⟨M, 0, none⟩ = some (.slice bp bn bc) ∧ V.frozen? ⟨M, 0, none⟩ = false from ⟨⟨(CH.out V (BU.out.trans (k2.mono BU.out.size))).2.2.2.2.2.1, (CH.out V (BU.out.trans (k2.mono BU.out.size))).2.2.2.2.2.2.1, (CH.out V (BU.out.trans (k2.mono BU.out.size))).2.2.2.2.2.2.2⟩, (RM2.out.below k2).cell 0, (RM2.out.below k2).free 0⟩))
              obtain ⟨⟨c5_0, c6_0, c7_0⟩, m0, f0⟩ := SF.out _ D0.out
              go_region_law ((first
                  | (go_simp; go_at_call 16; (with_reducible refine CB0.out.mono ?_); rintro e w3 ⟨b3, rfl, HB3, g3⟩; have X3 := Lib.hid (D0.out.trans (g3.mono D0.out.size)); have H3 := Lib.hid HB3; obtain ⟨⟨c5_3, c6_3, c7_3⟩, m3, f3⟩ := SF.out _ X3.out; have CR1 := Lib.hid (rdrop_any u5 L fk fp fs w3 (LL2.out.below X3.out) LN.out LBB.out FB.out.1 FB.out.2); clear g3 HB3)
                  | (go_simp; go_at_call 25; (with_reducible refine CR1.out.mono ?_); rintro e w4 ⟨l4, rfl, HL, g4⟩; obtain ⟨p5, n5, c5, rfl⟩ := SlAt.form H3.out; have X4 := Lib.hid (X3.out.trans (g4.mono X3.out.size)); have HBX := Lib.hid (H3.out.below g4); have HLX := Lib.hid (show SlE _ _ (L.filter fun x => !takes fk fp fs x) from SlAt.own HL); obtain ⟨⟨c5_4, c6_4, c7_4⟩, m4, f4⟩ := SF.out _ X4.out; clear g4 HL)
                  | (go_simp; go_at_call 25; (with_reducible refine CR0.out.mono ?_); rintro e w3 ⟨l4, rfl, HL, g3⟩; have X3 := Lib.hid (D0.out.trans (g3.mono D0.out.size)); have H3 := Lib.hid (show SlE _ _ (L.filter fun x => !takes fk fp fs x) from SlAt.own HL); obtain ⟨⟨c5_3, c6_3, c7_3⟩, m3, f3⟩ := SF.out _ X3.out; have CB1 := Lib.hid (drop_any (.slice bp bn bc) L fk fp fs w3 (BL2.out.below X3.out) LN.out LBB.out FB.out.1 FB.out.2); clear g3 HL)
                  | (go_simp; go_at_call 16; (with_reducible refine CB1.out.mono ?_); rintro e w4 ⟨b3, rfl, HB3, g4⟩; obtain ⟨p5, n5, c5, rfl⟩ := SlAt.form HB3; have X4 := Lib.hid (X3.out.trans (g4.mono X3.out.size)); have HLX := Lib.hid (H3.out.below g4); have HBX := Lib.hid HB3; obtain ⟨⟨c5_4, c6_4, c7_4⟩, m4, f4⟩ := SF.out _ X4.out; clear g4 HB3)))
              all_goals
                have RM4 := Lib.hid (show Row (w4.setCell ⟨M, 0, none⟩ (.slice p5 n5 c5)) M [.slice p5 n5 c5] 29 from (RM2.out.below X4.out).set 0 _)
                have RR4 := Lib.hid (show Row (w4.setCell ⟨M, 0, none⟩ (.slice p5 n5 c5)) R [.slice none 0 0] 29 from (RR2.out.below X4.out).oth MR.out.symm 0 _)
                have BL4 := Lib.hid (HBX.out.setR (RM2.out.below X4.out) (.slice p5 n5 c5))
                have LL4 := Lib.hid (HLX.out.setR (RM2.out.below X4.out) (.slice p5 n5 c5))
                have KB4 := Lib.hid (show Below w.heap.size w (w4.setCell ⟨M, 0, none⟩ (.slice p5 n5 c5)) from KB.put (BU.out.trans (X4.out.mono BU.out.size)) wM.out 0 _)
                go_wp2
                go_roundw
                case rel => exact ⟨k + 1, p5, n5, c5, (L.filter fun x => !takes fk fp fs x), by omega, by omega, by go_num, RM4.out, RR4.out, BL4.out, LL4.out, rise_filter RI.out _, LBB.out.filter _, (by have := List.length_filter_le (fun x => !takes fk fp fs x) L; have := LK1.out; omega), KB4.out⟩
                case measure => simp [intOf]; omega
            · have b2 : (kd == 2) = false := by simpa using kt
              go_wp2
              go_roundw
              case rel => exact ⟨k + 1, bp, bn, bc, L, by omega, by omega, by go_num, RM.out, RR.out, BL.out, LL.out, RI.out, LBB.out, by have := LK1.out; omega, BB.out⟩
              case measure => simp [intOf]; omega
      · have d1 : decide ((k : Int) < (sn : Int)) = true := by simp; omega
        have d2 : decide ((k : Int) < 50) = false := by simp; omega
        have m0 : wr.cell? ⟨M, 0, none⟩ = some (.slice bp bn bc) := RM.out.cell 0
        have s0 : wr.cell? ⟨R, 0, none⟩ = some (.slice none 0 0) := RR.out.cell 0
        have f0 : wr.frozen? ⟨R, 0, none⟩ = false := RR.out.free 0
        have wR := Lib.hid (show w.heap.size ≤ R by rw [HR.out]; omega)
        go_wp2
        exact bodyPost_ret (v := .tuple #[.agg #[.slice bp bn bc], u5]) (by simp [results, Try.results9, go_sem, *]) rfl ⟨_, u5, L, rfl, BL.out.setR RR.out _, LL.out.setR RR.out _, RI.out, LBB.out, by have := LN50.out; omega, KB.put BB.out wR.out 0 _⟩
    · have d1 : decide ((k : Int) < (sn : Int)) = false := by simp; omega
      have m0 : wr.cell? ⟨M, 0, none⟩ = some (.slice bp bn bc) := RM.out.cell 0
      have s0 : wr.cell? ⟨R, 0, none⟩ = some (.slice none 0 0) := RR.out.cell 0
      have f0 : wr.frozen? ⟨R, 0, none⟩ = false := RR.out.free 0
      have wR := Lib.hid (show w.heap.size ≤ R by rw [HR.out]; omega)
      go_wp2
      exact bodyPost_ret (v := .tuple #[.agg #[.slice bp bn bc], u5]) (by simp [results, Try.results9, go_sem, *]) rfl ⟨_, u5, L, rfl, BL.out.setR RR.out _, LL.out.setR RR.out _, RI.out, LBB.out, by have := LN50.out; omega, KB.put BB.out wR.out 0 _⟩
end Go.Proofs.Yteiokenijmaloaa
