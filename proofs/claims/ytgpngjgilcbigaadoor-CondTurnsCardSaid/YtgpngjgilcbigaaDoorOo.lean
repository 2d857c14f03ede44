/-
  Layer 11, the walks: and, or.
-/
import Derived.Test.YtgpngjgilcbigaaDoorOn
set_option linter.unusedSimpArgs false
set_option linter.unusedVariables false
namespace GrC
open GrP GrL
/-- from the i-th token on, c being read, on to the j-th, e being read: so many steps, each a sign and a part -/
inductive Spine (T : List GrL.Tok) (sg : Tx) (kk : Int) (Q : Nat → Nat → Cnd → Prop) : Nat → Nat → Cnd → Nat → Cnd → Prop
  | done (i : Nat) (c : Cnd) : Spine T sg kk Q 0 i c i c
  | step {n i m j : Nat} {c d e : Cnd} : At T i 3 sg → Q (i + 1) m d → Spine T sg kk Q n m (.node kk 0 0 0 0 [c, d]) j e → Spine T sg kk Q (n + 1) i c j e
def Chain (T : List GrL.Tok) (sg : Tx) (kk : Int) (Q : Nat → Nat → Cnd → Prop) (i j : Nat) (e : Cnd) : Prop := ∃ n m c, Q i m c ∧ Spine T sg kk Q n m c j e ∧ j < T.length ∧ ¬ At T j 3 sg
theorem Spine.cnt {T : List GrL.Tok} {sg : Tx} {kk : Int} {Q : Nat → Nat → Cnd → Prop} {n i j : Nat} {c e : Cnd} (h : Spine T sg kk Q n i c j e) : c.cnt ≤ e.cnt := by
  induction h with
  | done i c => exact Nat.le_refl _
  | step _ _ _ ih =>
    refine Nat.le_trans ?_ ih
    simp only [Cnd.cnt, cntL]
    omega
theorem cnt_two (k co r ad va : Int) (c d : Cnd) : (Cnd.node k co r ad va [c, d]).cnt = 1 + c.cnt + d.cnt := by
  simp only [Cnd.cnt, cntL]
  omega
def cellsC (c : Cnd) (p : Option Go.Addr) (n q : Nat) : List Go.Value := [Go.Value.int Go.IntKind.i64 c.k, Go.Value.int Go.IntKind.i64 c.co, Go.Value.int Go.IntKind.i64 c.r, Go.Value.int Go.IntKind.u64 c.ad, Go.Value.int Go.IntKind.u64 c.va, Go.Value.slice p n q]
end GrC
namespace Go.Proofs.YtgpngjgilcbigaaDoor
open Go.RowKit GrP GrL GrC
theorem pair_at {U : World} {N : Nat} {T : TypeId} {c d : Cnd} {p p2 : Option Addr} {n q n2 q2 : Nat} (h : Row U N (cellsC c p n q ++ cellsC d p2 n2 q2) T) (h1 : n = c.args.length) (h2 : LAt U c.args p 0) (h3 : n2 = d.args.length) (h4 : LAt U d.args p2 0) : LAt U [c, d] (some ⟨N, 0, none⟩) 0 := by
  have ad : ∀ r, (⟨N, 0, none⟩ : Addr).add r = ⟨N, r, none⟩ := fun r => by
    unfold Addr.add
    split <;> simp_all
  have hc : ∀ r, r < 6 → (cellsC c p n q ++ cellsC d p2 n2 q2)[r]? = (cellsC c p n q)[r]? := fun r hr => List.getElem?_append_left hr
  refine LAt.mk _ 0 fun j hj => ?_
  match j, hj with
  | 0, _ =>
    refine ⟨cellsC c p n q, fun r u hu => ?_, ?_⟩
    · have hr : r < 6 := (List.getElem?_eq_some_iff.1 hu).1
      rw [ad, h.cell, show (0 + 0) * 6 + r = r by omega, hc r hr]
      exact hu
    · obtain ⟨k, co, r, a, v, ts⟩ := c
      exact (CAt.eq_1 _ _ _ _ _ _ _ _).symm ▸ ⟨p, n, q, rfl, h1, h2⟩
  | 1, _ =>
    refine ⟨cellsC d p2 n2 q2, fun r u hu => ?_, ?_⟩
    · have hr : r < 6 := (List.getElem?_eq_some_iff.1 hu).1
      rw [ad, h.cell, List.getElem?_append_right (by show 6 ≤ _; omega), show (0 + 1) * 6 + r - (cellsC c p n q).length = r by show (0 + 1) * 6 + r - 6 = r; omega]
      exact hu
    · obtain ⟨k, co, r, a, v, ts⟩ := d
      exact (CAt.eq_1 _ _ _ _ _ _ _ _).symm ▸ ⟨p2, n2, q2, rfl, h3, h4⟩
theorem one_at {U : World} {N : Nat} {T : TypeId} {c : Cnd} {p : Option Addr} {n q : Nat} (h : Row U N (cellsC c p n q) T) (h1 : n = c.args.length) (h2 : LAt U c.args p 0) : LAt U [c] (some ⟨N, 0, none⟩) 0 := by
  have ad : ∀ r, (⟨N, 0, none⟩ : Addr).add r = ⟨N, r, none⟩ := fun r => by
    unfold Addr.add
    split <;> simp_all
  refine LAt.mk _ 0 fun j hj => ?_
  match j, hj with
  | 0, _ =>
    refine ⟨cellsC c p n q, fun r u hu => ?_, ?_⟩
    · rw [ad, h.cell, show (0 + 0) * 6 + r = r by omega]
      exact hu
    · obtain ⟨k, co, r, a, v, ts⟩ := c
      exact (CAt.eq_1 _ _ _ _ _ _ _ _).symm ▸ ⟨p, n, q, rfl, h1, h2⟩

/-- conditions in memory, in blocks that are all A's -/
def Tree (A : Nat → Prop) (W : World) (ts : List Cnd) (p : Option Addr) : Prop := ∃ S : Nat → Prop, (∀ b, S b → A b ∧ b < W.heap.size) ∧ ∀ U : World, (∀ b, S b → U.heap[b]? = W.heap[b]?) → LAt U ts p 0
theorem Tree.now {A : Nat → Prop} {W : World} {ts : List Cnd} {p : Option Addr} (h : Tree A W ts p) : LAt W ts p 0 := by
  obtain ⟨S, _, h2⟩ := h
  exact h2 W fun _ _ => rfl
theorem Tree.keep {A : Nat → Prop} {W U : World} {ts : List Cnd} {p : Option Addr} (h : Tree A W ts p) (hs : W.heap.size ≤ U.heap.size) (k : ∀ b, A b → b < W.heap.size → U.heap[b]? = W.heap[b]?) : Tree A U ts p := by
  obtain ⟨S, h1, h2⟩ := h
  exact ⟨S, fun b hb => ⟨(h1 b hb).1, by have := (h1 b hb).2; omega⟩, fun V hV => h2 V fun b hb => (hV b hb).trans (k b (h1 b hb).1 (h1 b hb).2)⟩
theorem Tree.mono {A A' : Nat → Prop} {W : World} {ts : List Cnd} {p : Option Addr} (h : Tree A W ts p) (k : ∀ b, b < W.heap.size → A b → A' b) : Tree A' W ts p := by
  obtain ⟨S, h1, h2⟩ := h
  exact ⟨S, fun b hb => ⟨k b (h1 b hb).2 (h1 b hb).1, (h1 b hb).2⟩, h2⟩
theorem Tree.two {A : Nat → Prop} {P R : Nat} {W U : World} {ts : List Cnd} {p : Option Addr} (h : Tree A W ts p) (k : Two P R W U) (hA : ∀ b, A b → b ≠ P ∧ b ≠ R) : Tree A U ts p :=
  h.keep k.size fun b hb hl => k.block b hl (hA b hb).1 (hA b hb).2
theorem Tree.below {A : Nat → Prop} {W U : World} {ts : List Cnd} {p : Option Addr} (h : Tree A W ts p) (k : Below W.heap.size W U) : Tree A U ts p :=
  h.keep k.size fun b _ hl => k.block b hl
theorem Tree.set {A : Nat → Prop} {W : World} {ts : List Cnd} {p : Option Addr} (h : Tree A W ts p) (B i : Nat) (v : Value) (hA : ∀ b, A b → b ≠ B) : Tree A (W.setCell ⟨B, i, none⟩ v) ts p :=
  h.keep (by simp) fun b hb _ => Below.heap_setCell W ⟨B, i, none⟩ v b (hA b hb)
theorem Tree.nil (A : Nat → Prop) (W : World) (p : Option Addr) : Tree A W [] p := ⟨fun _ => False, fun _ h => h.elim, fun U _ => by rw [LAt]; trivial⟩
theorem Tree.pair {A : Nat → Prop} {W : World} {N : Nat} {T : TypeId} {c d : Cnd} {p p2 : Option Addr} {n q n2 q2 : Nat} (h : Row W N (cellsC c p n q ++ cellsC d p2 n2 q2) T) (hN : A N) (h1 : n = c.args.length) (h2 : Tree A W c.args p) (h3 : n2 = d.args.length) (h4 : Tree A W d.args p2) : Tree A W [c, d] (some ⟨N, 0, none⟩) := by
  obtain ⟨S, s1, s2⟩ := h2
  obtain ⟨S', t1, t2⟩ := h4
  refine ⟨fun b => S b ∨ S' b ∨ b = N, ?_, fun U hU => ?_⟩
  · rintro b (hb | hb | rfl)
    · exact s1 b hb
    · exact t1 b hb
    · exact ⟨hN, h.lt⟩
  · exact pair_at ((hU N (.inr (.inr rfl))).trans h) h1 (s2 U fun b hb => hU b (.inl hb)) h3 (t2 U fun b hb => hU b (.inr (.inl hb)))
theorem Tree.one {A : Nat → Prop} {W : World} {N : Nat} {T : TypeId} {c : Cnd} {p : Option Addr} {n q : Nat} (h : Row W N (cellsC c p n q) T) (hN : A N) (h1 : n = c.args.length) (h2 : Tree A W c.args p) : Tree A W [c] (some ⟨N, 0, none⟩) := by
  obtain ⟨S, s1, s2⟩ := h2
  refine ⟨fun b => S b ∨ b = N, ?_, fun U hU => ?_⟩
  · rintro b (hb | rfl)
    · exact s1 b hb
    · exact ⟨hN, h.lt⟩
  · exact one_at ((hU N (.inr rfl)).trans h) h1 (s2 U fun b hb => hU b (.inl hb))

/-- what a call says that reads a condition -/
def RdPost (w0 : World) (P R : Nat) (tp : Option Addr) (tn tc : Nat) (w : World) (j k : Nat) (c : Cnd) (e : Ending) (w' : World) : Prop :=
  ∃ p n q, e = .returned (.agg #[.int .i64 c.k, .int .i64 c.co, .int .i64 c.r, .int .u64 c.ad, .int .u64 c.va, .slice p n q]) ∧ n = c.args.length ∧ Tree (fun b => w.heap.size ≤ b) w' c.args p ∧ RS w0 P R tp tn tc w' j (k + c.cnt) ∧ Two P R w w'
def Rd (w0 : World) (P R : Nat) (tp : Option Addr) (tn tc : Nat) (f : FuncId) (Q : Nat → Nat → Cnd → Prop) : Prop :=
  ∀ (w : World) (i j k : Nat) (c : Cnd), RS w0 P R tp tn tc w i k → Q i j c → k + c.cnt ≤ 64 → Calls Tryd.prog f #[.pointer (some ⟨P, 0, none⟩)] w (RdPost w0 P R tp tn tc w j k c)

set_option maxRecDepth 100000 in
set_option maxHeartbeats 6400000 in
theorem and_of {w0 : World} {P R : Nat} {tp : Option Addr} {tn tc : Nat} {T : List GrL.Tok} (hT : TkAt w0 tp T) (hn : tn = T.length) {Q : Nat → Nat → Cnd → Prop} (hq : Rd w0 P R tp tn tc 63 Q) : Rd w0 P R tp tn tc 52 (Chain T [47, 92] 4 Q) := by
  intro w i j k e h ⟨g0, m, c, hm, hs, hj, hnot⟩ hk
  have CL := hs.cnt
  have HQ := Lib.hid hq
  have C0 := Lib.hid (fun U H => hq U i m k c H hm (by omega))
  have BN := Lib.hid (fun (U : World) (kk : Nat) (H : RS w0 P R tp tn tc U j kk) => between_no hT hn U j kk H hj ⟨#[47, 92]⟩ (by
    by_cases e1 : (T[j]'hj).kind = 3
    · exact .inr fun e2 => hnot ⟨hj, e1, str_eq.1 (congrArg ByteArray.toList (e2 : strL _ = strL [47, 92]))⟩
    · exact .inl e1))
  have BY := Lib.hid (fun (U : World) (i kk : Nat) (H : RS w0 P R tp tn tc U i kk) (ha : At T i 3 [47, 92]) (hk : kk < 64) => between_yes hT hn U i kk H ha.1 ⟨#[47, 92]⟩ ha.2.1 (by rw [ha.2.2]; rfl) hk)
  have H := Lib.hid h
  have HS := Lib.hid hs
  have HK := Lib.hid hk
  have LT := Lib.hid H.out.lt
  have BS := Lib.hid H.out.base.size
  clear h hs hk hm hj hnot hT hn hq CL
  go_enter Tryd.func52, Tryd.ntmps52
  go_upto_region 1 with fail
  refine to_cls ?_
  intro U1 hU1 y1
  have TR1 := Lib.hid (show Row y1.at w.heap.size [.int .i64 0, .int .i64 0, .int .i64 0, .int .u64 0, .int .u64 0, .slice none 0 0] 25 from ((Row.new w [.int .i64 0, .int .i64 0, .int .i64 0, .int .u64 0, .int .u64 0, .slice none 0 0] _).below hU1).below y1.bel)
  have K1 := Lib.hid ((KB.alloc (Below.refl w.heap.size w) _).trans ((hU1.trans (y1.bel.mono hU1.size)).mono (by simp)))
  have HS1 := Lib.hid (H.out.below K1.out)
  clear hU1
  obtain ⟨pT, hpT⟩ : ∃ b, b = w.heap.size := ⟨_, rfl⟩
  have PT := Lib.hid hpT
  rw [← hpT] at TR1
  simp only [← hpT]
  clear hpT
  go_wp2_with (go_at_call 63; refine (C0.out _ HS1.out).mono ?_; rintro e9 w9 ⟨p0, n0, q0, rfl, hn0, ht0, g1, g2⟩; have N2 := Lib.hid hn0; clear hn0)
  refine to_cls ?_
  intro U2 hU2 y2
  have LC0 := LT.out
  have GS := g2.size
  have YS := TR1.out.lt
  obtain ⟨pC, hpC⟩ : ∃ b, b = w9.heap.size := ⟨_, rfl⟩
  have PC := Lib.hid (show pT < pC ∧ w.heap.size ≤ pC by have := PT.out; omega)
  have B2 := hU2.trans (y2.bel.mono hU2.size)
  have CR2 := Lib.hid (show Row y2.at pC (cellsC c p0 n0 q0) 25 from hpC ▸ ((Row.new w9 (cellsC c p0 n0 q0) _).below hU2).below y2.bel)
  have TR2 := Lib.hid (show Row y2.at pT [.int .i64 0, .int .i64 0, .int .i64 0, .int .u64 0, .int .u64 0, .slice none 0 0] 25 from (((TR1.out.two g2 (by have := PT.out; omega) (by have := PT.out; omega)).old _).below hU2).below y2.bel)
  have HS2 := Lib.hid (show RS w0 P R tp tn tc y2.at m (k + c.cnt) from ((g1.below (KB.alloc (Below.refl _ w9) _)).below hU2).below y2.bel)
  have KS2 := Lib.hid (show Two P R w y2.at from (((Two.of_below K1.out).trans g2).more (KB.alloc (Below.refl _ w9) _)).more B2)
  have TE2 := Lib.hid (show Tree (fun b => w.heap.size ≤ b ∧ b ≠ pT ∧ b ≠ pC) y2.at c.args p0 from ((ht0.mono (A' := fun b => w.heap.size ≤ b ∧ b ≠ pT ∧ b ≠ pC) (fun b hb h => by have := K1.out.size; have := PT.out; refine ⟨?_, ?_, ?_⟩ <;> omega)).below (KB.alloc (Below.refl _ w9) _)).below B2)
  have TP := Lib.hid (show P ≠ pT ∧ R ≠ pT ∧ w0.heap.size ≤ pT by have := PT.out; have := BS.out; omega)
  have CP := Lib.hid (show P ≠ pC ∧ R ≠ pC ∧ w0.heap.size ≤ pC by have := PC.out; have := PT.out; have := BS.out; omega)
  simp only [← hpC]
  clear ht0 g1 g2 hU2 LC0 GS YS B2 hpC HS1 TR1 K1 C0
  go_loopg [] g0 (fun g wr => ∃ (i2 : Nat) (c2 : Cnd) (p2 : Option Addr) (n2 q2 : Nat), Spine T [47, 92] 4 Q g i2 c2 j e ∧ RS w0 P R tp tn tc wr i2 (k + c2.cnt) ∧ Two P R w wr ∧ Row wr pC (cellsC c2 p2 n2 q2) 25 ∧ Row wr pT [.int .i64 0, .int .i64 0, .int .i64 0, .int .u64 0, .int .u64 0, .slice none 0 0] 25 ∧ n2 = c2.args.length ∧ Tree (fun b => w.heap.size ≤ b ∧ b ≠ pT ∧ b ≠ pC) wr c2.args p2)
  case atStart => exact ⟨m, c, p0, n0, q0, HS.out, HS2.out, KS2.out, CR2.out, TR2.out, N2.out, TE2.out⟩
  case round =>
    clear HS HS2 KS2 CR2 TR2 N2 TE2
    obtain ⟨i2, c2, p2, n2, q2, hs, h1, h2, h3, h4, h5, h6⟩ := hrel
    have HR := Lib.hid h1
    have HK2 := Lib.hid h2
    have HC := Lib.hid h3
    have HT := Lib.hid h4
    have HN := Lib.hid h5
    have HE := Lib.hid h6
    clear h1 h2 h3 h4 h5 h6
    cases hs with
    | done =>
      go_upto_region 4 with (go_at_call 53; refine (BN.out _ _ HR.out).mono ?_; rintro e7 w7 ⟨rfl, g⟩; obtain ⟨x7, rfl⟩ := Wb.start g; clear g)
      have C7 := Lib.hid (show Row x7.at pC [.int .i64 e.k, .int .i64 e.co, .int .i64 e.r, .int .u64 e.ad, .int .u64 e.va, .slice p2 n2 q2] 25 from HC.out.below x7.bel)
      have T7 := Lib.hid (HT.out.below x7.bel)
      have R7 := Lib.hid (HR.out.below x7.bel)
      have K7 := Lib.hid (HK2.out.more x7.bel)
      have E7 := Lib.hid (HE.out.below x7.bel)
      have cc0 := (C7.out).cell 0
      have cc1 := (C7.out).cell 1
      have cc2 := (C7.out).cell 2
      have cc3 := (C7.out).cell 3
      have cc4 := (C7.out).cell 4
      have cc5 := (C7.out).cell 5
      simp only [List.getElem?_cons_zero, List.getElem?_cons_succ] at cc0 cc1 cc2 cc3 cc4 cc5
      have t0 := (T7.out).cell 0
      have t1 := (T7.out).cell 1
      have t2 := (T7.out).cell 2
      have t3 := (T7.out).cell 3
      have t4 := (T7.out).cell 4
      have t5 := (T7.out).cell 5
      have tf := fun i : Nat => (T7.out).free i
      simp only [List.getElem?_cons_zero, List.getElem?_cons_succ] at t0 t1 t2 t3 t4 t5
      go_wp2
      refine bodyPost_ret (v := .agg #[.int .i64 e.k, .int .i64 e.co, .int .i64 e.r, .int .u64 e.ad, .int .u64 e.va, .slice p2 n2 q2]) (by simp [results, Tryd.results52, go_sem, *]) rfl ?_
      refine ⟨p2, n2, q2, rfl, HN.out, Tree.mono (A := fun b => w.heap.size ≤ b ∧ b ≠ pT ∧ b ≠ pC) ?_ (fun b _ h => h.1), ?_, ?_⟩
      · repeat' (first | (with_reducible exact E7.out) | (with_reducible refine Tree.set ?_ _ _ _ (fun b h => h.2.1)))
      · repeat' (first | (with_reducible exact R7.out) | (with_reducible refine RS.oth ?_ TP.out.1 TP.out.2.1 TP.out.2.2 _ _))
      · repeat' (first | (with_reducible exact K7.out) | (with_reducible refine Two.put ?_ (Nat.le_of_eq PT.out.symm) _ _))
    | @step n _ m2 _ _ d _ ha hq2 hs2 =>
      have HA := Lib.hid ha
      have HS := Lib.hid hs2
      have CX := Lib.hid (show k + (1 + c2.cnt + d.cnt) ≤ 64 by have := hs2.cnt; rw [cnt_two] at this; have := HK.out; omega)
      have H2 := Lib.hid hq2
      clear ha hq2 hs2
      go_upto_region 3 with (go_at_call 53; refine (BY.out _ _ _ HR.out HA.out (by have := CX.out; omega)).mono ?_; rintro e7 w7 ⟨rfl, g1, g2⟩)
      refine to_pt ?_
      intro U3 hU3
      have R7 := Lib.hid ((g1.below hU3).below (Below.refl U3.heap.size U3).drew)
      have K7 := Lib.hid (show Two P R w U3.drew from ((HK2.out.trans g2).more hU3).more (Below.refl U3.heap.size U3).drew)
      have C6 := Lib.hid (show Row U3 pC [.int .i64 c2.k, .int .i64 c2.co, .int .i64 c2.r, .int .u64 c2.ad, .int .u64 c2.va, .slice p2 n2 q2] 25 from ((HC.out.two g2 (Ne.symm CP.out.1) (Ne.symm CP.out.2.1)).below hU3))
      have C7 := Lib.hid C6.out.drew
      have T7 := Lib.hid (show Row U3.drew pT [.int .i64 0, .int .i64 0, .int .i64 0, .int .u64 0, .int .u64 0, .slice none 0 0] 25 from ((HT.out.two g2 (Ne.symm TP.out.1) (Ne.symm TP.out.2.1)).below hU3).drew)
      have E7 := Lib.hid (show Tree (fun b => w.heap.size ≤ b ∧ b ≠ pT ∧ b ≠ pC) U3.drew c2.args p2 from ((HE.out.two g2 (fun b h => by have := LT.out; omega)).below hU3).below (Below.refl U3.heap.size U3).drew)
      have C3 := Lib.hid (HQ.out U3.drew (i2 + 1) m2 (k + c2.cnt + 1) d R7.out H2.out (by have := CX.out; omega))
      clear g1 g2 hU3
      have cc0 := (C6.out).cell 0
      have cc1 := (C6.out).cell 1
      have cc2 := (C6.out).cell 2
      have cc3 := (C6.out).cell 3
      have cc4 := (C6.out).cell 4
      have cc5 := (C6.out).cell 5
      have ccf := fun i : Nat => (C6.out).free i
      simp only [List.getElem?_cons_zero, List.getElem?_cons_succ] at cc0 cc1 cc2 cc3 cc4 cc5
      go_region_law (go_simp; go_at_call 63; (with_reducible refine C3.out.mono ?_); rintro e5 w5 ⟨p5, n5, q5, rfl, hn5, ht5, g3, g4⟩; have N5 := Lib.hid hn5; clear hn5; have X5 := Lib.hid (C7.out.two g4 (Ne.symm CP.out.1) (Ne.symm CP.out.2.1)); have G3 := Lib.hid g3; have G4 := Lib.hid g4; have H5 := Lib.hid ht5; clear g3 g4 ht5; have b0 := X5.out.cell 0; have a0 := fun o => (X5.out.old o).cell 0; have b1 := X5.out.cell 1; have a1 := fun o => (X5.out.old o).cell 1; have b2 := X5.out.cell 2; have a2 := fun o => (X5.out.old o).cell 2; have b3 := X5.out.cell 3; have a3 := fun o => (X5.out.old o).cell 3; have b4 := X5.out.cell 4; have a4 := fun o => (X5.out.old o).cell 4; have b5 := X5.out.cell 5; have a5 := fun o => (X5.out.old o).cell 5; have bf := fun i : Nat => X5.out.free i; have af := fun o (i : Nat) => (X5.out.old o).free i; simp only [List.getElem?_cons_zero, List.getElem?_cons_succ] at a0 b0 a1 b1 a2 b2 a3 b3 a4 b4 a5 b5)
      all_goals
        have W5 := Lib.hid (KB.alloc (Below.refl w5.heap.size w5) (.cells #[.int .i64 c2.k, .int .i64 c2.co, .int .i64 c2.r, .int .u64 c2.ad, .int .u64 c2.va, .slice p2 n2 q2, .int .i64 d.k, .int .i64 d.co, .int .i64 d.r, .int .u64 d.ad, .int .u64 d.va, .slice p5 n5 q5] 25))
        have X6 := Lib.hid (X5.out.below W5.out)
        have T6 := Lib.hid ((T7.out.two G4.out (Ne.symm TP.out.1) (Ne.symm TP.out.2.1)).below W5.out)
        have K6 := Lib.hid ((K7.out.trans G4.out).more W5.out)
        have R6 := Lib.hid (G3.out.below W5.out)
        have SZ := Lib.hid (show w.heap.size ≤ w5.heap.size ∧ pT < w5.heap.size ∧ pC < w5.heap.size from ⟨by have := K7.out.size; have := G4.out.size; omega, by have := T7.out.lt; have := G4.out.size; omega, X5.out.lt⟩)
        have L3 := Lib.hid (show w.heap.size ≤ U3.drew.heap.size ∧ pT < U3.drew.heap.size ∧ pC < U3.drew.heap.size from ⟨K7.out.size, T7.out.lt, C7.out.lt⟩)
        have E6 := Lib.hid (show Tree (fun b => w.heap.size ≤ b ∧ b ≠ pT ∧ b ≠ pC) (w5.alloc (.cells #[.int .i64 c2.k, .int .i64 c2.co, .int .i64 c2.r, .int .u64 c2.ad, .int .u64 c2.va, .slice p2 n2 q2, .int .i64 d.k, .int .i64 d.co, .int .i64 d.r, .int .u64 d.ad, .int .u64 d.va, .slice p5 n5 q5] 25)) [c2, d] (some ⟨w5.heap.size, 0, none⟩) from
          Tree.pair (Row.new w5 (cellsC c2 p2 n2 q2 ++ cellsC d p5 n5 q5) _) ⟨SZ.out.1, by have := SZ.out.2.1; omega, by have := SZ.out.2.2; omega⟩ HN.out ((E7.out.two G4.out (fun b h => by have := LT.out; omega)).below W5.out) N5.out ((H5.out.mono (fun b _ h => by have := L3.out; refine ⟨?_, ?_, ?_⟩ <;> omega)).below W5.out))
        clear cc0 a0 b0 cc1 a1 b1 cc2 a2 b2 cc3 a3 b3 cc4 a4 b4 cc5 a5 b5 ccf af bf
        go_wp2
        go_roundg (n)
        case measure => first | exact Nat.lt_succ_self _ | (simp; done) | omega
        case rel =>
          refine ⟨m2, .node 4 0 0 0 0 [c2, d], some ⟨w5.heap.size, 0, none⟩, 2, 2, HS.out, ?_, ?_, ?_, ?_, rfl, ?_⟩
          · rw [show k + (Cnd.node 4 0 0 0 0 [c2, d]).cnt = k + c2.cnt + 1 + d.cnt by rw [cnt_two]; omega]
            repeat' (first | (with_reducible exact R6.out) | (with_reducible refine RS.oth ?_ CP.out.1 CP.out.2.1 CP.out.2.2 _ _))
          · repeat' (first | (with_reducible exact K6.out) | (with_reducible refine Two.put ?_ PC.out.2 _ _))
          · exact (((((X6.out.set 0 _).set 1 _).set 2 _).set 3 _).set 4 _).set 5 _
          · repeat' (first | (with_reducible exact T6.out) | (with_reducible refine Row.oth ?_ (Nat.ne_of_lt PC.out.1) _ _))
          · show Tree _ _ [c2, d] _
            repeat' (first | (with_reducible exact E6.out) | (with_reducible refine Tree.set ?_ _ _ _ (fun b h => h.2.2)))

set_option maxRecDepth 100000 in
set_option maxHeartbeats 6400000 in
theorem or_of {w0 : World} {P R : Nat} {tp : Option Addr} {tn tc : Nat} {T : List GrL.Tok} (hT : TkAt w0 tp T) (hn : tn = T.length) {Q : Nat → Nat → Cnd → Prop} (hq : Rd w0 P R tp tn tc 52 Q) : Rd w0 P R tp tn tc 38 (Chain T [92, 47] 5 Q) := by
  intro w i j k e h ⟨g0, m, c, hm, hs, hj, hnot⟩ hk
  have CL := hs.cnt
  have HQ := Lib.hid hq
  have C0 := Lib.hid (fun U H => hq U i m k c H hm (by omega))
  have BN := Lib.hid (fun (U : World) (kk : Nat) (H : RS w0 P R tp tn tc U j kk) => between_no hT hn U j kk H hj ⟨#[92, 47]⟩ (by
    by_cases e1 : (T[j]'hj).kind = 3
    · exact .inr fun e2 => hnot ⟨hj, e1, str_eq.1 (congrArg ByteArray.toList (e2 : strL _ = strL [92, 47]))⟩
    · exact .inl e1))
  have BY := Lib.hid (fun (U : World) (i kk : Nat) (H : RS w0 P R tp tn tc U i kk) (ha : At T i 3 [92, 47]) (hk : kk < 64) => between_yes hT hn U i kk H ha.1 ⟨#[92, 47]⟩ ha.2.1 (by rw [ha.2.2]; rfl) hk)
  have H := Lib.hid h
  have HS := Lib.hid hs
  have HK := Lib.hid hk
  have LT := Lib.hid H.out.lt
  have BS := Lib.hid H.out.base.size
  clear h hs hk hm hj hnot hT hn hq CL
  go_enter Tryd.func38, Tryd.ntmps38
  go_upto_region 1 with fail
  refine to_cls ?_
  intro U1 hU1 y1
  have TR1 := Lib.hid (show Row y1.at w.heap.size [.int .i64 0, .int .i64 0, .int .i64 0, .int .u64 0, .int .u64 0, .slice none 0 0] 25 from ((Row.new w [.int .i64 0, .int .i64 0, .int .i64 0, .int .u64 0, .int .u64 0, .slice none 0 0] _).below hU1).below y1.bel)
  have K1 := Lib.hid ((KB.alloc (Below.refl w.heap.size w) _).trans ((hU1.trans (y1.bel.mono hU1.size)).mono (by simp)))
  have HS1 := Lib.hid (H.out.below K1.out)
  clear hU1
  obtain ⟨pT, hpT⟩ : ∃ b, b = w.heap.size := ⟨_, rfl⟩
  have PT := Lib.hid hpT
  rw [← hpT] at TR1
  simp only [← hpT]
  clear hpT
  go_wp2_with (go_at_call 52; refine (C0.out _ HS1.out).mono ?_; rintro e9 w9 ⟨p0, n0, q0, rfl, hn0, ht0, g1, g2⟩; have N2 := Lib.hid hn0; clear hn0)
  refine to_cls ?_
  intro U2 hU2 y2
  have LC0 := LT.out
  have GS := g2.size
  have YS := TR1.out.lt
  obtain ⟨pC, hpC⟩ : ∃ b, b = w9.heap.size := ⟨_, rfl⟩
  have PC := Lib.hid (show pT < pC ∧ w.heap.size ≤ pC by have := PT.out; omega)
  have B2 := hU2.trans (y2.bel.mono hU2.size)
  have CR2 := Lib.hid (show Row y2.at pC (cellsC c p0 n0 q0) 25 from hpC ▸ ((Row.new w9 (cellsC c p0 n0 q0) _).below hU2).below y2.bel)
  have TR2 := Lib.hid (show Row y2.at pT [.int .i64 0, .int .i64 0, .int .i64 0, .int .u64 0, .int .u64 0, .slice none 0 0] 25 from (((TR1.out.two g2 (by have := PT.out; omega) (by have := PT.out; omega)).old _).below hU2).below y2.bel)
  have HS2 := Lib.hid (show RS w0 P R tp tn tc y2.at m (k + c.cnt) from ((g1.below (KB.alloc (Below.refl _ w9) _)).below hU2).below y2.bel)
  have KS2 := Lib.hid (show Two P R w y2.at from (((Two.of_below K1.out).trans g2).more (KB.alloc (Below.refl _ w9) _)).more B2)
  have TE2 := Lib.hid (show Tree (fun b => w.heap.size ≤ b ∧ b ≠ pT ∧ b ≠ pC) y2.at c.args p0 from ((ht0.mono (A' := fun b => w.heap.size ≤ b ∧ b ≠ pT ∧ b ≠ pC) (fun b hb h => by have := K1.out.size; have := PT.out; refine ⟨?_, ?_, ?_⟩ <;> omega)).below (KB.alloc (Below.refl _ w9) _)).below B2)
  have TP := Lib.hid (show P ≠ pT ∧ R ≠ pT ∧ w0.heap.size ≤ pT by have := PT.out; have := BS.out; omega)
  have CP := Lib.hid (show P ≠ pC ∧ R ≠ pC ∧ w0.heap.size ≤ pC by have := PC.out; have := PT.out; have := BS.out; omega)
  simp only [← hpC]
  clear ht0 g1 g2 hU2 LC0 GS YS B2 hpC HS1 TR1 K1 C0
  go_loopg [] g0 (fun g wr => ∃ (i2 : Nat) (c2 : Cnd) (p2 : Option Addr) (n2 q2 : Nat), Spine T [92, 47] 5 Q g i2 c2 j e ∧ RS w0 P R tp tn tc wr i2 (k + c2.cnt) ∧ Two P R w wr ∧ Row wr pC (cellsC c2 p2 n2 q2) 25 ∧ Row wr pT [.int .i64 0, .int .i64 0, .int .i64 0, .int .u64 0, .int .u64 0, .slice none 0 0] 25 ∧ n2 = c2.args.length ∧ Tree (fun b => w.heap.size ≤ b ∧ b ≠ pT ∧ b ≠ pC) wr c2.args p2)
  case atStart => exact ⟨m, c, p0, n0, q0, HS.out, HS2.out, KS2.out, CR2.out, TR2.out, N2.out, TE2.out⟩
  case round =>
    clear HS HS2 KS2 CR2 TR2 N2 TE2
    obtain ⟨i2, c2, p2, n2, q2, hs, h1, h2, h3, h4, h5, h6⟩ := hrel
    have HR := Lib.hid h1
    have HK2 := Lib.hid h2
    have HC := Lib.hid h3
    have HT := Lib.hid h4
    have HN := Lib.hid h5
    have HE := Lib.hid h6
    clear h1 h2 h3 h4 h5 h6
    cases hs with
    | done =>
      go_upto_region 4 with (go_at_call 53; refine (BN.out _ _ HR.out).mono ?_; rintro e7 w7 ⟨rfl, g⟩; obtain ⟨x7, rfl⟩ := Wb.start g; clear g)
      have C7 := Lib.hid (show Row x7.at pC [.int .i64 e.k, .int .i64 e.co, .int .i64 e.r, .int .u64 e.ad, .int .u64 e.va, .slice p2 n2 q2] 25 from HC.out.below x7.bel)
      have T7 := Lib.hid (HT.out.below x7.bel)
      have R7 := Lib.hid (HR.out.below x7.bel)
      have K7 := Lib.hid (HK2.out.more x7.bel)
      have E7 := Lib.hid (HE.out.below x7.bel)
      have cc0 := (C7.out).cell 0
      have cc1 := (C7.out).cell 1
      have cc2 := (C7.out).cell 2
      have cc3 := (C7.out).cell 3
      have cc4 := (C7.out).cell 4
      have cc5 := (C7.out).cell 5
      simp only [List.getElem?_cons_zero, List.getElem?_cons_succ] at cc0 cc1 cc2 cc3 cc4 cc5
      have t0 := (T7.out).cell 0
      have t1 := (T7.out).cell 1
      have t2 := (T7.out).cell 2
      have t3 := (T7.out).cell 3
      have t4 := (T7.out).cell 4
      have t5 := (T7.out).cell 5
      have tf := fun i : Nat => (T7.out).free i
      simp only [List.getElem?_cons_zero, List.getElem?_cons_succ] at t0 t1 t2 t3 t4 t5
      go_wp2
      refine bodyPost_ret (v := .agg #[.int .i64 e.k, .int .i64 e.co, .int .i64 e.r, .int .u64 e.ad, .int .u64 e.va, .slice p2 n2 q2]) (by simp [results, Tryd.results38, go_sem, *]) rfl ?_
      refine ⟨p2, n2, q2, rfl, HN.out, Tree.mono (A := fun b => w.heap.size ≤ b ∧ b ≠ pT ∧ b ≠ pC) ?_ (fun b _ h => h.1), ?_, ?_⟩
      · repeat' (first | (with_reducible exact E7.out) | (with_reducible refine Tree.set ?_ _ _ _ (fun b h => h.2.1)))
      · repeat' (first | (with_reducible exact R7.out) | (with_reducible refine RS.oth ?_ TP.out.1 TP.out.2.1 TP.out.2.2 _ _))
      · repeat' (first | (with_reducible exact K7.out) | (with_reducible refine Two.put ?_ (Nat.le_of_eq PT.out.symm) _ _))
    | @step n _ m2 _ _ d _ ha hq2 hs2 =>
      have HA := Lib.hid ha
      have HS := Lib.hid hs2
      have CX := Lib.hid (show k + (1 + c2.cnt + d.cnt) ≤ 64 by have := hs2.cnt; rw [cnt_two] at this; have := HK.out; omega)
      have H2 := Lib.hid hq2
      clear ha hq2 hs2
      go_upto_region 3 with (go_at_call 53; refine (BY.out _ _ _ HR.out HA.out (by have := CX.out; omega)).mono ?_; rintro e7 w7 ⟨rfl, g1, g2⟩)
      refine to_pt ?_
      intro U3 hU3
      have R7 := Lib.hid ((g1.below hU3).below (Below.refl U3.heap.size U3).drew)
      have K7 := Lib.hid (show Two P R w U3.drew from ((HK2.out.trans g2).more hU3).more (Below.refl U3.heap.size U3).drew)
      have C6 := Lib.hid (show Row U3 pC [.int .i64 c2.k, .int .i64 c2.co, .int .i64 c2.r, .int .u64 c2.ad, .int .u64 c2.va, .slice p2 n2 q2] 25 from ((HC.out.two g2 (Ne.symm CP.out.1) (Ne.symm CP.out.2.1)).below hU3))
      have C7 := Lib.hid C6.out.drew
      have T7 := Lib.hid (show Row U3.drew pT [.int .i64 0, .int .i64 0, .int .i64 0, .int .u64 0, .int .u64 0, .slice none 0 0] 25 from ((HT.out.two g2 (Ne.symm TP.out.1) (Ne.symm TP.out.2.1)).below hU3).drew)
      have E7 := Lib.hid (show Tree (fun b => w.heap.size ≤ b ∧ b ≠ pT ∧ b ≠ pC) U3.drew c2.args p2 from ((HE.out.two g2 (fun b h => by have := LT.out; omega)).below hU3).below (Below.refl U3.heap.size U3).drew)
      have C3 := Lib.hid (HQ.out U3.drew (i2 + 1) m2 (k + c2.cnt + 1) d R7.out H2.out (by have := CX.out; omega))
      clear g1 g2 hU3
      have cc0 := (C6.out).cell 0
      have cc1 := (C6.out).cell 1
      have cc2 := (C6.out).cell 2
      have cc3 := (C6.out).cell 3
      have cc4 := (C6.out).cell 4
      have cc5 := (C6.out).cell 5
      have ccf := fun i : Nat => (C6.out).free i
      simp only [List.getElem?_cons_zero, List.getElem?_cons_succ] at cc0 cc1 cc2 cc3 cc4 cc5
      go_region_law (go_simp; go_at_call 52; (with_reducible refine C3.out.mono ?_); rintro e5 w5 ⟨p5, n5, q5, rfl, hn5, ht5, g3, g4⟩; have N5 := Lib.hid hn5; clear hn5; have X5 := Lib.hid (C7.out.two g4 (Ne.symm CP.out.1) (Ne.symm CP.out.2.1)); have G3 := Lib.hid g3; have G4 := Lib.hid g4; have H5 := Lib.hid ht5; clear g3 g4 ht5; have b0 := X5.out.cell 0; have a0 := fun o => (X5.out.old o).cell 0; have b1 := X5.out.cell 1; have a1 := fun o => (X5.out.old o).cell 1; have b2 := X5.out.cell 2; have a2 := fun o => (X5.out.old o).cell 2; have b3 := X5.out.cell 3; have a3 := fun o => (X5.out.old o).cell 3; have b4 := X5.out.cell 4; have a4 := fun o => (X5.out.old o).cell 4; have b5 := X5.out.cell 5; have a5 := fun o => (X5.out.old o).cell 5; have bf := fun i : Nat => X5.out.free i; have af := fun o (i : Nat) => (X5.out.old o).free i; simp only [List.getElem?_cons_zero, List.getElem?_cons_succ] at a0 b0 a1 b1 a2 b2 a3 b3 a4 b4 a5 b5)
      all_goals
        have W5 := Lib.hid (KB.alloc (Below.refl w5.heap.size w5) (.cells #[.int .i64 c2.k, .int .i64 c2.co, .int .i64 c2.r, .int .u64 c2.ad, .int .u64 c2.va, .slice p2 n2 q2, .int .i64 d.k, .int .i64 d.co, .int .i64 d.r, .int .u64 d.ad, .int .u64 d.va, .slice p5 n5 q5] 25))
        have X6 := Lib.hid (X5.out.below W5.out)
        have T6 := Lib.hid ((T7.out.two G4.out (Ne.symm TP.out.1) (Ne.symm TP.out.2.1)).below W5.out)
        have K6 := Lib.hid ((K7.out.trans G4.out).more W5.out)
        have R6 := Lib.hid (G3.out.below W5.out)
        have SZ := Lib.hid (show w.heap.size ≤ w5.heap.size ∧ pT < w5.heap.size ∧ pC < w5.heap.size from ⟨by have := K7.out.size; have := G4.out.size; omega, by have := T7.out.lt; have := G4.out.size; omega, X5.out.lt⟩)
        have L3 := Lib.hid (show w.heap.size ≤ U3.drew.heap.size ∧ pT < U3.drew.heap.size ∧ pC < U3.drew.heap.size from ⟨K7.out.size, T7.out.lt, C7.out.lt⟩)
        have E6 := Lib.hid (show Tree (fun b => w.heap.size ≤ b ∧ b ≠ pT ∧ b ≠ pC) (w5.alloc (.cells #[.int .i64 c2.k, .int .i64 c2.co, .int .i64 c2.r, .int .u64 c2.ad, .int .u64 c2.va, .slice p2 n2 q2, .int .i64 d.k, .int .i64 d.co, .int .i64 d.r, .int .u64 d.ad, .int .u64 d.va, .slice p5 n5 q5] 25)) [c2, d] (some ⟨w5.heap.size, 0, none⟩) from
          Tree.pair (Row.new w5 (cellsC c2 p2 n2 q2 ++ cellsC d p5 n5 q5) _) ⟨SZ.out.1, by have := SZ.out.2.1; omega, by have := SZ.out.2.2; omega⟩ HN.out ((E7.out.two G4.out (fun b h => by have := LT.out; omega)).below W5.out) N5.out ((H5.out.mono (fun b _ h => by have := L3.out; refine ⟨?_, ?_, ?_⟩ <;> omega)).below W5.out))
        clear cc0 a0 b0 cc1 a1 b1 cc2 a2 b2 cc3 a3 b3 cc4 a4 b4 cc5 a5 b5 ccf af bf
        go_wp2
        go_roundg (n)
        case measure => first | exact Nat.lt_succ_self _ | (simp; done) | omega
        case rel =>
          refine ⟨m2, .node 5 0 0 0 0 [c2, d], some ⟨w5.heap.size, 0, none⟩, 2, 2, HS.out, ?_, ?_, ?_, ?_, rfl, ?_⟩
          · rw [show k + (Cnd.node 5 0 0 0 0 [c2, d]).cnt = k + c2.cnt + 1 + d.cnt by rw [cnt_two]; omega]
            repeat' (first | (with_reducible exact R6.out) | (with_reducible refine RS.oth ?_ CP.out.1 CP.out.2.1 CP.out.2.2 _ _))
          · repeat' (first | (with_reducible exact K6.out) | (with_reducible refine Two.put ?_ PC.out.2 _ _))
          · exact (((((X6.out.set 0 _).set 1 _).set 2 _).set 3 _).set 4 _).set 5 _
          · repeat' (first | (with_reducible exact T6.out) | (with_reducible refine Row.oth ?_ (Nat.ne_of_lt PC.out.1) _ _))
          · show Tree _ _ [c2, d] _
            repeat' (first | (with_reducible exact E6.out) | (with_reducible refine Tree.set ?_ _ _ _ (fun b h => h.2.2)))
end Go.Proofs.YtgpngjgilcbigaaDoor
