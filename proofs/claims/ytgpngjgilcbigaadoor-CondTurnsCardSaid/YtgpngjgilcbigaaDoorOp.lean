/-
  Layer 11, the walks: part, by induction over its depth.
-/
import Derived.Test.YtgpngjgilcbigaaDoorOo
set_option linter.unusedSimpArgs false
set_option linter.unusedVariables false
namespace GrC
open GrP GrL
/-- tokens that are a leaf -/
def LeafN (T : List GrL.Tok) (i j : Nat) (x : Cnd) : Prop :=
  (∃ (a c e : Tx) (co r v : Nat), At T i 2 a ∧ At T (i + 1) 3 [58] ∧ At T (i + 2) 1 c ∧ At T (i + 3) 3 [61] ∧ At T (i + 4) 2 e ∧ GrP.parse (strL a) = (co, 0) ∧ co < 4 ∧ GrA.numberOf c = some r ∧ r < 31 ∧ GrP.parse (strL e) = (v, 0) ∧ j = i + 5 ∧ x = .node 1 co r 0 v []) ∨
  (∃ (b e : Tx) (ad v : Nat), At T i 3 [91] ∧ At T (i + 1) 2 b ∧ At T (i + 2) 3 [93] ∧ At T (i + 3) 3 [61] ∧ At T (i + 4) 2 e ∧ GrP.parse (strL b) = (ad, 0) ∧ GrP.parse (strL e) = (v, 0) ∧ j = i + 5 ∧ x = .node 2 0 0 ad v []) ∨
  (∃ (b e : Tx) (co v : Nat), At T i 1 [102, 97, 117, 108, 116, 115] ∧ At T (i + 1) 2 b ∧ At T (i + 2) 3 [61] ∧ At T (i + 3) 2 e ∧ GrP.parse (strL b) = (co, 0) ∧ co < 4 ∧ GrP.parse (strL e) = (v, 0) ∧ j = i + 4 ∧ x = .node 3 co 0 0 v [])
/-- tokens that are a part, of such a depth at most -/
def PartN (T : List GrL.Tok) : Nat → Nat → Nat → Cnd → Prop
  | 0 => fun _ _ _ => False
  | n + 1 => fun i j c =>
    (∃ m, At T i 3 [40] ∧ Chain T [92, 47] 5 (Chain T [47, 92] 4 (PartN T n)) (i + 1) m c ∧ At T m 3 [41] ∧ j = m + 1) ∨
    (∃ d, At T i 3 [126] ∧ PartN T n (i + 1) j d ∧ c = .node 6 0 0 0 0 [d]) ∨
    (At T i 1 [116, 114, 117, 101] ∧ j = i + 1 ∧ c = .node 7 0 0 0 0 []) ∨
    LeafN T i j c
/-- no leaf, and what isn't one of the other three -/
theorem LeafN.args {T : List GrL.Tok} {i j : Nat} {x : Cnd} (h : LeafN T i j x) : x.args = [] ∧ x.cnt = 1 := by
  rcases h with ⟨_, _, _, _, _, _, _, _, _, _, _, _, _, _, _, _, _, rfl⟩ | ⟨_, _, _, _, _, _, _, _, _, _, _, _, rfl⟩ | ⟨_, _, _, _, _, _, _, _, _, _, _, _, rfl⟩ <;> exact ⟨rfl, by simp [Cnd.cnt, cntL]⟩
end GrC
namespace Go.Proofs.YtgpngjgilcbigaaDoor
open Go.RowKit GrP GrL GrC

theorem leaf_any {w0 : World} {P R : Nat} {tp : Option Addr} {tn tc : Nat} {T : List GrL.Tok} (hT : TkAt w0 tp T) (hn : tn = T.length) (ht : TB w0) (w : World) (i j k : Nat) (x : Cnd) (h : RS w0 P R tp tn tc w i k) (hx : LeafN T i j x) :
    Calls Tryd.prog 75 #[.pointer (some ⟨P, 0, none⟩)] w fun e w' => e = .returned (.agg #[.int .i64 x.k, .int .i64 x.co, .int .i64 x.r, .int .u64 x.ad, .int .u64 x.va, .slice none 0 0]) ∧ RS w0 P R tp tn tc w' j k ∧ Two P R w w' := by
  rcases hx with ⟨a, c, e, co, r, v, h1, h2, h3, h4, h5, h6, h7, h8, h9, h10, rfl, rfl⟩ | ⟨b, e, ad, v, h1, h2, h3, h4, h5, h6, h7, rfl, rfl⟩ | ⟨b, e, co, v, h1, h2, h3, h4, h5, h6, h7, rfl, rfl⟩
  · exact leaf_reg hT hn w i k h ht h1 h2 h3 h4 h5 h6 h7 h8 h9 h10
  · exact leaf_cell hT hn w i k h h1 h2 h3 h4 h5 h6 h7
  · exact leaf_flt hT hn w i k h h1 h2 h3 h4 h5 h6 h7

theorem LeafN.first {T : List GrL.Tok} {i j : Nat} {c : Cnd} (hp : LeafN T i j c) : ∃ hi0 : i < T.length, (((T[i]'hi0).kind : Int) ≠ 3 ∨ strL (T[i]'hi0).text ≠ ⟨#[40]⟩) ∧ (((T[i]'hi0).kind : Int) ≠ 3 ∨ strL (T[i]'hi0).text ≠ ⟨#[126]⟩) ∧ (((T[i]'hi0).kind : Int) ≠ 1 ∨ strL (T[i]'hi0).text ≠ ⟨#[116, 114, 117, 101]⟩) := by
  rcases hp with ⟨_, _, _, _, _, _, ⟨h0, h1, h2⟩, _⟩ | ⟨_, _, _, _, ⟨h0, h1, h2⟩, _⟩ | ⟨_, _, _, _, ⟨h0, h1, h2⟩, _⟩
  · exact ⟨h0, .inl (by omega), .inl (by omega), .inl (by omega)⟩
  · refine ⟨h0, .inr ?_, .inr ?_, .inl (by omega)⟩ <;> rw [h2] <;> intro e
    · exact absurd (str_eq.1 (congrArg ByteArray.toList (e : strL [91] = strL [40]))) (by decide)
    · exact absurd (str_eq.1 (congrArg ByteArray.toList (e : strL [91] = strL [126]))) (by decide)
  · refine ⟨h0, .inl (by omega), .inl (by omega), .inr ?_⟩
    rw [h2]
    intro e
    exact absurd (str_eq.1 (congrArg ByteArray.toList (e : strL [102, 97, 117, 108, 116, 115] = strL [116, 114, 117, 101]))) (by decide)

set_option maxRecDepth 100000 in
set_option maxHeartbeats 6400000 in
theorem part_brk {w0 : World} {P R : Nat} {tp : Option Addr} {tn tc : Nat} {T : List GrL.Tok} (hT : TkAt w0 tp T) (hn : tn = T.length) (ht : TB w0) {Q : Nat → Nat → Cnd → Prop} (hq : Rd w0 P R tp tn tc 63 Q) (w : World) (i j k : Nat) (c : Cnd) (h : RS w0 P R tp tn tc w i k) (hp : ∃ m, At T i 3 [40] ∧ Chain T [92, 47] 5 (Chain T [47, 92] 4 Q) (i + 1) m c ∧ At T m 3 [41] ∧ j = m + 1) (hk : k + c.cnt ≤ 64) :
    Calls Tryd.prog 63 #[.pointer (some ⟨P, 0, none⟩)] w (RdPost w0 P R tp tn tc w j k c) := by
  obtain ⟨m, ⟨hi0, a1, a2⟩, hc, ⟨hi1, b1, b2⟩, rfl⟩ := hp
  have I1 := Lib.hid (fun (U : World) (H : RS w0 P R tp tn tc U (i) (k)) => is_yes hT hn U i k H hi0 3 ⟨#[40]⟩ (by rw [a1]; rfl) (by rw [a2]; rfl) (by decide))
  have O1 := Lib.hid (fun (U : World) (H : RS w0 P R tp tn tc U (i + 1) (k)) => or_of hT hn (and_of hT hn hq) U (i + 1) m k c H hc hk)
  have S1 := Lib.hid (fun (U : World) (H : RS w0 P R tp tn tc U (m) (k + c.cnt)) => sign_yes hT hn U m (k + c.cnt) H hi1 ⟨#[41]⟩ b1 (by rw [b2]; rfl))
  have H := Lib.hid h
  clear h hT hn a1 a2 b1 b2 hc hi0 hi1 hk hq
  go_enter Tryd.func63, Tryd.ntmps63
  go_upto_region 1 with fail
  obtain ⟨pT, hpT⟩ : ∃ b, b = w.heap.size := ⟨_, rfl⟩
  have LT := Lib.hid H.out.lt
  have BS := Lib.hid H.out.base.size
  have PT := Lib.hid (show P ≠ pT ∧ R ≠ pT ∧ w0.heap.size ≤ pT by have := LT.out; have := BS.out; omega)
  have WT := Lib.hid (show w.heap.size ≤ pT by omega)
  have HW := Lib.hid hpT
  have RT0 : Row (w.alloc (.cells #[.int .i64 0, .int .i64 0, .int .i64 0, .int .u64 0, .int .u64 0, .slice none 0 0] 25)) pT [.int .i64 0, .int .i64 0, .int .i64 0, .int .u64 0, .int .u64 0, .slice none 0 0] 25 := Row.new' w [.int .i64 0, .int .i64 0, .int .i64 0, .int .u64 0, .int .u64 0, .slice none 0 0] _ _ hpT.symm
  have KB0 := KB.alloc (Below.refl w.heap.size w) (.cells #[.int .i64 0, .int .i64 0, .int .i64 0, .int .u64 0, .int .u64 0, .slice none 0 0] 25)
  simp only [← hpT]
  refine to_cls ?_
  intro U1 hU1 y1
  have HS1 := Lib.hid (show RS w0 P R tp tn tc y1.at (i) (k) from ((H.out.below KB0).below hU1).below y1.bel)
  have KS1 := Lib.hid (show Two P R w y1.at from (Two.of_below KB0).more (hU1.trans (y1.bel.mono hU1.size)))
  have TR1 := Lib.hid (show Row y1.at pT [.int .i64 0, .int .i64 0, .int .i64 0, .int .u64 0, .int .u64 0, .slice none 0 0] 25 from ((RT0).below hU1).below y1.bel)
  clear hU1
  have o0 := (HS1.out.own).cell 0
  have o2 := (HS1.out.own).cell 2
  simp only [List.getElem?_cons_zero, List.getElem?_cons_succ] at o0 o2
  clear hpT RT0 KB0
  go_upto_region 4 with (go_at_call 64; refine (I1.out _ HS1.out).mono ?_; rintro e w9 ⟨rfl, g1, g2⟩)
  refine to_cls ?_
  intro U2 hU2 y2
  have HS2 := Lib.hid (show RS w0 P R tp tn tc y2.at (i + 1) (k) from ((g1).below hU2).below y2.bel)
  have KS2 := Lib.hid (show Two P R w y2.at from (KS1.out.trans g2).more (hU2.trans (y2.bel.mono hU2.size)))
  have TR2 := Lib.hid (show Row y2.at pT [.int .i64 0, .int .i64 0, .int .i64 0, .int .u64 0, .int .u64 0, .slice none 0 0] 25 from ((TR1.out.two g2 (Ne.symm PT.out.1) (Ne.symm PT.out.2.1)).below hU2).below y2.bel)
  clear o0 o2
  clear hU2
  have o0 := (HS2.out.own).cell 0
  have o2 := (HS2.out.own).cell 2
  simp only [List.getElem?_cons_zero, List.getElem?_cons_succ] at o0 o2
  clear g1 g2
  go_upto_region 5 with (go_at_call 38; refine (O1.out _ HS2.out).mono ?_; rintro e5 w5 ⟨p5, n5, q5, rfl, hn5, ht5, g1, g2⟩; have N5 := Lib.hid hn5; clear hn5)
  obtain ⟨pC, hpC⟩ : ∃ b, b = w5.heap.size := ⟨_, rfl⟩
  have G1 := Lib.hid g1
  have G2 := Lib.hid g2
  have H5 := Lib.hid ht5
  have SZ := Lib.hid (show w.heap.size ≤ w5.heap.size ∧ pT < w5.heap.size from ⟨by have := KS2.out.size; have := g2.size; omega, by have := TR2.out.lt; have := g2.size; omega⟩)
  have XT := Lib.hid (show Row w5 pT [.int .i64 0, .int .i64 0, .int .i64 0, .int .u64 0, .int .u64 0, .slice none 0 0] 25 from TR2.out.two g2 (Ne.symm PT.out.1) (Ne.symm PT.out.2.1))
  have L5 := Lib.hid (show w.heap.size ≤ y2.at.heap.size ∧ pT < y2.at.heap.size from ⟨KS2.out.size, TR2.out.lt⟩)
  have PC := Lib.hid (show pC = w5.heap.size from hpC)
  clear g1 g2 ht5
  simp only [← hpC]
  clear hpC
  refine to_cls ?_
  intro V1 hV1 z1
  have B1 := Lib.hid ((KB.alloc (Below.refl w5.heap.size w5) (.cells (cellsC c p5 n5 q5).toArray 25)).trans ((hV1.trans (z1.bel.mono hV1.size)).mono (by simp)))
  have CR1 := Lib.hid (show Row z1.at pC [.int .i64 c.k, .int .i64 c.co, .int .i64 c.r, .int .u64 c.ad, .int .u64 c.va, .slice p5 n5 q5] 25 from PC.out ▸ ((Row.new w5 (cellsC c p5 n5 q5) _).below hV1).below z1.bel)
  have R1 := Lib.hid (G1.out.below B1.out)
  have XT1 := Lib.hid (XT.out.below B1.out)
  have E1 := Lib.hid (show Tree (fun b => w.heap.size ≤ b ∧ b ≠ pT) z1.at c.args p5 from (H5.out.mono (fun b _ h => by have := L5.out; refine ⟨?_, ?_⟩ <;> omega)).below B1.out)
  have K1 := Lib.hid ((KS2.out.trans G2.out).more B1.out)
  clear hV1 o0 o2
  go_upto_region 6 with (go_at_call 74; refine (S1.out _ R1.out).mono ?_; rintro e6 w6 ⟨rfl, g1, g2⟩)
  have PC2 := Lib.hid (show pC ≠ P ∧ pC ≠ R by have := LT.out; have := PC.out; have := SZ.out; omega)
  have CR2 := Lib.hid (show Row w6 pC [.int .i64 c.k, .int .i64 c.co, .int .i64 c.r, .int .u64 c.ad, .int .u64 c.va, .slice p5 n5 q5] 25 from CR1.out.two g2 PC2.out.1 PC2.out.2)
  have XT2 := Lib.hid (XT1.out.two g2 (Ne.symm PT.out.1) (Ne.symm PT.out.2.1))
  have E2 := Lib.hid (E1.out.two g2 (fun b h => by have := LT.out; omega))
  have R2 := Lib.hid g1
  have K2 := Lib.hid (K1.out.trans g2)
  clear g1 g2
  have cc0 := (CR2.out).cell 0
  have cc1 := (CR2.out).cell 1
  have cc2 := (CR2.out).cell 2
  have cc3 := (CR2.out).cell 3
  have cc4 := (CR2.out).cell 4
  have cc5 := (CR2.out).cell 5
  simp only [List.getElem?_cons_zero, List.getElem?_cons_succ] at cc0 cc1 cc2 cc3 cc4 cc5
  have t0 := (XT2.out).cell 0
  have t1 := (XT2.out).cell 1
  have t2 := (XT2.out).cell 2
  have t3 := (XT2.out).cell 3
  have t4 := (XT2.out).cell 4
  have t5 := (XT2.out).cell 5
  have tf := fun i : Nat => (XT2.out).free i
  simp only [List.getElem?_cons_zero, List.getElem?_cons_succ] at t0 t1 t2 t3 t4 t5
  go_wp2
  refine bodyPost_ret (v := .agg #[.int .i64 c.k, .int .i64 c.co, .int .i64 c.r, .int .u64 c.ad, .int .u64 c.va, .slice p5 n5 q5]) (by simp [results, Tryd.results63, go_sem, *]) rfl ?_
  refine ⟨_, _, _, rfl, N5.out, ?_, ?_, ?_⟩
  · refine Tree.mono (A := fun b => w.heap.size ≤ b ∧ b ≠ pT) ?_ (fun b _ h => h.1)
    repeat' (first | (with_reducible exact E2.out) | (with_reducible refine Tree.set ?_ _ _ _ (fun b h => h.2)))
  · repeat' (first | (with_reducible exact R2.out) | (with_reducible refine RS.oth ?_ PT.out.1 PT.out.2.1 PT.out.2.2 _ _))
  · repeat' (first | (with_reducible exact K2.out) | (with_reducible refine Two.put ?_ WT.out _ _))

set_option maxRecDepth 100000 in
set_option maxHeartbeats 6400000 in
theorem part_not {w0 : World} {P R : Nat} {tp : Option Addr} {tn tc : Nat} {T : List GrL.Tok} (hT : TkAt w0 tp T) (hn : tn = T.length) (ht : TB w0) {Q : Nat → Nat → Cnd → Prop} (hq : Rd w0 P R tp tn tc 63 Q) (w : World) (i j k : Nat) (c : Cnd) (h : RS w0 P R tp tn tc w i k) (hp : ∃ d, At T i 3 [126] ∧ Q (i + 1) j d ∧ c = .node 6 0 0 0 0 [d]) (hk : k + c.cnt ≤ 64) :
    Calls Tryd.prog 63 #[.pointer (some ⟨P, 0, none⟩)] w (RdPost w0 P R tp tn tc w j k c) := by
  obtain ⟨d, ⟨hi0, a1, a2⟩, hd, rfl⟩ := hp
  have NB1 : ((T[i]'hi0).kind : Int) ≠ 3 ∨ strL (T[i]'hi0).text ≠ ⟨#[40]⟩ := .inr (by rw [a2]; intro e; exact absurd (str_eq.1 (congrArg ByteArray.toList (e : strL [126] = strL [40]))) (by decide))
  have hc : (Cnd.node 6 0 0 0 0 [d]).cnt = 1 + d.cnt := by simp only [Cnd.cnt, cntL]; omega
  obtain ⟨c, hcc⟩ : ∃ c, c = Cnd.node 6 0 0 0 0 [d] := ⟨_, rfl⟩
  rw [← hcc] at hc hk ⊢
  have I1 := Lib.hid (fun (U : World) (H : RS w0 P R tp tn tc U (i) (k)) => is_no hT hn U i k H hi0 3 ⟨#[40]⟩ NB1)
  have CO := Lib.hid (fun (U : World) (H : RS w0 P R tp tn tc U i k) => counted_yes U i k H (by have := cnt_pos c; omega))
  have I2 := Lib.hid (fun (U : World) (H : RS w0 P R tp tn tc U (i) (k + 1)) => is_yes hT hn U i (k + 1) H hi0 3 ⟨#[126]⟩ (by rw [a1]; rfl) (by rw [a2]; rfl) (by decide))
  have Q1 := Lib.hid (fun (U : World) (H : RS w0 P R tp tn tc U (i + 1) (k + 1)) => hq U (i + 1) j (k + 1) d H hd (by omega))
  have HC := Lib.hid hcc
  have HC2 := Lib.hid hc
  have H := Lib.hid h
  clear h hT hn a1 a2 hd NB1 hi0 hk hq hcc hc
  go_enter Tryd.func63, Tryd.ntmps63
  go_upto_region 1 with fail
  obtain ⟨pT, hpT⟩ : ∃ b, b = w.heap.size := ⟨_, rfl⟩
  have LT := Lib.hid H.out.lt
  have BS := Lib.hid H.out.base.size
  have PT := Lib.hid (show P ≠ pT ∧ R ≠ pT ∧ w0.heap.size ≤ pT by have := LT.out; have := BS.out; omega)
  have WT := Lib.hid (show w.heap.size ≤ pT by omega)
  have HW := Lib.hid hpT
  have RT0 : Row (w.alloc (.cells #[.int .i64 0, .int .i64 0, .int .i64 0, .int .u64 0, .int .u64 0, .slice none 0 0] 25)) pT [.int .i64 0, .int .i64 0, .int .i64 0, .int .u64 0, .int .u64 0, .slice none 0 0] 25 := Row.new' w [.int .i64 0, .int .i64 0, .int .i64 0, .int .u64 0, .int .u64 0, .slice none 0 0] _ _ hpT.symm
  have KB0 := KB.alloc (Below.refl w.heap.size w) (.cells #[.int .i64 0, .int .i64 0, .int .i64 0, .int .u64 0, .int .u64 0, .slice none 0 0] 25)
  simp only [← hpT]
  refine to_cls ?_
  intro U1 hU1 y1
  have HS1 := Lib.hid (show RS w0 P R tp tn tc y1.at (i) (k) from ((H.out.below KB0).below hU1).below y1.bel)
  have KS1 := Lib.hid (show Two P R w y1.at from (Two.of_below KB0).more (hU1.trans (y1.bel.mono hU1.size)))
  have TR1 := Lib.hid (show Row y1.at pT [.int .i64 0, .int .i64 0, .int .i64 0, .int .u64 0, .int .u64 0, .slice none 0 0] 25 from ((RT0).below hU1).below y1.bel)
  clear hU1
  have o0 := (HS1.out.own).cell 0
  have o2 := (HS1.out.own).cell 2
  simp only [List.getElem?_cons_zero, List.getElem?_cons_succ] at o0 o2
  clear hpT RT0 KB0
  go_upto_region 7 with (go_at_call 64; refine (I1.out _ HS1.out).mono ?_; rintro e w9 ⟨rfl, g⟩; obtain ⟨x9, rfl⟩ := Wb.start g; clear g)
  refine to_cls ?_
  intro U2 hU2 y2
  have HS2 := Lib.hid (show RS w0 P R tp tn tc y2.at (i) (k) from ((HS1.out.below x9.bel).below hU2).below y2.bel)
  have KS2 := Lib.hid (show Two P R w y2.at from (KS1.out.more x9.bel).more (hU2.trans (y2.bel.mono hU2.size)))
  have TR2 := Lib.hid (show Row y2.at pT [.int .i64 0, .int .i64 0, .int .i64 0, .int .u64 0, .int .u64 0, .slice none 0 0] 25 from ((TR1.out.below x9.bel).below hU2).below y2.bel)
  clear o0 o2
  clear hU2
  have o0 := (HS2.out.own).cell 0
  have o2 := (HS2.out.own).cell 2
  simp only [List.getElem?_cons_zero, List.getElem?_cons_succ] at o0 o2
  go_upto_region 8 with (go_at_call 65; refine (CO.out _ HS2.out).mono ?_; rintro e w9 ⟨rfl, g1, g2⟩)
  refine to_cls ?_
  intro U3 hU3 y3
  have HS3 := Lib.hid (show RS w0 P R tp tn tc y3.at (i) (k + 1) from ((g1).below hU3).below y3.bel)
  have KS3 := Lib.hid (show Two P R w y3.at from (KS2.out.trans g2).more (hU3.trans (y3.bel.mono hU3.size)))
  have TR3 := Lib.hid (show Row y3.at pT [.int .i64 0, .int .i64 0, .int .i64 0, .int .u64 0, .int .u64 0, .slice none 0 0] 25 from ((TR2.out.two g2 (Ne.symm PT.out.1) (Ne.symm PT.out.2.1)).below hU3).below y3.bel)
  clear o0 o2
  clear hU3
  have o0 := (HS3.out.own).cell 0
  have o2 := (HS3.out.own).cell 2
  simp only [List.getElem?_cons_zero, List.getElem?_cons_succ] at o0 o2
  clear g1 g2
  go_upto_region 10 with fail
  go_upto_region 11 with (go_at_call 64; refine (I2.out _ HS3.out).mono ?_; rintro e w9 ⟨rfl, g1, g2⟩)
  refine to_cls ?_
  intro U4 hU4 y4
  have HS4 := Lib.hid (show RS w0 P R tp tn tc y4.at (i + 1) (k + 1) from ((g1).below hU4).below y4.bel)
  have KS4 := Lib.hid (show Two P R w y4.at from (KS3.out.trans g2).more (hU4.trans (y4.bel.mono hU4.size)))
  have TR4 := Lib.hid (show Row y4.at pT [.int .i64 0, .int .i64 0, .int .i64 0, .int .u64 0, .int .u64 0, .slice none 0 0] 25 from ((TR3.out.two g2 (Ne.symm PT.out.1) (Ne.symm PT.out.2.1)).below hU4).below y4.bel)
  clear o0 o2
  clear hU4
  have o0 := (HS4.out.own).cell 0
  have o2 := (HS4.out.own).cell 2
  simp only [List.getElem?_cons_zero, List.getElem?_cons_succ] at o0 o2
  clear g1 g2
  go_wp2_with (go_at_call 63; refine (Q1.out _ HS4.out).mono ?_; rintro e5 w5 ⟨p5, n5, q5, rfl, hn5, ht5, g1, g2⟩; have N5 := Lib.hid hn5; clear hn5; have XT := Lib.hid (show Row w5 pT [.int .i64 0, .int .i64 0, .int .i64 0, .int .u64 0, .int .u64 0, .slice none 0 0] 25 from TR4.out.two g2 (Ne.symm PT.out.1) (Ne.symm PT.out.2.1)); have a0 := fun o => (XT.out.old o).cell 0; have a1 := fun o => (XT.out.old o).cell 1; have a2 := fun o => (XT.out.old o).cell 2; have a3 := fun o => (XT.out.old o).cell 3; have a4 := fun o => (XT.out.old o).cell 4; have a5 := fun o => (XT.out.old o).cell 5; have af := fun o (i : Nat) => (XT.out.old o).free i; simp only [List.getElem?_cons_zero, List.getElem?_cons_succ] at a0 a1 a2 a3 a4 a5)
  have SZ := Lib.hid (show w.heap.size ≤ w5.heap.size ∧ pT < w5.heap.size from ⟨by have := KS4.out.size; have := g2.size; omega, XT.out.lt⟩)
  have L5 := Lib.hid (show w.heap.size ≤ y4.at.heap.size ∧ pT < y4.at.heap.size from ⟨KS4.out.size, TR4.out.lt⟩)
  have W5 := Lib.hid (KB.alloc (Below.refl w5.heap.size w5) (.cells #[.int .i64 d.k, .int .i64 d.co, .int .i64 d.r, .int .u64 d.ad, .int .u64 d.va, .slice p5 n5 q5] 25))
  have R6 := Lib.hid (g1.below W5.out)
  have K6 := Lib.hid ((KS4.out.trans g2).more W5.out)
  have E6 := Lib.hid (show Tree (fun b => w.heap.size ≤ b ∧ b ≠ pT) (w5.alloc (.cells #[.int .i64 d.k, .int .i64 d.co, .int .i64 d.r, .int .u64 d.ad, .int .u64 d.va, .slice p5 n5 q5] 25)) [d] (some ⟨w5.heap.size, 0, none⟩) from
    Tree.one (Row.new w5 (cellsC d p5 n5 q5) _) ⟨SZ.out.1, by have := SZ.out.2; omega⟩ N5.out ((ht5.mono (fun b _ h => by have := L5.out; refine ⟨?_, ?_⟩ <;> omega)).below W5.out))
  clear g1 g2 ht5 o0 o2
  refine bodyPost_ret (v := .agg #[.int .i64 6, .int .i64 0, .int .i64 0, .int .u64 0, .int .u64 0, .slice (some ⟨w5.heap.size, 0, none⟩) 1 1]) (by simp [results, Tryd.results63, go_sem, *]) rfl ?_
  have hcc := HC.out
  subst hcc
  refine ⟨_, _, _, rfl, rfl, ?_, ?_, ?_⟩
  · refine Tree.mono (A := fun b => w.heap.size ≤ b ∧ b ≠ pT) ?_ (fun b _ h => h.1)
    show Tree _ _ [d] _
    repeat' (first | (with_reducible exact E6.out) | (with_reducible refine Tree.set ?_ _ _ _ (fun b h => h.2)))
  · rw [show k + (Cnd.node 6 0 0 0 0 [d]).cnt = k + 1 + d.cnt by rw [HC2.out]; omega]
    repeat' (first | (with_reducible exact R6.out) | (with_reducible refine RS.oth ?_ PT.out.1 PT.out.2.1 PT.out.2.2 _ _))
  · repeat' (first | (with_reducible exact K6.out) | (with_reducible refine Two.put ?_ WT.out _ _))

set_option maxRecDepth 100000 in
set_option maxHeartbeats 6400000 in
theorem part_true {w0 : World} {P R : Nat} {tp : Option Addr} {tn tc : Nat} {T : List GrL.Tok} (hT : TkAt w0 tp T) (hn : tn = T.length) (ht : TB w0) {Q : Nat → Nat → Cnd → Prop} (hq : Rd w0 P R tp tn tc 63 Q) (w : World) (i j k : Nat) (c : Cnd) (h : RS w0 P R tp tn tc w i k) (hp : At T i 1 [116, 114, 117, 101] ∧ j = i + 1 ∧ c = .node 7 0 0 0 0 []) (hk : k + c.cnt ≤ 64) :
    Calls Tryd.prog 63 #[.pointer (some ⟨P, 0, none⟩)] w (RdPost w0 P R tp tn tc w j k c) := by
  obtain ⟨⟨hi0, a1, a2⟩, rfl, rfl⟩ := hp
  have NB1 : ((T[i]'hi0).kind : Int) ≠ 3 ∨ strL (T[i]'hi0).text ≠ ⟨#[40]⟩ := .inl (by omega)
  have NB2 : ((T[i]'hi0).kind : Int) ≠ 3 ∨ strL (T[i]'hi0).text ≠ ⟨#[126]⟩ := .inl (by omega)
  obtain ⟨c, hcc⟩ : ∃ c, c = Cnd.node 7 0 0 0 0 [] := ⟨_, rfl⟩
  rw [← hcc] at hk ⊢
  have I1 := Lib.hid (fun (U : World) (H : RS w0 P R tp tn tc U (i) (k)) => is_no hT hn U i k H hi0 3 ⟨#[40]⟩ NB1)
  have CO := Lib.hid (fun (U : World) (H : RS w0 P R tp tn tc U i k) => counted_yes U i k H (by have := cnt_pos c; omega))
  have I2 := Lib.hid (fun (U : World) (H : RS w0 P R tp tn tc U (i) (k + 1)) => is_no hT hn U i (k + 1) H hi0 3 ⟨#[126]⟩ NB2)
  have I3 := Lib.hid (fun (U : World) (H : RS w0 P R tp tn tc U (i) (k + 1)) => is_yes hT hn U i (k + 1) H hi0 1 ⟨#[116, 114, 117, 101]⟩ (by rw [a1]; rfl) (by rw [a2]; rfl) (by decide))
  have HC := Lib.hid hcc
  have H := Lib.hid h
  clear h hT hn a1 a2 NB1 NB2 hi0 hk hq hcc
  go_enter Tryd.func63, Tryd.ntmps63
  go_upto_region 1 with fail
  obtain ⟨pT, hpT⟩ : ∃ b, b = w.heap.size := ⟨_, rfl⟩
  have LT := Lib.hid H.out.lt
  have BS := Lib.hid H.out.base.size
  have PT := Lib.hid (show P ≠ pT ∧ R ≠ pT ∧ w0.heap.size ≤ pT by have := LT.out; have := BS.out; omega)
  have WT := Lib.hid (show w.heap.size ≤ pT by omega)
  have HW := Lib.hid hpT
  have RT0 : Row (w.alloc (.cells #[.int .i64 0, .int .i64 0, .int .i64 0, .int .u64 0, .int .u64 0, .slice none 0 0] 25)) pT [.int .i64 0, .int .i64 0, .int .i64 0, .int .u64 0, .int .u64 0, .slice none 0 0] 25 := Row.new' w [.int .i64 0, .int .i64 0, .int .i64 0, .int .u64 0, .int .u64 0, .slice none 0 0] _ _ hpT.symm
  have KB0 := KB.alloc (Below.refl w.heap.size w) (.cells #[.int .i64 0, .int .i64 0, .int .i64 0, .int .u64 0, .int .u64 0, .slice none 0 0] 25)
  simp only [← hpT]
  refine to_cls ?_
  intro U1 hU1 y1
  have HS1 := Lib.hid (show RS w0 P R tp tn tc y1.at (i) (k) from ((H.out.below KB0).below hU1).below y1.bel)
  have KS1 := Lib.hid (show Two P R w y1.at from (Two.of_below KB0).more (hU1.trans (y1.bel.mono hU1.size)))
  have TR1 := Lib.hid (show Row y1.at pT [.int .i64 0, .int .i64 0, .int .i64 0, .int .u64 0, .int .u64 0, .slice none 0 0] 25 from ((RT0).below hU1).below y1.bel)
  clear hU1
  have o0 := (HS1.out.own).cell 0
  have o2 := (HS1.out.own).cell 2
  simp only [List.getElem?_cons_zero, List.getElem?_cons_succ] at o0 o2
  clear hpT RT0 KB0
  go_upto_region 7 with (go_at_call 64; refine (I1.out _ HS1.out).mono ?_; rintro e w9 ⟨rfl, g⟩; obtain ⟨x9, rfl⟩ := Wb.start g; clear g)
  refine to_cls ?_
  intro U2 hU2 y2
  have HS2 := Lib.hid (show RS w0 P R tp tn tc y2.at (i) (k) from ((HS1.out.below x9.bel).below hU2).below y2.bel)
  have KS2 := Lib.hid (show Two P R w y2.at from (KS1.out.more x9.bel).more (hU2.trans (y2.bel.mono hU2.size)))
  have TR2 := Lib.hid (show Row y2.at pT [.int .i64 0, .int .i64 0, .int .i64 0, .int .u64 0, .int .u64 0, .slice none 0 0] 25 from ((TR1.out.below x9.bel).below hU2).below y2.bel)
  clear o0 o2
  clear hU2
  have o0 := (HS2.out.own).cell 0
  have o2 := (HS2.out.own).cell 2
  simp only [List.getElem?_cons_zero, List.getElem?_cons_succ] at o0 o2
  go_upto_region 8 with (go_at_call 65; refine (CO.out _ HS2.out).mono ?_; rintro e w9 ⟨rfl, g1, g2⟩)
  refine to_cls ?_
  intro U3 hU3 y3
  have HS3 := Lib.hid (show RS w0 P R tp tn tc y3.at (i) (k + 1) from ((g1).below hU3).below y3.bel)
  have KS3 := Lib.hid (show Two P R w y3.at from (KS2.out.trans g2).more (hU3.trans (y3.bel.mono hU3.size)))
  have TR3 := Lib.hid (show Row y3.at pT [.int .i64 0, .int .i64 0, .int .i64 0, .int .u64 0, .int .u64 0, .slice none 0 0] 25 from ((TR2.out.two g2 (Ne.symm PT.out.1) (Ne.symm PT.out.2.1)).below hU3).below y3.bel)
  clear o0 o2
  clear hU3
  have o0 := (HS3.out.own).cell 0
  have o2 := (HS3.out.own).cell 2
  simp only [List.getElem?_cons_zero, List.getElem?_cons_succ] at o0 o2
  clear g1 g2
  go_upto_region 10 with fail
  go_upto_region 12 with (go_at_call 64; refine (I2.out _ HS3.out).mono ?_; rintro e w9 ⟨rfl, g⟩; obtain ⟨x9, rfl⟩ := Wb.start g; clear g)
  refine to_cls ?_
  intro U4 hU4 y4
  have HS4 := Lib.hid (show RS w0 P R tp tn tc y4.at (i) (k + 1) from ((HS3.out.below x9.bel).below hU4).below y4.bel)
  have KS4 := Lib.hid (show Two P R w y4.at from (KS3.out.more x9.bel).more (hU4.trans (y4.bel.mono hU4.size)))
  have TR4 := Lib.hid (show Row y4.at pT [.int .i64 0, .int .i64 0, .int .i64 0, .int .u64 0, .int .u64 0, .slice none 0 0] 25 from ((TR3.out.below x9.bel).below hU4).below y4.bel)
  clear o0 o2
  clear hU4
  have o0 := (HS4.out.own).cell 0
  have o2 := (HS4.out.own).cell 2
  simp only [List.getElem?_cons_zero, List.getElem?_cons_succ] at o0 o2
  go_upto_region 13 with (go_at_call 64; refine (I3.out _ HS4.out).mono ?_; rintro e w9 ⟨rfl, g1, g2⟩)
  refine to_cls ?_
  intro U5 hU5 y5
  have HS5 := Lib.hid (show RS w0 P R tp tn tc y5.at (i + 1) (k + 1) from ((g1).below hU5).below y5.bel)
  have KS5 := Lib.hid (show Two P R w y5.at from (KS4.out.trans g2).more (hU5.trans (y5.bel.mono hU5.size)))
  have TR5 := Lib.hid (show Row y5.at pT [.int .i64 0, .int .i64 0, .int .i64 0, .int .u64 0, .int .u64 0, .slice none 0 0] 25 from ((TR4.out.two g2 (Ne.symm PT.out.1) (Ne.symm PT.out.2.1)).below hU5).below y5.bel)
  clear o0 o2
  clear hU5
  have o0 := (HS5.out.own).cell 0
  have o2 := (HS5.out.own).cell 2
  simp only [List.getElem?_cons_zero, List.getElem?_cons_succ] at o0 o2
  clear g1 g2
  have t0 := (TR5.out).cell 0
  have t1 := (TR5.out).cell 1
  have t2 := (TR5.out).cell 2
  have t3 := (TR5.out).cell 3
  have t4 := (TR5.out).cell 4
  have t5 := (TR5.out).cell 5
  have tf := fun i : Nat => (TR5.out).free i
  simp only [List.getElem?_cons_zero, List.getElem?_cons_succ] at t0 t1 t2 t3 t4 t5
  go_wp2
  refine bodyPost_ret (v := .agg #[.int .i64 7, .int .i64 0, .int .i64 0, .int .u64 0, .int .u64 0, .slice none 0 0]) (by simp [results, Tryd.results63, go_sem, *]) rfl ?_
  have hcc := HC.out
  subst hcc
  refine ⟨_, _, _, rfl, rfl, Tree.nil _ _ _, ?_, ?_⟩
  · show RS w0 P R tp tn tc _ (i + 1) (k + 1)
    repeat' (first | (with_reducible exact HS5.out) | (with_reducible refine RS.oth ?_ PT.out.1 PT.out.2.1 PT.out.2.2 _ _))
  · repeat' (first | (with_reducible exact KS5.out) | (with_reducible refine Two.put ?_ WT.out _ _))

set_option maxRecDepth 100000 in
set_option maxHeartbeats 6400000 in
theorem part_leaf {w0 : World} {P R : Nat} {tp : Option Addr} {tn tc : Nat} {T : List GrL.Tok} (hT : TkAt w0 tp T) (hn : tn = T.length) (ht : TB w0) {Q : Nat → Nat → Cnd → Prop} (hq : Rd w0 P R tp tn tc 63 Q) (w : World) (i j k : Nat) (c : Cnd) (h : RS w0 P R tp tn tc w i k) (hp : LeafN T i j c) (hk : k + c.cnt ≤ 64) :
    Calls Tryd.prog 63 #[.pointer (some ⟨P, 0, none⟩)] w (RdPost w0 P R tp tn tc w j k c) := by
  obtain ⟨hi0, NB1, NB2, NB3⟩ : ∃ hi0 : i < T.length, (((T[i]'hi0).kind : Int) ≠ 3 ∨ strL (T[i]'hi0).text ≠ ⟨#[40]⟩) ∧ (((T[i]'hi0).kind : Int) ≠ 3 ∨ strL (T[i]'hi0).text ≠ ⟨#[126]⟩) ∧ (((T[i]'hi0).kind : Int) ≠ 1 ∨ strL (T[i]'hi0).text ≠ ⟨#[116, 114, 117, 101]⟩) := LeafN.first hp
  have I1 := Lib.hid (fun (U : World) (H : RS w0 P R tp tn tc U (i) (k)) => is_no hT hn U i k H hi0 3 ⟨#[40]⟩ NB1)
  have CO := Lib.hid (fun (U : World) (H : RS w0 P R tp tn tc U i k) => counted_yes U i k H (by have := cnt_pos c; omega))
  have I2 := Lib.hid (fun (U : World) (H : RS w0 P R tp tn tc U (i) (k + 1)) => is_no hT hn U i (k + 1) H hi0 3 ⟨#[126]⟩ NB2)
  have I3 := Lib.hid (fun (U : World) (H : RS w0 P R tp tn tc U (i) (k + 1)) => is_no hT hn U i (k + 1) H hi0 1 ⟨#[116, 114, 117, 101]⟩ NB3)
  have L1 := Lib.hid (fun (U : World) (H : RS w0 P R tp tn tc U (i) (k + 1)) => leaf_any hT hn ht U i j (k + 1) c H hp)
  have HA := Lib.hid hp.args
  have H := Lib.hid h
  clear h hT hn NB1 NB2 NB3 hi0 hk hq hp ht
  go_enter Tryd.func63, Tryd.ntmps63
  go_upto_region 1 with fail
  obtain ⟨pT, hpT⟩ : ∃ b, b = w.heap.size := ⟨_, rfl⟩
  have LT := Lib.hid H.out.lt
  have BS := Lib.hid H.out.base.size
  have PT := Lib.hid (show P ≠ pT ∧ R ≠ pT ∧ w0.heap.size ≤ pT by have := LT.out; have := BS.out; omega)
  have WT := Lib.hid (show w.heap.size ≤ pT by omega)
  have HW := Lib.hid hpT
  have RT0 : Row (w.alloc (.cells #[.int .i64 0, .int .i64 0, .int .i64 0, .int .u64 0, .int .u64 0, .slice none 0 0] 25)) pT [.int .i64 0, .int .i64 0, .int .i64 0, .int .u64 0, .int .u64 0, .slice none 0 0] 25 := Row.new' w [.int .i64 0, .int .i64 0, .int .i64 0, .int .u64 0, .int .u64 0, .slice none 0 0] _ _ hpT.symm
  have KB0 := KB.alloc (Below.refl w.heap.size w) (.cells #[.int .i64 0, .int .i64 0, .int .i64 0, .int .u64 0, .int .u64 0, .slice none 0 0] 25)
  simp only [← hpT]
  refine to_cls ?_
  intro U1 hU1 y1
  have HS1 := Lib.hid (show RS w0 P R tp tn tc y1.at (i) (k) from ((H.out.below KB0).below hU1).below y1.bel)
  have KS1 := Lib.hid (show Two P R w y1.at from (Two.of_below KB0).more (hU1.trans (y1.bel.mono hU1.size)))
  have TR1 := Lib.hid (show Row y1.at pT [.int .i64 0, .int .i64 0, .int .i64 0, .int .u64 0, .int .u64 0, .slice none 0 0] 25 from ((RT0).below hU1).below y1.bel)
  clear hU1
  have o0 := (HS1.out.own).cell 0
  have o2 := (HS1.out.own).cell 2
  simp only [List.getElem?_cons_zero, List.getElem?_cons_succ] at o0 o2
  clear hpT RT0 KB0
  go_upto_region 7 with (go_at_call 64; refine (I1.out _ HS1.out).mono ?_; rintro e w9 ⟨rfl, g⟩; obtain ⟨x9, rfl⟩ := Wb.start g; clear g)
  refine to_cls ?_
  intro U2 hU2 y2
  have HS2 := Lib.hid (show RS w0 P R tp tn tc y2.at (i) (k) from ((HS1.out.below x9.bel).below hU2).below y2.bel)
  have KS2 := Lib.hid (show Two P R w y2.at from (KS1.out.more x9.bel).more (hU2.trans (y2.bel.mono hU2.size)))
  have TR2 := Lib.hid (show Row y2.at pT [.int .i64 0, .int .i64 0, .int .i64 0, .int .u64 0, .int .u64 0, .slice none 0 0] 25 from ((TR1.out.below x9.bel).below hU2).below y2.bel)
  clear o0 o2
  clear hU2
  have o0 := (HS2.out.own).cell 0
  have o2 := (HS2.out.own).cell 2
  simp only [List.getElem?_cons_zero, List.getElem?_cons_succ] at o0 o2
  go_upto_region 8 with (go_at_call 65; refine (CO.out _ HS2.out).mono ?_; rintro e w9 ⟨rfl, g1, g2⟩)
  refine to_cls ?_
  intro U3 hU3 y3
  have HS3 := Lib.hid (show RS w0 P R tp tn tc y3.at (i) (k + 1) from ((g1).below hU3).below y3.bel)
  have KS3 := Lib.hid (show Two P R w y3.at from (KS2.out.trans g2).more (hU3.trans (y3.bel.mono hU3.size)))
  have TR3 := Lib.hid (show Row y3.at pT [.int .i64 0, .int .i64 0, .int .i64 0, .int .u64 0, .int .u64 0, .slice none 0 0] 25 from ((TR2.out.two g2 (Ne.symm PT.out.1) (Ne.symm PT.out.2.1)).below hU3).below y3.bel)
  clear o0 o2
  clear hU3
  have o0 := (HS3.out.own).cell 0
  have o2 := (HS3.out.own).cell 2
  simp only [List.getElem?_cons_zero, List.getElem?_cons_succ] at o0 o2
  clear g1 g2
  go_upto_region 10 with fail
  go_upto_region 12 with (go_at_call 64; refine (I2.out _ HS3.out).mono ?_; rintro e w9 ⟨rfl, g⟩; obtain ⟨x9, rfl⟩ := Wb.start g; clear g)
  refine to_cls ?_
  intro U4 hU4 y4
  have HS4 := Lib.hid (show RS w0 P R tp tn tc y4.at (i) (k + 1) from ((HS3.out.below x9.bel).below hU4).below y4.bel)
  have KS4 := Lib.hid (show Two P R w y4.at from (KS3.out.more x9.bel).more (hU4.trans (y4.bel.mono hU4.size)))
  have TR4 := Lib.hid (show Row y4.at pT [.int .i64 0, .int .i64 0, .int .i64 0, .int .u64 0, .int .u64 0, .slice none 0 0] 25 from ((TR3.out.below x9.bel).below hU4).below y4.bel)
  clear o0 o2
  clear hU4
  have o0 := (HS4.out.own).cell 0
  have o2 := (HS4.out.own).cell 2
  simp only [List.getElem?_cons_zero, List.getElem?_cons_succ] at o0 o2
  go_upto_region 14 with (go_at_call 64; refine (I3.out _ HS4.out).mono ?_; rintro e w9 ⟨rfl, g⟩; obtain ⟨x9, rfl⟩ := Wb.start g; clear g)
  refine to_cls ?_
  intro U5 hU5 y5
  have HS5 := Lib.hid (show RS w0 P R tp tn tc y5.at (i) (k + 1) from ((HS4.out.below x9.bel).below hU5).below y5.bel)
  have KS5 := Lib.hid (show Two P R w y5.at from (KS4.out.more x9.bel).more (hU5.trans (y5.bel.mono hU5.size)))
  have TR5 := Lib.hid (show Row y5.at pT [.int .i64 0, .int .i64 0, .int .i64 0, .int .u64 0, .int .u64 0, .slice none 0 0] 25 from ((TR4.out.below x9.bel).below hU5).below y5.bel)
  clear o0 o2
  clear hU5
  have o0 := (HS5.out.own).cell 0
  have o2 := (HS5.out.own).cell 2
  simp only [List.getElem?_cons_zero, List.getElem?_cons_succ] at o0 o2
  go_wp2_with (go_at_call 75; refine (L1.out _ HS5.out).mono ?_; rintro e5 w5 ⟨rfl, g1, g2⟩; have XT := Lib.hid (show Row w5 pT [.int .i64 0, .int .i64 0, .int .i64 0, .int .u64 0, .int .u64 0, .slice none 0 0] 25 from TR5.out.two g2 (Ne.symm PT.out.1) (Ne.symm PT.out.2.1)); have a0 := XT.out.cell 0; have a1 := XT.out.cell 1; have a2 := XT.out.cell 2; have a3 := XT.out.cell 3; have a4 := XT.out.cell 4; have a5 := XT.out.cell 5; have af := fun i : Nat => XT.out.free i; simp only [List.getElem?_cons_zero, List.getElem?_cons_succ] at a0 a1 a2 a3 a4 a5)
  have R6 := Lib.hid g1
  have K6 := Lib.hid (KS5.out.trans g2)
  clear g1 g2 o0 o2
  refine bodyPost_ret (v := .agg #[.int .i64 c.k, .int .i64 c.co, .int .i64 c.r, .int .u64 c.ad, .int .u64 c.va, .slice none 0 0]) (by simp [results, Tryd.results63, go_sem, *]) rfl ?_
  refine ⟨_, _, _, rfl, by rw [HA.out.1]; rfl, by rw [HA.out.1]; exact Tree.nil _ _ _, ?_, ?_⟩
  · rw [HA.out.2]
    repeat' (first | (with_reducible exact R6.out) | (with_reducible refine RS.oth ?_ PT.out.1 PT.out.2.1 PT.out.2.2 _ _))
  · repeat' (first | (with_reducible exact K6.out) | (with_reducible refine Two.put ?_ WT.out _ _))

theorem part_any {w0 : World} {P R : Nat} {tp : Option Addr} {tn tc : Nat} {T : List GrL.Tok} (hT : TkAt w0 tp T) (hn : tn = T.length) (ht : TB w0) : ∀ n, Rd w0 P R tp tn tc 63 (PartN T n)
  | 0 => fun _ _ _ _ _ _ h _ => h.elim
  | n + 1 => fun w i j k c h hp hk => by
    rcases hp with hp | hp | hp | hp
    · exact part_brk hT hn ht (part_any hT hn ht n) w i j k c h hp hk
    · exact part_not hT hn ht (part_any hT hn ht n) w i j k c h hp hk
    · exact part_true hT hn ht (part_any hT hn ht n) w i j k c h hp hk
    · exact part_leaf hT hn ht (part_any hT hn ht n) w i j k c h hp hk
/-- tokens that are a whole condition -/
def OrN (T : List GrL.Tok) (n : Nat) : Nat → Nat → Cnd → Prop := Chain T [92, 47] 5 (Chain T [47, 92] 4 (PartN T n))
theorem or_any {w0 : World} {P R : Nat} {tp : Option Addr} {tn tc : Nat} {T : List GrL.Tok} (hT : TkAt w0 tp T) (hn : tn = T.length) (ht : TB w0) (n : Nat) : Rd w0 P R tp tn tc 38 (OrN T n) := or_of hT hn (and_of hT hn (part_any hT hn ht n))
end Go.Proofs.YtgpngjgilcbigaaDoor
