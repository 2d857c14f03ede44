/-
  Layer 11, the walks: leaf.
-/
import Derived.Test.YtgpngjgilcbigaaDoorOm
set_option linter.unusedSimpArgs false
set_option linter.unusedVariables false
namespace GrC
open GrP GrL
/-- the i-th token is of this kind and this text -/
def At (T : List GrL.Tok) (i kd : Nat) (tx : Tx) : Prop := ∃ h : i < T.length, (T[i]'h).kind = kd ∧ (T[i]'h).text = tx
end GrC
namespace Go.Proofs.YtgpngjgilcbigaaDoor
open Go.RowKit GrP GrL GrC

set_option maxRecDepth 100000 in
set_option maxHeartbeats 6400000 in
theorem leaf_reg {w0 : World} {P R : Nat} {tp : Option Addr} {tn tc : Nat} {T : List GrL.Tok} (hT : TkAt w0 tp T) (hn : tn = T.length) (w : World) (i k : Nat) (h : RS w0 P R tp tn tc w i k) (ht : TB w0) {a c e : Tx} {co r v : Nat} (ha : At T i 2 a) (hb : At T (i + 1) 3 [58]) (hc : At T (i + 2) 1 c) (hd : At T (i + 3) 3 [61]) (he : At T (i + 4) 2 e) (pa : GrP.parse (strL a) = (co, 0)) (hco : co < 4) (pc : GrA.numberOf c = some r) (hr : r < 31) (pe : GrP.parse (strL e) = (v, 0)) :
    Calls Tryd.prog 75 #[.pointer (some ⟨P, 0, none⟩)] w fun e w' => e = .returned (.agg #[.int .i64 1, .int .i64 (co : Int), .int .i64 (r : Int), .int .u64 0, .int .u64 (v : Int), .slice none 0 0]) ∧ RS w0 P R tp tn tc w' (i + 5) k ∧ Two P R w w' := by
  obtain ⟨hi0, a1, a2⟩ := ha
  obtain ⟨hi1, b1, b2⟩ := hb
  obtain ⟨hi2, c1, c2⟩ := hc
  obtain ⟨hi3, d1, d2⟩ := hd
  obtain ⟨hi4, e1, e2⟩ := he
  have N1 := Lib.hid (fun (U : World) (H : RS w0 P R tp tn tc U (i) k) => is_no hT hn U i k H hi0 1 ⟨#[102, 97, 117, 108, 116, 115]⟩ (.inl (by omega)))
  have N2 := Lib.hid (fun (U : World) (H : RS w0 P R tp tn tc U (i) k) => is_no hT hn U i k H hi0 3 ⟨#[91]⟩ (.inl (by omega)))
  have B1 := Lib.hid (fun (U : World) (H : RS w0 P R tp tn tc U (i) k) => below_yes hT hn U i k H hi0 4 co a1 (by rw [a2]; exact pa) (.inr (by omega)))
  have S1 := Lib.hid (fun (U : World) (H : RS w0 P R tp tn tc U (i + 1) k) => sign_yes hT hn U (i + 1) k H hi1 ⟨#[58]⟩ b1 (by rw [b2]; rfl))
  have R1 := Lib.hid (fun (U : World) (H : RS w0 P R tp tn tc U (i + 2) k) => register_yes hT hn ht U (i + 2) k H hi2 r c1 (by rw [c2]; exact pc) hr)
  have V1 := Lib.hid (fun (U : World) (H : RS w0 P R tp tn tc U (i + 3) k) => value_yes hT hn U (i + 3) k H hi3 hi4 v d1 d2 e1 (by rw [e2]; exact pe))
  have H := Lib.hid h
  have wv : IntKind.i64.wrap (co : Int) = (co : Int) := by rw [IntKind.wrap_i64]; omega
  clear h hT hn a1 a2 b1 b2 c1 c2 d1 d2 e1 e2 hi0 hi1 hi2 hi3 hi4 pa pc pe hco hr ht
  go_enter Tryd.func75, Tryd.ntmps75
  go_upto_region 6 with fail
  obtain ⟨pT, hpT⟩ : ∃ b, b = w.heap.size := ⟨_, rfl⟩
  obtain ⟨pC, hpC⟩ : ∃ b, b = pT + 1 := ⟨_, rfl⟩
  have LT := Lib.hid H.out.lt
  have BS := Lib.hid H.out.base.size
  have PC := Lib.hid (show P ≠ pC ∧ R ≠ pC ∧ w0.heap.size ≤ pC by have := LT.out; have := BS.out; omega)
  have PT := Lib.hid (show P ≠ pT ∧ R ≠ pT ∧ w0.heap.size ≤ pT by have := LT.out; have := BS.out; omega)
  have WC := Lib.hid (show w.heap.size ≤ pC by omega)
  have WT := Lib.hid (show w.heap.size ≤ pT by omega)
  have NE := Lib.hid (show pT ≠ pC by omega)
  have RT0 : Row (w.alloc (.cells #[.int .i64 0, .int .i64 0, .int .i64 0, .int .u64 0, .int .u64 0, .slice none 0 0] 25)) pT [.int .i64 0, .int .i64 0, .int .i64 0, .int .u64 0, .int .u64 0, .slice none 0 0] 25 := Row.new' w [.int .i64 0, .int .i64 0, .int .i64 0, .int .u64 0, .int .u64 0, .slice none 0 0] _ _ hpT.symm
  have RC0 : Row ((w.alloc (.cells #[.int .i64 0, .int .i64 0, .int .i64 0, .int .u64 0, .int .u64 0, .slice none 0 0] 25)).alloc (.cells #[.int .i64 0, .int .i64 0, .int .i64 0, .int .u64 0, .int .u64 0, .slice none 0 0] 25)) pC [.int .i64 0, .int .i64 0, .int .i64 0, .int .u64 0, .int .u64 0, .slice none 0 0] 25 := Row.new' _ [.int .i64 0, .int .i64 0, .int .i64 0, .int .u64 0, .int .u64 0, .slice none 0 0] _ _ (by simp; omega)
  have KB0 := KB.alloc (KB.alloc (Below.refl w.heap.size w) (.cells #[.int .i64 0, .int .i64 0, .int .i64 0, .int .u64 0, .int .u64 0, .slice none 0 0] 25)) (.cells #[.int .i64 0, .int .i64 0, .int .i64 0, .int .u64 0, .int .u64 0, .slice none 0 0] 25)
  simp only [show ((w.alloc (.cells #[.int .i64 0, .int .i64 0, .int .i64 0, .int .u64 0, .int .u64 0, .slice none 0 0] 25)).heap.size) = pC by simp; omega, ← hpT, ← hpC]
  refine to_cls ?_
  intro U1 hU1 y1
  have HS1 := Lib.hid (show RS w0 P R tp tn tc y1.at (i) k from ((H.out.below KB0).below hU1).below y1.bel)
  have KS1 := Lib.hid (show Two P R w y1.at from (Two.of_below KB0).more (hU1.trans (y1.bel.mono hU1.size)))
  have CR1 := Lib.hid (show Row y1.at pC [.int .i64 0, .int .i64 0, .int .i64 0, .int .u64 0, .int .u64 0, .slice none 0 0] 25 from ((RC0).below hU1).below y1.bel)
  have TR1 := Lib.hid (show Row y1.at pT [.int .i64 0, .int .i64 0, .int .i64 0, .int .u64 0, .int .u64 0, .slice none 0 0] 25 from ((RT0.old _).below hU1).below y1.bel)
  clear hU1
  have o0 := (HS1.out.own).cell 0
  have o2 := (HS1.out.own).cell 2
  simp only [List.getElem?_cons_zero, List.getElem?_cons_succ] at o0 o2
  have c0 := (CR1.out).cell 0
  have c1 := (CR1.out).cell 1
  have c2 := (CR1.out).cell 2
  have c3 := (CR1.out).cell 3
  have c4 := (CR1.out).cell 4
  have c5 := (CR1.out).cell 5
  have cf := fun i : Nat => (CR1.out).free i
  simp only [List.getElem?_cons_zero, List.getElem?_cons_succ] at c0 c1 c2 c3 c4 c5
  clear hpT hpC RT0 RC0 KB0
  go_upto_region 9 with (go_at_call 64; refine (N1.out _ HS1.out).mono ?_; rintro e w9 ⟨rfl, g⟩; obtain ⟨x9, rfl⟩ := Wb.start g; clear g)
  refine to_cls ?_
  intro U2 hU2 y2
  have HS2 := Lib.hid (show RS w0 P R tp tn tc y2.at (i) k from ((HS1.out.below x9.bel).below hU2).below y2.bel)
  have KS2 := Lib.hid (show Two P R w y2.at from (KS1.out.more x9.bel).more (hU2.trans (y2.bel.mono hU2.size)))
  have CR2 := Lib.hid (show Row y2.at pC [.int .i64 0, .int .i64 0, .int .i64 0, .int .u64 0, .int .u64 0, .slice none 0 0] 25 from ((CR1.out.below x9.bel).below hU2).below y2.bel)
  have TR2 := Lib.hid (show Row y2.at pT [.int .i64 0, .int .i64 0, .int .i64 0, .int .u64 0, .int .u64 0, .slice none 0 0] 25 from ((TR1.out.below x9.bel).below hU2).below y2.bel)
  clear o0 o2 c0 c1 c2 c3 c4 c5 cf
  clear hU2
  have o0 := (HS2.out.own).cell 0
  have o2 := (HS2.out.own).cell 2
  simp only [List.getElem?_cons_zero, List.getElem?_cons_succ] at o0 o2
  have c0 := (CR2.out).cell 0
  have c1 := (CR2.out).cell 1
  have c2 := (CR2.out).cell 2
  have c3 := (CR2.out).cell 3
  have c4 := (CR2.out).cell 4
  have c5 := (CR2.out).cell 5
  have cf := fun i : Nat => (CR2.out).free i
  simp only [List.getElem?_cons_zero, List.getElem?_cons_succ] at c0 c1 c2 c3 c4 c5
  go_upto_region 2 with (go_at_call 64; refine (N2.out _ HS2.out).mono ?_; rintro e w9 ⟨rfl, g⟩; obtain ⟨x9, rfl⟩ := Wb.start g; clear g)
  refine to_cls ?_
  intro U3 hU3 y3
  have HS3 := Lib.hid (show RS w0 P R tp tn tc y3.at (i) k from ((HS2.out.below x9.bel).below hU3).below y3.bel)
  have KS3 := Lib.hid (show Two P R w y3.at from (KS2.out.more x9.bel).more (hU3.trans (y3.bel.mono hU3.size)))
  have CR3 := Lib.hid (show Row y3.at pC [.int .i64 0, .int .i64 0, .int .i64 0, .int .u64 0, .int .u64 0, .slice none 0 0] 25 from ((CR2.out.below x9.bel).below hU3).below y3.bel)
  have TR3 := Lib.hid (show Row y3.at pT [.int .i64 0, .int .i64 0, .int .i64 0, .int .u64 0, .int .u64 0, .slice none 0 0] 25 from ((TR2.out.below x9.bel).below hU3).below y3.bel)
  clear o0 o2 c0 c1 c2 c3 c4 c5 cf
  clear hU3
  have o0 := (HS3.out.own).cell 0
  have o2 := (HS3.out.own).cell 2
  simp only [List.getElem?_cons_zero, List.getElem?_cons_succ] at o0 o2
  have c0 := (CR3.out).cell 0
  have c1 := (CR3.out).cell 1
  have c2 := (CR3.out).cell 2
  have c3 := (CR3.out).cell 3
  have c4 := (CR3.out).cell 4
  have c5 := (CR3.out).cell 5
  have cf := fun i : Nat => (CR3.out).free i
  simp only [List.getElem?_cons_zero, List.getElem?_cons_succ] at c0 c1 c2 c3 c4 c5
  go_upto_region 3 with fail
  refine to_cls ?_
  intro U4 hU4 y4
  have HS4 := Lib.hid (show RS w0 P R tp tn tc y4.at (i) k from ((HS3.out.oth PC.out.1 PC.out.2.1 PC.out.2.2 _ _).below hU4).below y4.bel)
  have KS4 := Lib.hid (show Two P R w y4.at from (KS3.out.put WC.out _ _).more (hU4.trans (y4.bel.mono hU4.size)))
  have CR4 := Lib.hid (show Row y4.at pC [.int .i64 1, .int .i64 0, .int .i64 0, .int .u64 0, .int .u64 0, .slice none 0 0] 25 from ((CR3.out.set 0 _).below hU4).below y4.bel)
  have TR4 := Lib.hid (show Row y4.at pT [.int .i64 0, .int .i64 0, .int .i64 0, .int .u64 0, .int .u64 0, .slice none 0 0] 25 from ((TR3.out.oth NE.out _ _).below hU4).below y4.bel)
  clear o0 o2 c0 c1 c2 c3 c4 c5 cf
  clear hU4
  have o0 := (HS4.out.own).cell 0
  have o2 := (HS4.out.own).cell 2
  simp only [List.getElem?_cons_zero, List.getElem?_cons_succ] at o0 o2
  have c0 := (CR4.out).cell 0
  have c1 := (CR4.out).cell 1
  have c2 := (CR4.out).cell 2
  have c3 := (CR4.out).cell 3
  have c4 := (CR4.out).cell 4
  have c5 := (CR4.out).cell 5
  have cf := fun i : Nat => (CR4.out).free i
  simp only [List.getElem?_cons_zero, List.getElem?_cons_succ] at c0 c1 c2 c3 c4 c5
  go_upto_region 4 with (go_at_call 83; refine (B1.out _ HS4.out).mono ?_; rintro e w9 ⟨rfl, g1, g2⟩; have CX := Lib.hid (CR4.out.two g2 (Ne.symm PC.out.1) (Ne.symm PC.out.2.1)); have TX := Lib.hid (TR4.out.two g2 (Ne.symm PT.out.1) (Ne.symm PT.out.2.1)); have d0 := CX.out.cell 1; have df := fun i : Nat => CX.out.free i; simp only [List.getElem?_cons_zero, List.getElem?_cons_succ] at d0)
  have G1 := Lib.hid g1
  have G2 := Lib.hid g2
  clear g1 g2
  refine to_cls ?_
  intro U5 hU5 y5
  have HS5 := Lib.hid (show RS w0 P R tp tn tc y5.at (i + 1) k from ((G1.out.oth PC.out.1 PC.out.2.1 PC.out.2.2 _ _).below hU5).below y5.bel)
  have KS5 := Lib.hid (show Two P R w y5.at from ((KS4.out.trans G2.out).put WC.out _ _).more (hU5.trans (y5.bel.mono hU5.size)))
  have CR5 := Lib.hid (show Row y5.at pC [.int .i64 1, .int .i64 (co : Int), .int .i64 0, .int .u64 0, .int .u64 0, .slice none 0 0] 25 from ((CX.out.set 1 _).below hU5).below y5.bel)
  have TR5 := Lib.hid (show Row y5.at pT [.int .i64 0, .int .i64 0, .int .i64 0, .int .u64 0, .int .u64 0, .slice none 0 0] 25 from ((TX.out.oth NE.out _ _).below hU5).below y5.bel)
  clear o0 o2 c0 c1 c2 c3 c4 c5 cf
  clear hU5
  have o0 := (HS5.out.own).cell 0
  have o2 := (HS5.out.own).cell 2
  simp only [List.getElem?_cons_zero, List.getElem?_cons_succ] at o0 o2
  have c0 := (CR5.out).cell 0
  have c1 := (CR5.out).cell 1
  have c2 := (CR5.out).cell 2
  have c3 := (CR5.out).cell 3
  have c4 := (CR5.out).cell 4
  have c5 := (CR5.out).cell 5
  have cf := fun i : Nat => (CR5.out).free i
  simp only [List.getElem?_cons_zero, List.getElem?_cons_succ] at c0 c1 c2 c3 c4 c5
  clear d0 df CX TX G1 G2
  go_upto_region 5 with (go_at_call 74; refine (S1.out _ HS5.out).mono ?_; rintro e w9 ⟨rfl, g1, g2⟩)
  refine to_cls ?_
  intro U6 hU6 y6
  have HS6 := Lib.hid (show RS w0 P R tp tn tc y6.at (i + 2) k from ((g1).below hU6).below y6.bel)
  have KS6 := Lib.hid (show Two P R w y6.at from (KS5.out.trans g2).more (hU6.trans (y6.bel.mono hU6.size)))
  have CR6 := Lib.hid (show Row y6.at pC [.int .i64 1, .int .i64 (co : Int), .int .i64 0, .int .u64 0, .int .u64 0, .slice none 0 0] 25 from ((CR5.out.two g2 (Ne.symm PC.out.1) (Ne.symm PC.out.2.1)).below hU6).below y6.bel)
  have TR6 := Lib.hid (show Row y6.at pT [.int .i64 0, .int .i64 0, .int .i64 0, .int .u64 0, .int .u64 0, .slice none 0 0] 25 from ((TR5.out.two g2 (Ne.symm PT.out.1) (Ne.symm PT.out.2.1)).below hU6).below y6.bel)
  clear o0 o2 c0 c1 c2 c3 c4 c5 cf
  clear hU6
  have o0 := (HS6.out.own).cell 0
  have o2 := (HS6.out.own).cell 2
  simp only [List.getElem?_cons_zero, List.getElem?_cons_succ] at o0 o2
  have c0 := (CR6.out).cell 0
  have c1 := (CR6.out).cell 1
  have c2 := (CR6.out).cell 2
  have c3 := (CR6.out).cell 3
  have c4 := (CR6.out).cell 4
  have c5 := (CR6.out).cell 5
  have cf := fun i : Nat => (CR6.out).free i
  simp only [List.getElem?_cons_zero, List.getElem?_cons_succ] at c0 c1 c2 c3 c4 c5
  clear g1 g2
  go_upto_region 13 with (go_at_call 84; refine (R1.out _ HS6.out).mono ?_; rintro e w9 ⟨rfl, g1, g2⟩; have CX := Lib.hid (CR6.out.two g2 (Ne.symm PC.out.1) (Ne.symm PC.out.2.1)); have TX := Lib.hid (TR6.out.two g2 (Ne.symm PT.out.1) (Ne.symm PT.out.2.1)); have d0 := CX.out.cell 2; have df := fun i : Nat => CX.out.free i; simp only [List.getElem?_cons_zero, List.getElem?_cons_succ] at d0)
  have G1 := Lib.hid g1
  have G2 := Lib.hid g2
  clear g1 g2
  refine to_cls ?_
  intro U7 hU7 y7
  have HS7 := Lib.hid (show RS w0 P R tp tn tc y7.at (i + 3) k from ((G1.out.oth PC.out.1 PC.out.2.1 PC.out.2.2 _ _).below hU7).below y7.bel)
  have KS7 := Lib.hid (show Two P R w y7.at from ((KS6.out.trans G2.out).put WC.out _ _).more (hU7.trans (y7.bel.mono hU7.size)))
  have CR7 := Lib.hid (show Row y7.at pC [.int .i64 1, .int .i64 (co : Int), .int .i64 (r : Int), .int .u64 0, .int .u64 0, .slice none 0 0] 25 from ((CX.out.set 2 _).below hU7).below y7.bel)
  have TR7 := Lib.hid (show Row y7.at pT [.int .i64 0, .int .i64 0, .int .i64 0, .int .u64 0, .int .u64 0, .slice none 0 0] 25 from ((TX.out.oth NE.out _ _).below hU7).below y7.bel)
  clear o0 o2 c0 c1 c2 c3 c4 c5 cf
  clear hU7
  have o0 := (HS7.out.own).cell 0
  have o2 := (HS7.out.own).cell 2
  simp only [List.getElem?_cons_zero, List.getElem?_cons_succ] at o0 o2
  have c0 := (CR7.out).cell 0
  have c1 := (CR7.out).cell 1
  have c2 := (CR7.out).cell 2
  have c3 := (CR7.out).cell 3
  have c4 := (CR7.out).cell 4
  have c5 := (CR7.out).cell 5
  have cf := fun i : Nat => (CR7.out).free i
  simp only [List.getElem?_cons_zero, List.getElem?_cons_succ] at c0 c1 c2 c3 c4 c5
  clear d0 df CX TX G1 G2
  go_upto_region 14 with (go_at_call 85; refine (V1.out _ HS7.out).mono ?_; rintro e w9 ⟨rfl, g1, g2⟩; have CX := Lib.hid (CR7.out.two g2 (Ne.symm PC.out.1) (Ne.symm PC.out.2.1)); have TX := Lib.hid (TR7.out.two g2 (Ne.symm PT.out.1) (Ne.symm PT.out.2.1)); have d0 := CX.out.cell 4; have df := fun i : Nat => CX.out.free i; simp only [List.getElem?_cons_zero, List.getElem?_cons_succ] at d0)
  have G1 := Lib.hid g1
  have G2 := Lib.hid g2
  clear g1 g2
  refine to_cls ?_
  intro U8 hU8 y8
  have HS8 := Lib.hid (show RS w0 P R tp tn tc y8.at (i + 5) k from ((G1.out.oth PC.out.1 PC.out.2.1 PC.out.2.2 _ _).below hU8).below y8.bel)
  have KS8 := Lib.hid (show Two P R w y8.at from ((KS7.out.trans G2.out).put WC.out _ _).more (hU8.trans (y8.bel.mono hU8.size)))
  have CR8 := Lib.hid (show Row y8.at pC [.int .i64 1, .int .i64 (co : Int), .int .i64 (r : Int), .int .u64 0, .int .u64 (v : Int), .slice none 0 0] 25 from ((CX.out.set 4 _).below hU8).below y8.bel)
  have TR8 := Lib.hid (show Row y8.at pT [.int .i64 0, .int .i64 0, .int .i64 0, .int .u64 0, .int .u64 0, .slice none 0 0] 25 from ((TX.out.oth NE.out _ _).below hU8).below y8.bel)
  clear o0 o2 c0 c1 c2 c3 c4 c5 cf
  clear hU8
  have o0 := (HS8.out.own).cell 0
  have o2 := (HS8.out.own).cell 2
  simp only [List.getElem?_cons_zero, List.getElem?_cons_succ] at o0 o2
  have c0 := (CR8.out).cell 0
  have c1 := (CR8.out).cell 1
  have c2 := (CR8.out).cell 2
  have c3 := (CR8.out).cell 3
  have c4 := (CR8.out).cell 4
  have c5 := (CR8.out).cell 5
  have cf := fun i : Nat => (CR8.out).free i
  simp only [List.getElem?_cons_zero, List.getElem?_cons_succ] at c0 c1 c2 c3 c4 c5
  clear d0 df CX TX G1 G2
  have t0 := (TR8.out).cell 0
  have t1 := (TR8.out).cell 1
  have t2 := (TR8.out).cell 2
  have t3 := (TR8.out).cell 3
  have t4 := (TR8.out).cell 4
  have t5 := (TR8.out).cell 5
  have tf := fun i : Nat => (TR8.out).free i
  simp only [List.getElem?_cons_zero, List.getElem?_cons_succ] at t0 t1 t2 t3 t4 t5
  go_wp2
  refine bodyPost_ret (v := .agg #[.int .i64 1, .int .i64 (co : Int), .int .i64 (r : Int), .int .u64 0, .int .u64 (v : Int), .slice none 0 0]) (by simp [results, Tryd.results75, go_sem, *]) rfl ?_
  refine ⟨rfl, ?_, ?_⟩
  · repeat' (first | (with_reducible exact HS8.out) | (with_reducible refine RS.oth ?_ PT.out.1 PT.out.2.1 PT.out.2.2 _ _))
  · repeat' (first | (with_reducible exact KS8.out) | (with_reducible refine Two.put ?_ WT.out _ _))

set_option maxRecDepth 100000 in
set_option maxHeartbeats 6400000 in
theorem leaf_cell {w0 : World} {P R : Nat} {tp : Option Addr} {tn tc : Nat} {T : List GrL.Tok} (hT : TkAt w0 tp T) (hn : tn = T.length) (w : World) (i k : Nat) (h : RS w0 P R tp tn tc w i k) {b e : Tx} {ad v : Nat} (ha : At T i 3 [91]) (hb : At T (i + 1) 2 b) (hc : At T (i + 2) 3 [93]) (hd : At T (i + 3) 3 [61]) (he : At T (i + 4) 2 e) (pb : GrP.parse (strL b) = (ad, 0)) (pe : GrP.parse (strL e) = (v, 0)) :
    Calls Tryd.prog 75 #[.pointer (some ⟨P, 0, none⟩)] w fun e w' => e = .returned (.agg #[.int .i64 2, .int .i64 0, .int .i64 0, .int .u64 (ad : Int), .int .u64 (v : Int), .slice none 0 0]) ∧ RS w0 P R tp tn tc w' (i + 5) k ∧ Two P R w w' := by
  obtain ⟨hi0, a1, a2⟩ := ha
  obtain ⟨hi1, b1, b2⟩ := hb
  obtain ⟨hi2, c1, c2⟩ := hc
  obtain ⟨hi3, d1, d2⟩ := hd
  obtain ⟨hi4, e1, e2⟩ := he
  have N1 := Lib.hid (fun (U : World) (H : RS w0 P R tp tn tc U (i) k) => is_no hT hn U i k H hi0 1 ⟨#[102, 97, 117, 108, 116, 115]⟩ (.inl (by omega)))
  have N2 := Lib.hid (fun (U : World) (H : RS w0 P R tp tn tc U (i) k) => is_yes hT hn U i k H hi0 3 ⟨#[91]⟩ (by rw [a1]; rfl) (by rw [a2]; rfl) (by decide))
  have B1 := Lib.hid (fun (U : World) (H : RS w0 P R tp tn tc U (i + 1) k) => below_yes hT hn U (i + 1) k H hi1 0 ad b1 (by rw [b2]; exact pb) (.inl rfl))
  have S1 := Lib.hid (fun (U : World) (H : RS w0 P R tp tn tc U (i + 2) k) => sign_yes hT hn U (i + 2) k H hi2 ⟨#[93]⟩ c1 (by rw [c2]; rfl))
  have V1 := Lib.hid (fun (U : World) (H : RS w0 P R tp tn tc U (i + 3) k) => value_yes hT hn U (i + 3) k H hi3 hi4 v d1 d2 e1 (by rw [e2]; exact pe))
  have H := Lib.hid h
  clear h hT hn a1 a2 b1 b2 c1 c2 d1 d2 e1 e2 hi0 hi1 hi2 hi3 hi4 pb pe
  go_enter Tryd.func75, Tryd.ntmps75
  go_upto_region 6 with fail
  obtain ⟨pT, hpT⟩ : ∃ b, b = w.heap.size := ⟨_, rfl⟩
  obtain ⟨pC, hpC⟩ : ∃ b, b = pT + 1 := ⟨_, rfl⟩
  have LT := Lib.hid H.out.lt
  have BS := Lib.hid H.out.base.size
  have PC := Lib.hid (show P ≠ pC ∧ R ≠ pC ∧ w0.heap.size ≤ pC by have := LT.out; have := BS.out; omega)
  have PT := Lib.hid (show P ≠ pT ∧ R ≠ pT ∧ w0.heap.size ≤ pT by have := LT.out; have := BS.out; omega)
  have WC := Lib.hid (show w.heap.size ≤ pC by omega)
  have WT := Lib.hid (show w.heap.size ≤ pT by omega)
  have NE := Lib.hid (show pT ≠ pC by omega)
  have RT0 : Row (w.alloc (.cells #[.int .i64 0, .int .i64 0, .int .i64 0, .int .u64 0, .int .u64 0, .slice none 0 0] 25)) pT [.int .i64 0, .int .i64 0, .int .i64 0, .int .u64 0, .int .u64 0, .slice none 0 0] 25 := Row.new' w [.int .i64 0, .int .i64 0, .int .i64 0, .int .u64 0, .int .u64 0, .slice none 0 0] _ _ hpT.symm
  have RC0 : Row ((w.alloc (.cells #[.int .i64 0, .int .i64 0, .int .i64 0, .int .u64 0, .int .u64 0, .slice none 0 0] 25)).alloc (.cells #[.int .i64 0, .int .i64 0, .int .i64 0, .int .u64 0, .int .u64 0, .slice none 0 0] 25)) pC [.int .i64 0, .int .i64 0, .int .i64 0, .int .u64 0, .int .u64 0, .slice none 0 0] 25 := Row.new' _ [.int .i64 0, .int .i64 0, .int .i64 0, .int .u64 0, .int .u64 0, .slice none 0 0] _ _ (by simp; omega)
  have KB0 := KB.alloc (KB.alloc (Below.refl w.heap.size w) (.cells #[.int .i64 0, .int .i64 0, .int .i64 0, .int .u64 0, .int .u64 0, .slice none 0 0] 25)) (.cells #[.int .i64 0, .int .i64 0, .int .i64 0, .int .u64 0, .int .u64 0, .slice none 0 0] 25)
  simp only [show ((w.alloc (.cells #[.int .i64 0, .int .i64 0, .int .i64 0, .int .u64 0, .int .u64 0, .slice none 0 0] 25)).heap.size) = pC by simp; omega, ← hpT, ← hpC]
  refine to_cls ?_
  intro U1 hU1 y1
  have HS1 := Lib.hid (show RS w0 P R tp tn tc y1.at (i) k from ((H.out.below KB0).below hU1).below y1.bel)
  have KS1 := Lib.hid (show Two P R w y1.at from (Two.of_below KB0).more (hU1.trans (y1.bel.mono hU1.size)))
  have CR1 := Lib.hid (show Row y1.at pC [.int .i64 0, .int .i64 0, .int .i64 0, .int .u64 0, .int .u64 0, .slice none 0 0] 25 from ((RC0).below hU1).below y1.bel)
  have TR1 := Lib.hid (show Row y1.at pT [.int .i64 0, .int .i64 0, .int .i64 0, .int .u64 0, .int .u64 0, .slice none 0 0] 25 from ((RT0.old _).below hU1).below y1.bel)
  clear hU1
  have o0 := (HS1.out.own).cell 0
  have o2 := (HS1.out.own).cell 2
  simp only [List.getElem?_cons_zero, List.getElem?_cons_succ] at o0 o2
  have c0 := (CR1.out).cell 0
  have c1 := (CR1.out).cell 1
  have c2 := (CR1.out).cell 2
  have c3 := (CR1.out).cell 3
  have c4 := (CR1.out).cell 4
  have c5 := (CR1.out).cell 5
  have cf := fun i : Nat => (CR1.out).free i
  simp only [List.getElem?_cons_zero, List.getElem?_cons_succ] at c0 c1 c2 c3 c4 c5
  clear hpT hpC RT0 RC0 KB0
  go_upto_region 9 with (go_at_call 64; refine (N1.out _ HS1.out).mono ?_; rintro e w9 ⟨rfl, g⟩; obtain ⟨x9, rfl⟩ := Wb.start g; clear g)
  refine to_cls ?_
  intro U2 hU2 y2
  have HS2 := Lib.hid (show RS w0 P R tp tn tc y2.at (i) k from ((HS1.out.below x9.bel).below hU2).below y2.bel)
  have KS2 := Lib.hid (show Two P R w y2.at from (KS1.out.more x9.bel).more (hU2.trans (y2.bel.mono hU2.size)))
  have CR2 := Lib.hid (show Row y2.at pC [.int .i64 0, .int .i64 0, .int .i64 0, .int .u64 0, .int .u64 0, .slice none 0 0] 25 from ((CR1.out.below x9.bel).below hU2).below y2.bel)
  have TR2 := Lib.hid (show Row y2.at pT [.int .i64 0, .int .i64 0, .int .i64 0, .int .u64 0, .int .u64 0, .slice none 0 0] 25 from ((TR1.out.below x9.bel).below hU2).below y2.bel)
  clear o0 o2 c0 c1 c2 c3 c4 c5 cf
  clear hU2
  have o0 := (HS2.out.own).cell 0
  have o2 := (HS2.out.own).cell 2
  simp only [List.getElem?_cons_zero, List.getElem?_cons_succ] at o0 o2
  have c0 := (CR2.out).cell 0
  have c1 := (CR2.out).cell 1
  have c2 := (CR2.out).cell 2
  have c3 := (CR2.out).cell 3
  have c4 := (CR2.out).cell 4
  have c5 := (CR2.out).cell 5
  have cf := fun i : Nat => (CR2.out).free i
  simp only [List.getElem?_cons_zero, List.getElem?_cons_succ] at c0 c1 c2 c3 c4 c5
  go_upto_region 10 with (go_at_call 64; refine (N2.out _ HS2.out).mono ?_; rintro e w9 ⟨rfl, g1, g2⟩)
  refine to_cls ?_
  intro U3 hU3 y3
  have HS3 := Lib.hid (show RS w0 P R tp tn tc y3.at (i + 1) k from ((g1).below hU3).below y3.bel)
  have KS3 := Lib.hid (show Two P R w y3.at from (KS2.out.trans g2).more (hU3.trans (y3.bel.mono hU3.size)))
  have CR3 := Lib.hid (show Row y3.at pC [.int .i64 0, .int .i64 0, .int .i64 0, .int .u64 0, .int .u64 0, .slice none 0 0] 25 from ((CR2.out.two g2 (Ne.symm PC.out.1) (Ne.symm PC.out.2.1)).below hU3).below y3.bel)
  have TR3 := Lib.hid (show Row y3.at pT [.int .i64 0, .int .i64 0, .int .i64 0, .int .u64 0, .int .u64 0, .slice none 0 0] 25 from ((TR2.out.two g2 (Ne.symm PT.out.1) (Ne.symm PT.out.2.1)).below hU3).below y3.bel)
  clear o0 o2 c0 c1 c2 c3 c4 c5 cf
  clear hU3
  have o0 := (HS3.out.own).cell 0
  have o2 := (HS3.out.own).cell 2
  simp only [List.getElem?_cons_zero, List.getElem?_cons_succ] at o0 o2
  have c0 := (CR3.out).cell 0
  have c1 := (CR3.out).cell 1
  have c2 := (CR3.out).cell 2
  have c3 := (CR3.out).cell 3
  have c4 := (CR3.out).cell 4
  have c5 := (CR3.out).cell 5
  have cf := fun i : Nat => (CR3.out).free i
  simp only [List.getElem?_cons_zero, List.getElem?_cons_succ] at c0 c1 c2 c3 c4 c5
  clear g1 g2
  go_upto_region 11 with fail
  refine to_cls ?_
  intro U4 hU4 y4
  have HS4 := Lib.hid (show RS w0 P R tp tn tc y4.at (i + 1) k from ((HS3.out.oth PC.out.1 PC.out.2.1 PC.out.2.2 _ _).below hU4).below y4.bel)
  have KS4 := Lib.hid (show Two P R w y4.at from (KS3.out.put WC.out _ _).more (hU4.trans (y4.bel.mono hU4.size)))
  have CR4 := Lib.hid (show Row y4.at pC [.int .i64 2, .int .i64 0, .int .i64 0, .int .u64 0, .int .u64 0, .slice none 0 0] 25 from ((CR3.out.set 0 _).below hU4).below y4.bel)
  have TR4 := Lib.hid (show Row y4.at pT [.int .i64 0, .int .i64 0, .int .i64 0, .int .u64 0, .int .u64 0, .slice none 0 0] 25 from ((TR3.out.oth NE.out _ _).below hU4).below y4.bel)
  clear o0 o2 c0 c1 c2 c3 c4 c5 cf
  clear hU4
  have o0 := (HS4.out.own).cell 0
  have o2 := (HS4.out.own).cell 2
  simp only [List.getElem?_cons_zero, List.getElem?_cons_succ] at o0 o2
  have c0 := (CR4.out).cell 0
  have c1 := (CR4.out).cell 1
  have c2 := (CR4.out).cell 2
  have c3 := (CR4.out).cell 3
  have c4 := (CR4.out).cell 4
  have c5 := (CR4.out).cell 5
  have cf := fun i : Nat => (CR4.out).free i
  simp only [List.getElem?_cons_zero, List.getElem?_cons_succ] at c0 c1 c2 c3 c4 c5
  go_upto_region 12 with (go_at_call 83; refine (B1.out _ HS4.out).mono ?_; rintro e w9 ⟨rfl, g1, g2⟩; have CX := Lib.hid (CR4.out.two g2 (Ne.symm PC.out.1) (Ne.symm PC.out.2.1)); have TX := Lib.hid (TR4.out.two g2 (Ne.symm PT.out.1) (Ne.symm PT.out.2.1)); have d0 := CX.out.cell 3; have df := fun i : Nat => CX.out.free i; simp only [List.getElem?_cons_zero, List.getElem?_cons_succ] at d0)
  have G1 := Lib.hid g1
  have G2 := Lib.hid g2
  clear g1 g2
  refine to_cls ?_
  intro U5 hU5 y5
  have HS5 := Lib.hid (show RS w0 P R tp tn tc y5.at (i + 2) k from ((G1.out.oth PC.out.1 PC.out.2.1 PC.out.2.2 _ _).below hU5).below y5.bel)
  have KS5 := Lib.hid (show Two P R w y5.at from ((KS4.out.trans G2.out).put WC.out _ _).more (hU5.trans (y5.bel.mono hU5.size)))
  have CR5 := Lib.hid (show Row y5.at pC [.int .i64 2, .int .i64 0, .int .i64 0, .int .u64 (ad : Int), .int .u64 0, .slice none 0 0] 25 from ((CX.out.set 3 _).below hU5).below y5.bel)
  have TR5 := Lib.hid (show Row y5.at pT [.int .i64 0, .int .i64 0, .int .i64 0, .int .u64 0, .int .u64 0, .slice none 0 0] 25 from ((TX.out.oth NE.out _ _).below hU5).below y5.bel)
  clear o0 o2 c0 c1 c2 c3 c4 c5 cf
  clear hU5
  have o0 := (HS5.out.own).cell 0
  have o2 := (HS5.out.own).cell 2
  simp only [List.getElem?_cons_zero, List.getElem?_cons_succ] at o0 o2
  have c0 := (CR5.out).cell 0
  have c1 := (CR5.out).cell 1
  have c2 := (CR5.out).cell 2
  have c3 := (CR5.out).cell 3
  have c4 := (CR5.out).cell 4
  have c5 := (CR5.out).cell 5
  have cf := fun i : Nat => (CR5.out).free i
  simp only [List.getElem?_cons_zero, List.getElem?_cons_succ] at c0 c1 c2 c3 c4 c5
  clear d0 df CX TX G1 G2
  go_upto_region 13 with (go_at_call 74; refine (S1.out _ HS5.out).mono ?_; rintro e w9 ⟨rfl, g1, g2⟩)
  refine to_cls ?_
  intro U6 hU6 y6
  have HS6 := Lib.hid (show RS w0 P R tp tn tc y6.at (i + 3) k from ((g1).below hU6).below y6.bel)
  have KS6 := Lib.hid (show Two P R w y6.at from (KS5.out.trans g2).more (hU6.trans (y6.bel.mono hU6.size)))
  have CR6 := Lib.hid (show Row y6.at pC [.int .i64 2, .int .i64 0, .int .i64 0, .int .u64 (ad : Int), .int .u64 0, .slice none 0 0] 25 from ((CR5.out.two g2 (Ne.symm PC.out.1) (Ne.symm PC.out.2.1)).below hU6).below y6.bel)
  have TR6 := Lib.hid (show Row y6.at pT [.int .i64 0, .int .i64 0, .int .i64 0, .int .u64 0, .int .u64 0, .slice none 0 0] 25 from ((TR5.out.two g2 (Ne.symm PT.out.1) (Ne.symm PT.out.2.1)).below hU6).below y6.bel)
  clear o0 o2 c0 c1 c2 c3 c4 c5 cf
  clear hU6
  have o0 := (HS6.out.own).cell 0
  have o2 := (HS6.out.own).cell 2
  simp only [List.getElem?_cons_zero, List.getElem?_cons_succ] at o0 o2
  have c0 := (CR6.out).cell 0
  have c1 := (CR6.out).cell 1
  have c2 := (CR6.out).cell 2
  have c3 := (CR6.out).cell 3
  have c4 := (CR6.out).cell 4
  have c5 := (CR6.out).cell 5
  have cf := fun i : Nat => (CR6.out).free i
  simp only [List.getElem?_cons_zero, List.getElem?_cons_succ] at c0 c1 c2 c3 c4 c5
  clear g1 g2
  go_upto_region 14 with (go_at_call 85; refine (V1.out _ HS6.out).mono ?_; rintro e w9 ⟨rfl, g1, g2⟩; have CX := Lib.hid (CR6.out.two g2 (Ne.symm PC.out.1) (Ne.symm PC.out.2.1)); have TX := Lib.hid (TR6.out.two g2 (Ne.symm PT.out.1) (Ne.symm PT.out.2.1)); have d0 := CX.out.cell 4; have df := fun i : Nat => CX.out.free i; simp only [List.getElem?_cons_zero, List.getElem?_cons_succ] at d0)
  have G1 := Lib.hid g1
  have G2 := Lib.hid g2
  clear g1 g2
  refine to_cls ?_
  intro U7 hU7 y7
  have HS7 := Lib.hid (show RS w0 P R tp tn tc y7.at (i + 5) k from ((G1.out.oth PC.out.1 PC.out.2.1 PC.out.2.2 _ _).below hU7).below y7.bel)
  have KS7 := Lib.hid (show Two P R w y7.at from ((KS6.out.trans G2.out).put WC.out _ _).more (hU7.trans (y7.bel.mono hU7.size)))
  have CR7 := Lib.hid (show Row y7.at pC [.int .i64 2, .int .i64 0, .int .i64 0, .int .u64 (ad : Int), .int .u64 (v : Int), .slice none 0 0] 25 from ((CX.out.set 4 _).below hU7).below y7.bel)
  have TR7 := Lib.hid (show Row y7.at pT [.int .i64 0, .int .i64 0, .int .i64 0, .int .u64 0, .int .u64 0, .slice none 0 0] 25 from ((TX.out.oth NE.out _ _).below hU7).below y7.bel)
  clear o0 o2 c0 c1 c2 c3 c4 c5 cf
  clear hU7
  have o0 := (HS7.out.own).cell 0
  have o2 := (HS7.out.own).cell 2
  simp only [List.getElem?_cons_zero, List.getElem?_cons_succ] at o0 o2
  have c0 := (CR7.out).cell 0
  have c1 := (CR7.out).cell 1
  have c2 := (CR7.out).cell 2
  have c3 := (CR7.out).cell 3
  have c4 := (CR7.out).cell 4
  have c5 := (CR7.out).cell 5
  have cf := fun i : Nat => (CR7.out).free i
  simp only [List.getElem?_cons_zero, List.getElem?_cons_succ] at c0 c1 c2 c3 c4 c5
  clear d0 df CX TX G1 G2
  have t0 := (TR7.out).cell 0
  have t1 := (TR7.out).cell 1
  have t2 := (TR7.out).cell 2
  have t3 := (TR7.out).cell 3
  have t4 := (TR7.out).cell 4
  have t5 := (TR7.out).cell 5
  have tf := fun i : Nat => (TR7.out).free i
  simp only [List.getElem?_cons_zero, List.getElem?_cons_succ] at t0 t1 t2 t3 t4 t5
  go_wp2
  refine bodyPost_ret (v := .agg #[.int .i64 2, .int .i64 0, .int .i64 0, .int .u64 (ad : Int), .int .u64 (v : Int), .slice none 0 0]) (by simp [results, Tryd.results75, go_sem, *]) rfl ?_
  refine ⟨rfl, ?_, ?_⟩
  · repeat' (first | (with_reducible exact HS7.out) | (with_reducible refine RS.oth ?_ PT.out.1 PT.out.2.1 PT.out.2.2 _ _))
  · repeat' (first | (with_reducible exact KS7.out) | (with_reducible refine Two.put ?_ WT.out _ _))

set_option maxRecDepth 100000 in
set_option maxHeartbeats 6400000 in
theorem leaf_flt {w0 : World} {P R : Nat} {tp : Option Addr} {tn tc : Nat} {T : List GrL.Tok} (hT : TkAt w0 tp T) (hn : tn = T.length) (w : World) (i k : Nat) (h : RS w0 P R tp tn tc w i k) {b e : Tx} {co v : Nat} (ha : At T i 1 [102, 97, 117, 108, 116, 115]) (hb : At T (i + 1) 2 b) (hd : At T (i + 2) 3 [61]) (he : At T (i + 3) 2 e) (pb : GrP.parse (strL b) = (co, 0)) (hco : co < 4) (pe : GrP.parse (strL e) = (v, 0)) :
    Calls Tryd.prog 75 #[.pointer (some ⟨P, 0, none⟩)] w fun e w' => e = .returned (.agg #[.int .i64 3, .int .i64 (co : Int), .int .i64 0, .int .u64 0, .int .u64 (v : Int), .slice none 0 0]) ∧ RS w0 P R tp tn tc w' (i + 4) k ∧ Two P R w w' := by
  obtain ⟨hi0, a1, a2⟩ := ha
  obtain ⟨hi1, b1, b2⟩ := hb
  obtain ⟨hi3, d1, d2⟩ := hd
  obtain ⟨hi4, e1, e2⟩ := he
  have N1 := Lib.hid (fun (U : World) (H : RS w0 P R tp tn tc U (i) k) => is_yes hT hn U i k H hi0 1 ⟨#[102, 97, 117, 108, 116, 115]⟩ (by rw [a1]; rfl) (by rw [a2]; rfl) (by decide))
  have B1 := Lib.hid (fun (U : World) (H : RS w0 P R tp tn tc U (i + 1) k) => below_yes hT hn U (i + 1) k H hi1 4 co b1 (by rw [b2]; exact pb) (.inr (by omega)))
  have V1 := Lib.hid (fun (U : World) (H : RS w0 P R tp tn tc U (i + 2) k) => value_yes hT hn U (i + 2) k H hi3 hi4 v d1 d2 e1 (by rw [e2]; exact pe))
  have H := Lib.hid h
  have wv : IntKind.i64.wrap (co : Int) = (co : Int) := by rw [IntKind.wrap_i64]; omega
  clear h hT hn a1 a2 b1 b2 d1 d2 e1 e2 hi0 hi1 hi3 hi4 pb pe hco
  go_enter Tryd.func75, Tryd.ntmps75
  go_upto_region 6 with fail
  obtain ⟨pT, hpT⟩ : ∃ b, b = w.heap.size := ⟨_, rfl⟩
  obtain ⟨pC, hpC⟩ : ∃ b, b = pT + 1 := ⟨_, rfl⟩
  have LT := Lib.hid H.out.lt
  have BS := Lib.hid H.out.base.size
  have PC := Lib.hid (show P ≠ pC ∧ R ≠ pC ∧ w0.heap.size ≤ pC by have := LT.out; have := BS.out; omega)
  have PT := Lib.hid (show P ≠ pT ∧ R ≠ pT ∧ w0.heap.size ≤ pT by have := LT.out; have := BS.out; omega)
  have WC := Lib.hid (show w.heap.size ≤ pC by omega)
  have WT := Lib.hid (show w.heap.size ≤ pT by omega)
  have NE := Lib.hid (show pT ≠ pC by omega)
  have RT0 : Row (w.alloc (.cells #[.int .i64 0, .int .i64 0, .int .i64 0, .int .u64 0, .int .u64 0, .slice none 0 0] 25)) pT [.int .i64 0, .int .i64 0, .int .i64 0, .int .u64 0, .int .u64 0, .slice none 0 0] 25 := Row.new' w [.int .i64 0, .int .i64 0, .int .i64 0, .int .u64 0, .int .u64 0, .slice none 0 0] _ _ hpT.symm
  have RC0 : Row ((w.alloc (.cells #[.int .i64 0, .int .i64 0, .int .i64 0, .int .u64 0, .int .u64 0, .slice none 0 0] 25)).alloc (.cells #[.int .i64 0, .int .i64 0, .int .i64 0, .int .u64 0, .int .u64 0, .slice none 0 0] 25)) pC [.int .i64 0, .int .i64 0, .int .i64 0, .int .u64 0, .int .u64 0, .slice none 0 0] 25 := Row.new' _ [.int .i64 0, .int .i64 0, .int .i64 0, .int .u64 0, .int .u64 0, .slice none 0 0] _ _ (by simp; omega)
  have KB0 := KB.alloc (KB.alloc (Below.refl w.heap.size w) (.cells #[.int .i64 0, .int .i64 0, .int .i64 0, .int .u64 0, .int .u64 0, .slice none 0 0] 25)) (.cells #[.int .i64 0, .int .i64 0, .int .i64 0, .int .u64 0, .int .u64 0, .slice none 0 0] 25)
  simp only [show ((w.alloc (.cells #[.int .i64 0, .int .i64 0, .int .i64 0, .int .u64 0, .int .u64 0, .slice none 0 0] 25)).heap.size) = pC by simp; omega, ← hpT, ← hpC]
  refine to_cls ?_
  intro U1 hU1 y1
  have HS1 := Lib.hid (show RS w0 P R tp tn tc y1.at (i) k from ((H.out.below KB0).below hU1).below y1.bel)
  have KS1 := Lib.hid (show Two P R w y1.at from (Two.of_below KB0).more (hU1.trans (y1.bel.mono hU1.size)))
  have CR1 := Lib.hid (show Row y1.at pC [.int .i64 0, .int .i64 0, .int .i64 0, .int .u64 0, .int .u64 0, .slice none 0 0] 25 from ((RC0).below hU1).below y1.bel)
  have TR1 := Lib.hid (show Row y1.at pT [.int .i64 0, .int .i64 0, .int .i64 0, .int .u64 0, .int .u64 0, .slice none 0 0] 25 from ((RT0.old _).below hU1).below y1.bel)
  clear hU1
  have o0 := (HS1.out.own).cell 0
  have o2 := (HS1.out.own).cell 2
  simp only [List.getElem?_cons_zero, List.getElem?_cons_succ] at o0 o2
  have c0 := (CR1.out).cell 0
  have c1 := (CR1.out).cell 1
  have c2 := (CR1.out).cell 2
  have c3 := (CR1.out).cell 3
  have c4 := (CR1.out).cell 4
  have c5 := (CR1.out).cell 5
  have cf := fun i : Nat => (CR1.out).free i
  simp only [List.getElem?_cons_zero, List.getElem?_cons_succ] at c0 c1 c2 c3 c4 c5
  clear hpT hpC RT0 RC0 KB0
  go_upto_region 7 with (go_at_call 64; refine (N1.out _ HS1.out).mono ?_; rintro e w9 ⟨rfl, g1, g2⟩)
  refine to_cls ?_
  intro U2 hU2 y2
  have HS2 := Lib.hid (show RS w0 P R tp tn tc y2.at (i + 1) k from ((g1).below hU2).below y2.bel)
  have KS2 := Lib.hid (show Two P R w y2.at from (KS1.out.trans g2).more (hU2.trans (y2.bel.mono hU2.size)))
  have CR2 := Lib.hid (show Row y2.at pC [.int .i64 0, .int .i64 0, .int .i64 0, .int .u64 0, .int .u64 0, .slice none 0 0] 25 from ((CR1.out.two g2 (Ne.symm PC.out.1) (Ne.symm PC.out.2.1)).below hU2).below y2.bel)
  have TR2 := Lib.hid (show Row y2.at pT [.int .i64 0, .int .i64 0, .int .i64 0, .int .u64 0, .int .u64 0, .slice none 0 0] 25 from ((TR1.out.two g2 (Ne.symm PT.out.1) (Ne.symm PT.out.2.1)).below hU2).below y2.bel)
  clear o0 o2 c0 c1 c2 c3 c4 c5 cf
  clear hU2
  have o0 := (HS2.out.own).cell 0
  have o2 := (HS2.out.own).cell 2
  simp only [List.getElem?_cons_zero, List.getElem?_cons_succ] at o0 o2
  have c0 := (CR2.out).cell 0
  have c1 := (CR2.out).cell 1
  have c2 := (CR2.out).cell 2
  have c3 := (CR2.out).cell 3
  have c4 := (CR2.out).cell 4
  have c5 := (CR2.out).cell 5
  have cf := fun i : Nat => (CR2.out).free i
  simp only [List.getElem?_cons_zero, List.getElem?_cons_succ] at c0 c1 c2 c3 c4 c5
  clear g1 g2
  go_upto_region 8 with fail
  refine to_cls ?_
  intro U3 hU3 y3
  have HS3 := Lib.hid (show RS w0 P R tp tn tc y3.at (i + 1) k from ((HS2.out.oth PC.out.1 PC.out.2.1 PC.out.2.2 _ _).below hU3).below y3.bel)
  have KS3 := Lib.hid (show Two P R w y3.at from (KS2.out.put WC.out _ _).more (hU3.trans (y3.bel.mono hU3.size)))
  have CR3 := Lib.hid (show Row y3.at pC [.int .i64 3, .int .i64 0, .int .i64 0, .int .u64 0, .int .u64 0, .slice none 0 0] 25 from ((CR2.out.set 0 _).below hU3).below y3.bel)
  have TR3 := Lib.hid (show Row y3.at pT [.int .i64 0, .int .i64 0, .int .i64 0, .int .u64 0, .int .u64 0, .slice none 0 0] 25 from ((TR2.out.oth NE.out _ _).below hU3).below y3.bel)
  clear o0 o2 c0 c1 c2 c3 c4 c5 cf
  clear hU3
  have o0 := (HS3.out.own).cell 0
  have o2 := (HS3.out.own).cell 2
  simp only [List.getElem?_cons_zero, List.getElem?_cons_succ] at o0 o2
  have c0 := (CR3.out).cell 0
  have c1 := (CR3.out).cell 1
  have c2 := (CR3.out).cell 2
  have c3 := (CR3.out).cell 3
  have c4 := (CR3.out).cell 4
  have c5 := (CR3.out).cell 5
  have cf := fun i : Nat => (CR3.out).free i
  simp only [List.getElem?_cons_zero, List.getElem?_cons_succ] at c0 c1 c2 c3 c4 c5
  go_upto_region 13 with (go_at_call 83; refine (B1.out _ HS3.out).mono ?_; rintro e w9 ⟨rfl, g1, g2⟩; have CX := Lib.hid (CR3.out.two g2 (Ne.symm PC.out.1) (Ne.symm PC.out.2.1)); have TX := Lib.hid (TR3.out.two g2 (Ne.symm PT.out.1) (Ne.symm PT.out.2.1)); have d0 := CX.out.cell 1; have df := fun i : Nat => CX.out.free i; simp only [List.getElem?_cons_zero, List.getElem?_cons_succ] at d0)
  have G1 := Lib.hid g1
  have G2 := Lib.hid g2
  clear g1 g2
  refine to_cls ?_
  intro U4 hU4 y4
  have HS4 := Lib.hid (show RS w0 P R tp tn tc y4.at (i + 2) k from ((G1.out.oth PC.out.1 PC.out.2.1 PC.out.2.2 _ _).below hU4).below y4.bel)
  have KS4 := Lib.hid (show Two P R w y4.at from ((KS3.out.trans G2.out).put WC.out _ _).more (hU4.trans (y4.bel.mono hU4.size)))
  have CR4 := Lib.hid (show Row y4.at pC [.int .i64 3, .int .i64 (co : Int), .int .i64 0, .int .u64 0, .int .u64 0, .slice none 0 0] 25 from ((CX.out.set 1 _).below hU4).below y4.bel)
  have TR4 := Lib.hid (show Row y4.at pT [.int .i64 0, .int .i64 0, .int .i64 0, .int .u64 0, .int .u64 0, .slice none 0 0] 25 from ((TX.out.oth NE.out _ _).below hU4).below y4.bel)
  clear o0 o2 c0 c1 c2 c3 c4 c5 cf
  clear hU4
  have o0 := (HS4.out.own).cell 0
  have o2 := (HS4.out.own).cell 2
  simp only [List.getElem?_cons_zero, List.getElem?_cons_succ] at o0 o2
  have c0 := (CR4.out).cell 0
  have c1 := (CR4.out).cell 1
  have c2 := (CR4.out).cell 2
  have c3 := (CR4.out).cell 3
  have c4 := (CR4.out).cell 4
  have c5 := (CR4.out).cell 5
  have cf := fun i : Nat => (CR4.out).free i
  simp only [List.getElem?_cons_zero, List.getElem?_cons_succ] at c0 c1 c2 c3 c4 c5
  clear d0 df CX TX G1 G2
  go_upto_region 14 with (go_at_call 85; refine (V1.out _ HS4.out).mono ?_; rintro e w9 ⟨rfl, g1, g2⟩; have CX := Lib.hid (CR4.out.two g2 (Ne.symm PC.out.1) (Ne.symm PC.out.2.1)); have TX := Lib.hid (TR4.out.two g2 (Ne.symm PT.out.1) (Ne.symm PT.out.2.1)); have d0 := CX.out.cell 4; have df := fun i : Nat => CX.out.free i; simp only [List.getElem?_cons_zero, List.getElem?_cons_succ] at d0)
  have G1 := Lib.hid g1
  have G2 := Lib.hid g2
  clear g1 g2
  refine to_cls ?_
  intro U5 hU5 y5
  have HS5 := Lib.hid (show RS w0 P R tp tn tc y5.at (i + 4) k from ((G1.out.oth PC.out.1 PC.out.2.1 PC.out.2.2 _ _).below hU5).below y5.bel)
  have KS5 := Lib.hid (show Two P R w y5.at from ((KS4.out.trans G2.out).put WC.out _ _).more (hU5.trans (y5.bel.mono hU5.size)))
  have CR5 := Lib.hid (show Row y5.at pC [.int .i64 3, .int .i64 (co : Int), .int .i64 0, .int .u64 0, .int .u64 (v : Int), .slice none 0 0] 25 from ((CX.out.set 4 _).below hU5).below y5.bel)
  have TR5 := Lib.hid (show Row y5.at pT [.int .i64 0, .int .i64 0, .int .i64 0, .int .u64 0, .int .u64 0, .slice none 0 0] 25 from ((TX.out.oth NE.out _ _).below hU5).below y5.bel)
  clear o0 o2 c0 c1 c2 c3 c4 c5 cf
  clear hU5
  have o0 := (HS5.out.own).cell 0
  have o2 := (HS5.out.own).cell 2
  simp only [List.getElem?_cons_zero, List.getElem?_cons_succ] at o0 o2
  have c0 := (CR5.out).cell 0
  have c1 := (CR5.out).cell 1
  have c2 := (CR5.out).cell 2
  have c3 := (CR5.out).cell 3
  have c4 := (CR5.out).cell 4
  have c5 := (CR5.out).cell 5
  have cf := fun i : Nat => (CR5.out).free i
  simp only [List.getElem?_cons_zero, List.getElem?_cons_succ] at c0 c1 c2 c3 c4 c5
  clear d0 df CX TX G1 G2
  have t0 := (TR5.out).cell 0
  have t1 := (TR5.out).cell 1
  have t2 := (TR5.out).cell 2
  have t3 := (TR5.out).cell 3
  have t4 := (TR5.out).cell 4
  have t5 := (TR5.out).cell 5
  have tf := fun i : Nat => (TR5.out).free i
  simp only [List.getElem?_cons_zero, List.getElem?_cons_succ] at t0 t1 t2 t3 t4 t5
  go_wp2
  refine bodyPost_ret (v := .agg #[.int .i64 3, .int .i64 (co : Int), .int .i64 0, .int .u64 0, .int .u64 (v : Int), .slice none 0 0]) (by simp [results, Tryd.results75, go_sem, *]) rfl ?_
  refine ⟨rfl, ?_, ?_⟩
  · repeat' (first | (with_reducible exact HS5.out) | (with_reducible refine RS.oth ?_ PT.out.1 PT.out.2.1 PT.out.2.2 _ _))
  · repeat' (first | (with_reducible exact KS5.out) | (with_reducible refine Two.put ?_ WT.out _ _))
end Go.Proofs.YtgpngjgilcbigaaDoor
