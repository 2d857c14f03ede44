/-
  Layer 11, the walks: below, register, value.
-/
import Derived.Test.YtgpngjgilcbigaaDoorOl
import Derived.Test.YtgpngjgilcbigaaDoorVg
import Derived.Test.YtgpngjgilcbigaaDoorPv
set_option linter.unusedSimpArgs false
set_option linter.unusedVariables false
namespace Go.Proofs.YtgpngjgilcbigaaDoor
open Go.RowKit GrP GrL

set_option maxRecDepth 100000 in
set_option maxHeartbeats 3200000 in
theorem below_yes {w0 : World} {P R : Nat} {tp : Option Addr} {tn tc : Nat} {T : List GrL.Tok} (hT : TkAt w0 tp T) (hn : tn = T.length) (w : World) (i k : Nat) (h : RS w0 P R tp tn tc w i k) (hi : i < T.length) (most : Int) (v : Nat) (h1 : (T[i]'hi).kind = 2) (h2 : GrP.parse (strL (T[i]'hi).text) = (v, 0)) (hm : most = 0 ∨ ((v : Int) < most)) :
    Calls Tryd.prog 83 #[.pointer (some ⟨P, 0, none⟩), .int .u64 most] w fun e w' => e = .returned (.int .u64 (v : Int)) ∧ RS w0 P R tp tn tc w' (i + 1) k ∧ Two P R w w' := by
  have hk : (T[i]'hi).kind ≠ 4 := by omega
  have PA := Lib.hid (fun U => parse_any (strL (T[i]'hi).text) U (by have := hT.texts i hi; rw [strL_size]; unfold maxLen; omega))
  rw [h2] at PA
  have PE := Lib.hid (fun (U : World) (H : RS w0 P R tp tn tc U i k) => peek_any hT hn U i k H hi)
  have NX := Lib.hid (fun (U : World) (H : RS w0 P R tp tn tc U i k) => next_any hT hn U i k H hi hk)
  obtain ⟨x0, hx0⟩ : ∃ x : Nat, x = (T[i]'hi).kind := ⟨_, rfl⟩
  obtain ⟨x1, hx1⟩ : ∃ x, x = strL (T[i]'hi).text := ⟨_, rfl⟩
  obtain ⟨x2, hx2⟩ : ∃ x : Int, x = ((T[i]'hi).pos : Int) := ⟨_, rfl⟩
  rw [← hx0, ← hx1, ← hx2] at PE
  rw [← hx1] at PA
  rw [← hx0] at h1
  have H := Lib.hid h
  have s0 : (((x0 : Nat) : Int) != 2) = false := by rw [h1]; rfl
  have s1 : ((x0 : Nat) : Int) = 2 := by omega
  clear h hx0 hx1 hx2 hT hn hi hk h1 h2 s1
  have o0 := (H.out.own).cell 0
  have o2 := (H.out.own).cell 2
  simp only [List.getElem?_cons_zero, List.getElem?_cons_succ] at o0 o2
  go_enter Tryd.func83, Tryd.ntmps83
  go_upto_region 4 with (go_at_call 39; refine (PE.out _ H.out).mono ?_; rintro e w9 ⟨rfl, g⟩; obtain ⟨x9, rfl⟩ := Wb.start g; clear g)
  clear o0 o2
  refine to_cls ?_
  intro U1 hU1 y1
  have r_n : ∀ z : Wb U1, Row z.at x9.at.heap.size [.int .i64 ((x0 : Nat) : Int), .string x1, .int .i64 x2] 63 := Row.next (Row.new _ [.int .i64 ((x0 : Nat) : Int), .string x1, .int .i64 x2] _) hU1
  have KK := Lib.hid (KB.next (KB.alloc x9.bel _) hU1)
  clear hU1
  obtain ⟨pN, hpN⟩ : ∃ b, b = x9.at.heap.size := ⟨_, rfl⟩
  rw [← hpN] at r_n
  simp only [← hpN]
  clear hpN
  have K1 := Lib.hid (KK.out y1)
  have H1 := Lib.hid (H.out.below K1.out)
  have n0 := ((r_n y1)).cell 0
  have n1 := ((r_n y1)).cell 1
  have n2 := ((r_n y1)).cell 2
  simp only [List.getElem?_cons_zero, List.getElem?_cons_succ] at n0 n1 n2
  clear r_n KK
  have o0 := (H1.out.own).cell 0
  simp only [List.getElem?_cons_zero, List.getElem?_cons_succ] at o0
  go_upto_region 7 with (go_at_call 51; refine (PA.out _).mono ?_; rintro e w9 ⟨rfl, g⟩; obtain ⟨m9, rfl⟩ := g)
  refine to_cls ?_
  intro U2 hU2 y2
  have D9 : Below y1.at.heap.size y1.at (y1.at.drewN m9) := Drew.below ⟨m9, rfl⟩ _
  have K2 := Lib.hid (show Below w.heap.size w y2.at from (K1.out.trans (D9.mono K1.out.size)).trans ((hU2.trans (y2.bel.mono hU2.size)).mono K1.out.size))
  have H2 := Lib.hid (H.out.below K2.out)
  have n0 := (keep_below ((D9.trans (hU2.mono (by simp))).trans (y2.bel.mono (by have := hU2.size; simpa using this)))) _ _ n0
  clear D9 hU2 o0 n1 n2
  have o0 := (H2.out.own).cell 0
  simp only [List.getElem?_cons_zero, List.getElem?_cons_succ] at o0
  by_cases c0 : most = 0
  · subst c0
    clear hm
    go_wp2_with (go_at_call 76; refine (NX.out _ H2.out).mono ?_; rintro e w9 ⟨⟨v9, rfl⟩, g1, g2⟩)
    go_ret
    exact ⟨rfl, g1, (Two.of_below K2.out).trans g2⟩
  · by_cases c1 : 0 < most
    · have c2 : ¬ most ≤ (v : Int) := by omega
      have c3 : (v : Int) < most := by omega
      clear hm c0
      go_wp2_with (go_at_call 76; refine (NX.out _ H2.out).mono ?_; rintro e w9 ⟨⟨v9, rfl⟩, g1, g2⟩)
      go_ret
      exact ⟨rfl, g1, (Two.of_below K2.out).trans g2⟩
    · have c2 : most < 0 := by omega
      clear hm c0
      go_wp2_with (go_at_call 76; refine (NX.out _ H2.out).mono ?_; rintro e w9 ⟨⟨v9, rfl⟩, g1, g2⟩)
      go_ret
      exact ⟨rfl, g1, (Two.of_below K2.out).trans g2⟩

set_option maxRecDepth 100000 in
set_option maxHeartbeats 3200000 in
theorem register_yes {w0 : World} {P R : Nat} {tp : Option Addr} {tn tc : Nat} {T : List GrL.Tok} (hT : TkAt w0 tp T) (hn : tn = T.length) (ht : TB w0) (w : World) (i k : Nat) (h : RS w0 P R tp tn tc w i k) (hi : i < T.length) (r : Nat) (h1 : (T[i]'hi).kind = 1) (h2 : GrA.numberOf (T[i]'hi).text = some r) (hr : r < 31) :
    Calls Tryd.prog 84 #[.pointer (some ⟨P, 0, none⟩)] w fun e w' => e = .returned (.int .i64 (r : Int)) ∧ RS w0 P R tp tn tc w' (i + 1) k ∧ Two P R w w' := by
  have hk : (T[i]'hi).kind ≠ 4 := by omega
  have NU := Lib.hid (fun U hU => numberOf_any (T[i]'hi).text U hU)
  rw [h2] at NU
  have PE := Lib.hid (fun (U : World) (H : RS w0 P R tp tn tc U i k) => peek_any hT hn U i k H hi)
  have NX := Lib.hid (fun (U : World) (H : RS w0 P R tp tn tc U i k) => next_any hT hn U i k H hi hk)
  obtain ⟨x0, hx0⟩ : ∃ x : Nat, x = (T[i]'hi).kind := ⟨_, rfl⟩
  obtain ⟨x1, hx1⟩ : ∃ x, x = strL (T[i]'hi).text := ⟨_, rfl⟩
  obtain ⟨x2, hx2⟩ : ∃ x : Int, x = ((T[i]'hi).pos : Int) := ⟨_, rfl⟩
  rw [← hx0, ← hx1, ← hx2] at PE
  rw [← hx1] at NU
  rw [← hx0] at h1
  have H := Lib.hid h
  have TT := Lib.hid (fun (U : World) (H : RS w0 P R tp tn tc U i k) => ht.below H.base)
  have s0 : (((x0 : Nat) : Int) != 1) = false := by rw [h1]; rfl
  have s2 : ¬ (31 : Int) ≤ (r : Int) := by omega
  have s3 : (r : Int) < 31 := by omega
  clear h hx0 hx1 hx2 hT hn hi hk h1 h2 ht hr
  have o0 := (H.out.own).cell 0
  have o2 := (H.out.own).cell 2
  simp only [List.getElem?_cons_zero, List.getElem?_cons_succ] at o0 o2
  go_enter Tryd.func84, Tryd.ntmps84
  go_upto_region 4 with (go_at_call 39; refine (PE.out _ H.out).mono ?_; rintro e w9 ⟨rfl, g⟩; obtain ⟨x9, rfl⟩ := Wb.start g; clear g)
  clear o0 o2
  refine to_cls ?_
  intro U1 hU1 y1
  have r_n : ∀ z : Wb U1, Row z.at x9.at.heap.size [.int .i64 ((x0 : Nat) : Int), .string x1, .int .i64 x2] 63 := Row.next (Row.new _ [.int .i64 ((x0 : Nat) : Int), .string x1, .int .i64 x2] _) hU1
  have KK := Lib.hid (KB.next (KB.alloc x9.bel _) hU1)
  clear hU1
  obtain ⟨pN, hpN⟩ : ∃ b, b = x9.at.heap.size := ⟨_, rfl⟩
  rw [← hpN] at r_n
  simp only [← hpN]
  clear hpN
  have K1 := Lib.hid (KK.out y1)
  have H1 := Lib.hid (H.out.below K1.out)
  have n0 := ((r_n y1)).cell 0
  have n1 := ((r_n y1)).cell 1
  have n2 := ((r_n y1)).cell 2
  simp only [List.getElem?_cons_zero, List.getElem?_cons_succ] at n0 n1 n2
  clear r_n KK
  have o0 := (H1.out.own).cell 0
  simp only [List.getElem?_cons_zero, List.getElem?_cons_succ] at o0
  go_upto_region 5 with (go_at_call 88; refine (NU.out _ (TT.out _ H1.out)).mono ?_; rintro e w9 ⟨rfl, g⟩; obtain ⟨x8, rfl⟩ := Wb.start g; clear g)
  have K2 := Lib.hid (show Below w.heap.size w x8.at from K1.out.trans (x8.bel.mono K1.out.size))
  have H2 := Lib.hid (H.out.below K2.out)
  have n0 := keep_below x8.bel _ _ n0
  clear o0 n1 n2
  have o0 := (H2.out.own).cell 0
  simp only [List.getElem?_cons_zero, List.getElem?_cons_succ] at o0
  go_wp2_with (go_at_call 76; refine (NX.out _ H2.out).mono ?_; rintro e w9 ⟨⟨v9, rfl⟩, g1, g2⟩)
  go_ret
  exact ⟨rfl, g1, (Two.of_below K2.out).trans g2⟩

set_option maxRecDepth 100000 in
set_option maxHeartbeats 3200000 in
theorem value_yes {w0 : World} {P R : Nat} {tp : Option Addr} {tn tc : Nat} {T : List GrL.Tok} (hT : TkAt w0 tp T) (hn : tn = T.length) (w : World) (i k : Nat) (h : RS w0 P R tp tn tc w i k) (hi : i < T.length) (hi2 : i + 1 < T.length) (v : Nat) (h1 : (T[i]'hi).kind = 3) (h2 : (T[i]'hi).text = [61]) (h3 : (T[i + 1]'hi2).kind = 2) (h4 : GrP.parse (strL (T[i + 1]'hi2).text) = (v, 0)) :
    Calls Tryd.prog 85 #[.pointer (some ⟨P, 0, none⟩)] w fun e w' => e = .returned (.int .u64 (v : Int)) ∧ RS w0 P R tp tn tc w' (i + 2) k ∧ Two P R w w' := by
  have SY := Lib.hid (sign_yes hT hn w i k h hi ⟨#[61]⟩ h1 (by rw [h2]; rfl))
  have BY := Lib.hid (fun (U : World) (H : RS w0 P R tp tn tc U (i + 1) k) => below_yes hT hn U (i + 1) k H hi2 0 v h3 h4 (.inl rfl))
  have H := Lib.hid h
  clear h h1 h2 h3 h4 hi hT hn
  go_enter Tryd.func85, Tryd.ntmps85
  go_upto_region 2 with (go_at_call 74; refine (SY.out).mono ?_; rintro e w9 ⟨rfl, g1, g2⟩)
  have G1 := Lib.hid g1
  have G2 := Lib.hid g2
  clear g1 g2
  go_wp2_with (go_at_call 83; refine (BY.out _ G1.out).mono ?_; rintro e w8 ⟨rfl, g1, g2⟩)
  go_ret
  exact ⟨rfl, g1, G2.out.trans g2⟩
end Go.Proofs.YtgpngjgilcbigaaDoor
