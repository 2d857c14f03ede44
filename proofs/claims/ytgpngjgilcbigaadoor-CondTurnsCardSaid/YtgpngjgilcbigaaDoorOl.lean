/-
  Layer 11, the walks: the readers' Is, counted, sign, between.
-/
import Derived.Test.YtgpngjgilcbigaaDoorOk
set_option linter.unusedSimpArgs false
set_option linter.unusedVariables false
namespace Go.Proofs.YtgpngjgilcbigaaDoor
open Go.RowKit GrP GrL

set_option maxRecDepth 100000 in
set_option maxHeartbeats 3200000 in
theorem is_yes {w0 : World} {P R : Nat} {tp : Option Addr} {tn tc : Nat} {T : List GrL.Tok} (hT : TkAt w0 tp T) (hn : tn = T.length) (w : World) (i k : Nat) (h : RS w0 P R tp tn tc w i k) (hi : i < T.length) (kd : Int) (tb : ByteArray) (h1 : ((T[i]'hi).kind : Int) = kd) (h2 : strL (T[i]'hi).text = tb) (h4 : kd ≠ 4) :
    Calls Tryd.prog 64 #[.pointer (some ⟨R, 0, none⟩), .int .i64 kd, .string tb] w fun e w' => e = .returned (.bool true) ∧ RS w0 P R tp tn tc w' (i + 1) k ∧ Two P R w w' := by
  have hk : (T[i]'hi).kind ≠ 4 := by omega
  have PE := Lib.hid (fun (U : World) (H : RS w0 P R tp tn tc U i k) => peek_any hT hn U i k H hi)
  have NX := Lib.hid (fun (U : World) (H : RS w0 P R tp tn tc U i k) => next_any hT hn U i k H hi hk)
  obtain ⟨x0, hx0⟩ : ∃ x : Nat, x = (T[i]'hi).kind := ⟨_, rfl⟩
  obtain ⟨x1, hx1⟩ : ∃ x, x = strL (T[i]'hi).text := ⟨_, rfl⟩
  obtain ⟨x2, hx2⟩ : ∃ x : Int, x = ((T[i]'hi).pos : Int) := ⟨_, rfl⟩
  rw [← hx0, ← hx1, ← hx2] at PE
  rw [← hx0] at h1
  rw [← hx1] at h2
  subst h1 h2
  have H := Lib.hid h
  have s0 : (((x0 : Nat) : Int) != ((x0 : Nat) : Int)) = false := by simp
  clear h hx0 hx1 hx2 hT hn hi hk h4
  go_enter Tryd.func64, Tryd.ntmps64
  go_upto_region 2 with (go_at_call 39; refine (PE.out _ H.out).mono ?_; rintro e w9 ⟨rfl, g⟩; obtain ⟨x9, rfl⟩ := Wb.start g; clear g)
  refine to_cls ?_
  intro U1 hU1 y1
  have r_n : ∀ z : Wb U1, Row z.at x9.at.heap.size [.int .i64 ((x0 : Nat) : Int), .string x1, .int .i64 x2] 63 := Row.next (Row.new _ [.int .i64 ((x0 : Nat) : Int), .string x1, .int .i64 x2] _) hU1
  have KK := Lib.hid (KB.next (KB.alloc x9.bel _) hU1)
  clear hU1
  obtain ⟨pN, hpN⟩ : ∃ b, b = x9.at.heap.size := ⟨_, rfl⟩
  rw [← hpN] at r_n
  simp only [← hpN]
  clear hpN
  have K1 := Lib.hid (KK.out y1)
  have H1 := Lib.hid (H.out.below K1.out)
  have n0 := ((r_n y1)).cell 0
  have n1 := ((r_n y1)).cell 1
  have n2 := ((r_n y1)).cell 2
  simp only [List.getElem?_cons_zero, List.getElem?_cons_succ] at n0 n1 n2
  clear r_n KK
  go_upto_region 4 with fail
  go_wp2_with (go_at_call 76; refine (NX.out _ H1.out).mono ?_; rintro e w9 ⟨⟨v, rfl⟩, g1, g2⟩)
  go_ret
  exact ⟨rfl, g1, (Two.of_below K1.out).trans g2⟩

set_option maxRecDepth 100000 in
set_option maxHeartbeats 3200000 in
theorem is_no {w0 : World} {P R : Nat} {tp : Option Addr} {tn tc : Nat} {T : List GrL.Tok} (hT : TkAt w0 tp T) (hn : tn = T.length) (w : World) (i k : Nat) (h : RS w0 P R tp tn tc w i k) (hi : i < T.length) (kd : Int) (tt : ByteArray) (hk : ((T[i]'hi).kind : Int) ≠ kd ∨ strL (T[i]'hi).text ≠ tt) :
    Calls Tryd.prog 64 #[.pointer (some ⟨R, 0, none⟩), .int .i64 kd, .string tt] w fun e w' => e = .returned (.bool false) ∧ Below w.heap.size w w' := by
  have PE := Lib.hid (fun (U : World) (H : RS w0 P R tp tn tc U i k) => peek_any hT hn U i k H hi)
  obtain ⟨x0, hx0⟩ : ∃ x : Nat, x = (T[i]'hi).kind := ⟨_, rfl⟩
  obtain ⟨x1, hx1⟩ : ∃ x, x = strL (T[i]'hi).text := ⟨_, rfl⟩
  obtain ⟨x2, hx2⟩ : ∃ x : Int, x = ((T[i]'hi).pos : Int) := ⟨_, rfl⟩
  rw [← hx0, ← hx1] at hk
  have hk2 : ((x0 : Nat) : Int) ≠ kd ∨ (((x0 : Nat) : Int) = kd ∧ ¬ x1.toList = tt.toList) := by
    by_cases e : ((x0 : Nat) : Int) = kd
    · refine .inr ⟨e, fun e2 => ?_⟩
      exact hk.elim (fun h => h e) (fun h => h (WideShapes.bytes_inj (by rw [ByteArray.toList_eq, ByteArray.toList_eq] at e2; exact e2)))
    · exact .inl e
  rw [← hx0, ← hx1, ← hx2] at PE
  have H := Lib.hid h
  clear h hx0 hx1 hx2 hT hn hk hi
  go_enter Tryd.func64, Tryd.ntmps64
  go_upto_region 2 with (go_at_call 39; refine (PE.out _ H.out).mono ?_; rintro e w9 ⟨rfl, g⟩; obtain ⟨x9, rfl⟩ := Wb.start g; clear g)
  refine to_cls ?_
  intro U1 hU1 y1
  have r_n : ∀ z : Wb U1, Row z.at x9.at.heap.size [.int .i64 ((x0 : Nat) : Int), .string x1, .int .i64 x2] 63 := Row.next (Row.new _ [.int .i64 ((x0 : Nat) : Int), .string x1, .int .i64 x2] _) hU1
  have KK := Lib.hid (KB.next (KB.alloc x9.bel _) hU1)
  clear hU1
  obtain ⟨pN, hpN⟩ : ∃ b, b = x9.at.heap.size := ⟨_, rfl⟩
  rw [← hpN] at r_n
  simp only [← hpN]
  clear hpN
  have K1 := Lib.hid (KK.out y1)
  have H1 := Lib.hid (H.out.below K1.out)
  have n0 := ((r_n y1)).cell 0
  have n1 := ((r_n y1)).cell 1
  have n2 := ((r_n y1)).cell 2
  simp only [List.getElem?_cons_zero, List.getElem?_cons_succ] at n0 n1 n2
  clear r_n KK
  rcases hk2 with hk | ⟨rfl, hk⟩
  · have s0 : (((x0 : Nat) : Int) != kd) = true := by simpa using hk
    have s1 : ¬ ((x0 : Nat) : Int) = kd := hk
    clear hk
    go_wp2
    go_ret
    exact ⟨rfl, K1.out⟩
  · have s0 : (((x0 : Nat) : Int) != (x0 : Int)) = false := by simp
    have s2 : (x1.toList == tt.toList) = false := by simpa using hk
    have s3 : (x1.toList != tt.toList) = true := by simpa using hk
    go_wp2
    go_ret
    exact ⟨rfl, K1.out⟩

set_option maxRecDepth 100000 in
set_option maxHeartbeats 3200000 in
theorem counted_yes {w0 : World} {P R : Nat} {tp : Option Addr} {tn tc : Nat} (w : World) (i k : Nat) (h : RS w0 P R tp tn tc w i k) (hk : k < 64) :
    Calls Tryd.prog 65 #[.pointer (some ⟨P, 0, none⟩)] w fun e w' => e = .returned (.tuple #[]) ∧ RS w0 P R tp tn tc w' i (k + 1) ∧ Two P R w w' := by
  have H := Lib.hid h
  have k0 : (0 : Int) ≤ (k : Int) := by omega
  have k1 : (k : Int) < 64 := by omega
  clear h
  go_enter Tryd.func65, Tryd.ntmps65
  have r0 := (H.out.own).cell 0
  have r1 := (H.out.own).cell 1
  have r2 := (H.out.own).cell 2
  have rf := fun i : Nat => (H.out.own).free i
  simp only [List.getElem?_cons_zero, List.getElem?_cons_succ] at r0 r1 r2
  go_upto_region 1 with fail
  refine to_cls ?_
  intro U2 hU2 y2
  have H2 := Lib.hid (((H.out.count (j := k + 1) (by simp)).below hU2).below y2.bel)
  have K2 := Lib.hid (show Two P R w y2.at from ((Two.setP _ _)).more (hU2.trans (y2.bel.mono hU2.size)))
  clear hU2 r0 r1 r2 rf
  obtain ⟨j, hj⟩ : ∃ j, j = k + 1 := ⟨_, rfl⟩
  rw [← hj] at H2
  have HJ := Lib.hid hj
  have j1 : ¬ (64 : Int) < (j : Int) := by omega
  have j2 : (j : Int) ≤ 64 := by omega
  clear hj k0 k1 hk
  have r0 := (H2.out.own).cell 0
  have r1 := (H2.out.own).cell 1
  have r2 := (H2.out.own).cell 2
  simp only [List.getElem?_cons_zero, List.getElem?_cons_succ] at r0 r1 r2
  go_wp2
  go_end0
  exact ⟨rfl, HJ.out ▸ H2.out, K2.out⟩

set_option maxRecDepth 100000 in
set_option maxHeartbeats 3200000 in
theorem sign_yes {w0 : World} {P R : Nat} {tp : Option Addr} {tn tc : Nat} {T : List GrL.Tok} (hT : TkAt w0 tp T) (hn : tn = T.length) (w : World) (i k : Nat) (h : RS w0 P R tp tn tc w i k) (hi : i < T.length) (tb : ByteArray) (h1 : (T[i]'hi).kind = 3) (h2 : strL (T[i]'hi).text = tb) :
    Calls Tryd.prog 74 #[.pointer (some ⟨P, 0, none⟩), .string tb] w fun e w' => e = .returned (.tuple #[]) ∧ RS w0 P R tp tn tc w' (i + 1) k ∧ Two P R w w' := by
  have IY := Lib.hid (fun (U : World) (H : RS w0 P R tp tn tc U i k) => is_yes hT hn U i k H hi 3 tb (by rw [h1]; rfl) h2 (by decide))
  have H := Lib.hid h
  clear h h1 h2 hi hT hn
  have o0 := (H.out.own).cell 0
  have o2 := (H.out.own).cell 2
  simp only [List.getElem?_cons_zero, List.getElem?_cons_succ] at o0 o2
  go_enter Tryd.func74, Tryd.ntmps74
  go_wp2_with (go_at_call 64; refine (IY.out _ H.out).mono ?_; rintro e w9 ⟨rfl, g1, g2⟩)
  go_end0
  exact ⟨rfl, g1, g2⟩

set_option maxRecDepth 100000 in
set_option maxHeartbeats 3200000 in
theorem between_no {w0 : World} {P R : Nat} {tp : Option Addr} {tn tc : Nat} {T : List GrL.Tok} (hT : TkAt w0 tp T) (hn : tn = T.length) (w : World) (i k : Nat) (h : RS w0 P R tp tn tc w i k) (hi : i < T.length) (tb : ByteArray) (hh : (T[i]'hi).kind ≠ 3 ∨ strL (T[i]'hi).text ≠ tb) :
    Calls Tryd.prog 53 #[.pointer (some ⟨P, 0, none⟩), .string tb] w fun e w' => e = .returned (.bool false) ∧ Below w.heap.size w w' := by
  have IY := Lib.hid (fun (U : World) (H : RS w0 P R tp tn tc U i k) => is_no hT hn U i k H hi 3 tb (hh.imp (fun h e => h (by omega)) id))
  have H := Lib.hid h
  clear h hh hi hT hn
  have o0 := (H.out.own).cell 0
  have o2 := (H.out.own).cell 2
  simp only [List.getElem?_cons_zero, List.getElem?_cons_succ] at o0 o2
  go_enter Tryd.func53, Tryd.ntmps53
  go_wp2_with (go_at_call 64; refine (IY.out _ H.out).mono ?_; rintro e w9 ⟨rfl, g1⟩)
  go_ret
  exact ⟨rfl, g1⟩

set_option maxRecDepth 100000 in
set_option maxHeartbeats 3200000 in
theorem between_yes {w0 : World} {P R : Nat} {tp : Option Addr} {tn tc : Nat} {T : List GrL.Tok} (hT : TkAt w0 tp T) (hn : tn = T.length) (w : World) (i k : Nat) (h : RS w0 P R tp tn tc w i k) (hi : i < T.length) (tb : ByteArray) (h1 : (T[i]'hi).kind = 3) (h2 : strL (T[i]'hi).text = tb) (hk : k < 64) :
    Calls Tryd.prog 53 #[.pointer (some ⟨P, 0, none⟩), .string tb] w fun e w' => e = .returned (.bool true) ∧ RS w0 P R tp tn tc w' (i + 1) (k + 1) ∧ Two P R w w' := by
  have IY := Lib.hid (fun (U : World) (H : RS w0 P R tp tn tc U i k) => is_yes hT hn U i k H hi 3 tb (by rw [h1]; rfl) h2 (by decide))
  have CO := Lib.hid (fun (U : World) (H : RS w0 P R tp tn tc U (i + 1) k) => counted_yes U (i + 1) k H hk)
  have H := Lib.hid h
  clear h h1 h2 hi hT hn hk
  have o0 := (H.out.own).cell 0
  have o2 := (H.out.own).cell 2
  simp only [List.getElem?_cons_zero, List.getElem?_cons_succ] at o0 o2
  go_enter Tryd.func53, Tryd.ntmps53
  go_upto_region 3 with (go_at_call 64; refine (IY.out _ H.out).mono ?_; rintro e w9 ⟨rfl, g1, g2⟩)
  have G1 := Lib.hid g1
  have G2 := Lib.hid g2
  clear g1 g2 o0 o2
  go_wp2_with (go_at_call 65; refine (CO.out _ G1.out).mono ?_; rintro e w8 ⟨rfl, g1, g2⟩)
  go_ret
  exact ⟨rfl, g1, G2.out.trans g2⟩
end Go.Proofs.YtgpngjgilcbigaaDoor
