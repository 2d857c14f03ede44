/-
  Layer 11, the walks: the readers' Next, Is, counted, sign, between.
-/
import Derived.Test.YtgpngjgilcbigaaDoorOj
set_option linter.unusedSimpArgs false
set_option linter.unusedVariables false
namespace Go.Proofs.YtgpngjgilcbigaaDoor
open Go.RowKit GrP

theorem RS.oth {w0 : World} {P R : Nat} {tp : Option Addr} {tn tc : Nat} {w : World} {i k : Nat} (h : RS w0 P R tp tn tc w i k) {B : Nat} (hP : P ≠ B) (hR : R ≠ B) (hB : w0.heap.size ≤ B) (j : Nat) (v : Value) : RS w0 P R tp tn tc (w.setCell ⟨B, j, none⟩ v) i k :=
  ⟨h.own.oth hP _ _, h.rd.oth hR _ _, h.base.setCell hB _, h.pB, h.rB, h.ne⟩
theorem Two.put {P R : Nat} {w V : World} (h : Two P R w V) {B : Nat} (hB : w.heap.size ≤ B) (j : Nat) (v : Value) : Two P R w (V.setCell ⟨B, j, none⟩ v) :=
  ⟨h.os, h.tape, h.output, by have := h.size; simpa using this, fun k hk hp hr => (Below.heap_setCell V ⟨B, j, none⟩ v k (by show k ≠ B; omega)).trans (h.block k hk hp hr)⟩
theorem Two.more {P R : Nat} {w V U : World} (h : Two P R w V) (b : Below V.heap.size V U) : Two P R w U := h.trans (Two.of_below b)

set_option maxRecDepth 100000 in
set_option maxHeartbeats 3200000 in
theorem next_any {w0 : World} {P R : Nat} {tp : Option Addr} {tn tc : Nat} {T : List GrL.Tok} (hT : TkAt w0 tp T) (hn : tn = T.length) (w : World) (i k : Nat) (h : RS w0 P R tp tn tc w i k) (hi : i < T.length) (hk : (T[i]'hi).kind ≠ 4) :
    Calls Tryd.prog 76 #[.pointer (some ⟨R, 0, none⟩)] w fun e w' => (∃ v, e = .returned v) ∧ RS w0 P R tp tn tc w' (i + 1) k ∧ Two P R w w' := by
  have PE := Lib.hid (fun (U : World) (H : RS w0 P R tp tn tc U i k) => peek_any hT hn U i k H hi)
  obtain ⟨x0, hx0⟩ : ∃ x : Nat, x = (T[i]'hi).kind := ⟨_, rfl⟩
  obtain ⟨x1, hx1⟩ : ∃ x, x = strL (T[i]'hi).text := ⟨_, rfl⟩
  obtain ⟨x2, hx2⟩ : ∃ x : Int, x = ((T[i]'hi).pos : Int) := ⟨_, rfl⟩
  rw [← hx0, ← hx1, ← hx2] at PE
  rw [← hx0] at hk
  have k4 : (((x0 : Nat) : Int) != 4) = true := by simp; omega
  have k5 : ¬ ((x0 : Nat) : Int) = 4 := by omega
  have i1 : (i : Int) < 4194305 := by have := hT.most; omega
  have i0 : (0 : Int) ≤ (i : Int) := by omega
  have H := Lib.hid h
  clear h hx0 hx1 hx2 hT hn hi hk
  go_enter Tryd.func76, Tryd.ntmps76
  go_upto_region 1 with fail
  refine to_cls ?_
  intro U0 hU0 y0
  have r_t : ∀ z : Wb U0, Row z.at w.heap.size [.int .i64 0, .string ⟨#[]⟩, .int .i64 0] 63 := Row.next (Row.new _ [.int .i64 0, .string ⟨#[]⟩, .int .i64 0] _) hU0
  have KK := Lib.hid (KB.next (KB.alloc (Below.refl w.heap.size w) _) hU0)
  clear hU0
  obtain ⟨pT, hpT⟩ : ∃ b, b = w.heap.size := ⟨_, rfl⟩
  rw [← hpT] at r_t
  simp only [← hpT]
  have PT := Lib.hid (show w.heap.size ≤ pT by omega)
  have R0 := Lib.hid (r_t y0)
  have K0 := Lib.hid (KK.out y0)
  have H0 := Lib.hid (H.out.below K0.out)
  clear hpT r_t KK
  go_upto_region 2 with (go_at_call 39; refine (PE.out _ H0.out).mono ?_; rintro e w9 ⟨rfl, g⟩; obtain ⟨x9, rfl⟩ := Wb.start g; clear g)
  refine to_cls ?_
  intro U1 hU1 y1
  have r_n : ∀ z : Wb U1, Row z.at x9.at.heap.size [.int .i64 ((x0 : Nat) : Int), .string x1, .int .i64 x2] 63 := Row.next (Row.new _ [.int .i64 ((x0 : Nat) : Int), .string x1, .int .i64 x2] _) hU1
  have r_t : ∀ z : Wb U1, Row z.at pT [.int .i64 0, .string ⟨#[]⟩, .int .i64 0] 63 := Row.next ((R0.out.below x9.bel).old _) hU1
  have KK := Lib.hid (KB.next (KB.alloc (K0.out.trans (x9.bel.mono K0.out.size)) _) hU1)
  clear hU1
  obtain ⟨pN, hpN⟩ : ∃ b, b = x9.at.heap.size := ⟨_, rfl⟩
  rw [← hpN] at r_n
  simp only [← hpN]
  have PN := Lib.hid (show w.heap.size ≤ pN by have := K0.out.size; have := x9.size; omega)
  have NT := Lib.hid (show pT < pN by have := R0.out.lt; have := x9.size; omega)
  clear hpN
  have H1 := Lib.hid (H.out.below (KK.out y1))
  have K1 := Lib.hid (KK.out y1)
  have n0 := ((r_n y1)).cell 0
  simp only [List.getElem?_cons_zero, List.getElem?_cons_succ] at n0
  have r0 := (H1.out.rd).cell 0
  have r1 := (H1.out.rd).cell 1
  have rf := fun i : Nat => (H1.out.rd).free i
  simp only [List.getElem?_cons_zero, List.getElem?_cons_succ] at r0 r1
  have R1 := Lib.hid (r_n y1)
  have T1 := Lib.hid (r_t y1)
  clear r_n r_t KK r0
  go_upto_region 4 with fail
  refine to_cls ?_
  intro U2 hU2 y2
  have LT := Lib.hid H.out.lt
  have r_n : ∀ z : Wb U2, Row z.at pN [.int .i64 ((x0 : Nat) : Int), .string x1, .int .i64 x2] 63 := Row.next (R1.out.oth (by have := LT.out; have := PN.out; omega) _ _) hU2
  have r_t : ∀ z : Wb U2, Row z.at pT [.int .i64 0, .string ⟨#[]⟩, .int .i64 0] 63 := Row.next (T1.out.oth (by have := LT.out; have := PT.out; omega) _ _) hU2
  have H2 := Lib.hid (fun z : Wb U2 => ((H1.out.next (j := i + 1) (by simp)).below hU2).below z.bel)
  have K2 := Lib.hid (show Two P R w y2.at from ((Two.of_below K1.out).trans (Two.setR _ _)).more (hU2.trans (y2.bel.mono hU2.size)))
  clear hU2 n0 r1 rf i0 i1
  have n0 := ((r_n y2)).cell 0
  have n1 := ((r_n y2)).cell 1
  have n2 := ((r_n y2)).cell 2
  simp only [List.getElem?_cons_zero, List.getElem?_cons_succ] at n0 n1 n2
  have t0 := ((r_t y2)).cell 0
  have t1 := ((r_t y2)).cell 1
  have t2 := ((r_t y2)).cell 2
  have tf := fun i : Nat => ((r_t y2)).free i
  simp only [List.getElem?_cons_zero, List.getElem?_cons_succ] at t0 t1 t2
  have TP := Lib.hid (show P ≠ pT ∧ R ≠ pT ∧ w0.heap.size ≤ pT by have := LT.out; have := PT.out; have := H.out.base.size; omega)
  have H2 := Lib.hid (H2.out y2)
  clear r_n r_t
  go_wp2
  refine bodyPost_ret (v := .agg #[.int .i64 ((x0 : Nat) : Int), .string x1, .int .i64 x2]) (by simp [results, Tryd.results76, go_sem, *]) rfl ?_
  refine ⟨⟨_, rfl⟩, ?_, ?_⟩
  · repeat' (first | (with_reducible exact H2.out) | (with_reducible refine RS.oth ?_ TP.out.1 TP.out.2.1 TP.out.2.2 _ _))
  · repeat' (first | (with_reducible exact K2.out) | (with_reducible refine Two.put ?_ PT.out _ _))
end Go.Proofs.YtgpngjgilcbigaaDoor
