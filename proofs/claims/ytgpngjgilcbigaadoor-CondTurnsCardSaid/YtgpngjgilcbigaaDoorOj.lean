/-
  Layer 11, the walks: the reader of tokens and the reader of conditions.
-/
import Derived.Test.YtgpngjgilcbigaaDoorEj
import Derived.Test.YtgpngjgilcbigaaDoorOb
set_option linter.unusedSimpArgs false
set_option linter.unusedVariables false
namespace Go.Proofs.YtgpngjgilcbigaaDoor
open Go.RowKit GrP

/-- all blocks but two are as they were -/
structure Two (P R : Nat) (w w' : World) : Prop where
  os : w'.os = w.os
  tape : w'.tape = w.tape
  output : w'.output = w.output
  size : w.heap.size ≤ w'.heap.size
  block : ∀ k, k < w.heap.size → k ≠ P → k ≠ R → w'.heap[k]? = w.heap[k]?
theorem Two.refl (P R : Nat) (w : World) : Two P R w w := ⟨rfl, rfl, rfl, Nat.le_refl _, fun _ _ _ _ => rfl⟩
theorem Two.trans {P R : Nat} {a b c : World} (h : Two P R a b) (k : Two P R b c) : Two P R a c :=
  ⟨k.os.trans h.os, k.tape.trans h.tape, k.output.trans h.output, Nat.le_trans h.size k.size, fun i hi hp hr => (k.block i (by have := h.size; omega) hp hr).trans (h.block i hi hp hr)⟩
theorem Two.of_below {P R : Nat} {w w' : World} (h : Below w.heap.size w w') : Two P R w w' := ⟨h.os, h.tape, h.output, h.size, fun k hk _ _ => h.block k hk⟩
theorem Two.setP {P R i : Nat} (w : World) (v : Value) : Two P R w (w.setCell ⟨P, i, none⟩ v) := by
  have h := (Below.refl 0 w).setCell (p := ⟨P, i, none⟩) (Nat.zero_le _) v
  exact ⟨h.os, h.tape, h.output, h.size, fun k _ hn _ => Below.heap_setCell _ _ _ _ hn⟩
theorem Two.setR {P R i : Nat} (w : World) (v : Value) : Two P R w (w.setCell ⟨R, i, none⟩ v) := by
  have h := (Below.refl 0 w).setCell (p := ⟨R, i, none⟩) (Nat.zero_le _) v
  exact ⟨h.os, h.tape, h.output, h.size, fun k _ _ hn => Below.heap_setCell _ _ _ _ hn⟩
theorem Two.below {P R : Nat} {w0 w w' : World} (h : Two P R w w') (k : Below w0.heap.size w0 w) (hP : w0.heap.size ≤ P) (hR : w0.heap.size ≤ R) : Below w0.heap.size w0 w' :=
  k.trans ⟨h.os, h.tape, h.output, h.size, fun b hb => h.block b (by have := k.size; omega) (by omega) (by omega)⟩
theorem Row.two {P R : Nat} {V U : World} {B : Nat} {L : List Value} {T : TypeId} (h : Row V B L T) (k : Two P R V U) (hP : B ≠ P) (hR : B ≠ R) : Row U B L T := (k.block B h.lt hP hR).trans h

/-- tokens in memory -/
structure TkAt (W : World) (tp : Option Addr) (T : List GrL.Tok) : Prop where
  cells : ∀ i (h : i < T.length), ∃ a, tp = some a ∧ W.cell? (a.add (i * 3)) = some (.int .i64 ((T[i]'h).kind : Int)) ∧ W.cell? ⟨(a.add (i * 3)).block, (a.add (i * 3)).off + 1, none⟩ = some (.string (strL (T[i]'h).text)) ∧ W.cell? ⟨(a.add (i * 3)).block, (a.add (i * 3)).off + 2, none⟩ = some (.int .i64 ((T[i]'h).pos : Int))
  most : T.length ≤ 4194305
  texts : ∀ i (h : i < T.length), (T[i]'h).text.length ≤ 4194304

/-- the reader of conditions at P, over the reader of tokens at R: i tokens are read, k parts counted, nothing has failed -/
structure RS (w0 : World) (P R : Nat) (tp : Option Addr) (tn tc : Nat) (w : World) (i k : Nat) : Prop where
  own : Row w P [.pointer (some ⟨R, 0, none⟩), .int .i64 (k : Int), .bool false] 71
  rd : Row w R [.slice tp tn tc, .int .i64 (i : Int), .int .i64 0, .int .i64 0] 68
  base : Below w0.heap.size w0 w
  pB : w0.heap.size ≤ P
  rB : w0.heap.size ≤ R
  ne : P ≠ R
theorem RS.below {w0 : World} {P R : Nat} {tp : Option Addr} {tn tc : Nat} {w U : World} {i k : Nat} (h : RS w0 P R tp tn tc w i k) (b : Below w.heap.size w U) : RS w0 P R tp tn tc U i k :=
  ⟨h.own.below b, h.rd.below b, h.base.trans (b.mono h.base.size), h.pB, h.rB, h.ne⟩
theorem RS.lt {w0 : World} {P R : Nat} {tp : Option Addr} {tn tc : Nat} {w : World} {i k : Nat} (h : RS w0 P R tp tn tc w i k) : P < w.heap.size ∧ R < w.heap.size := ⟨h.own.lt, h.rd.lt⟩
theorem RS.next {w0 : World} {P R : Nat} {tp : Option Addr} {tn tc : Nat} {w : World} {i k : Nat} (h : RS w0 P R tp tn tc w i k) {j : Nat} {v : Value} (hv : v = .int .i64 (j : Int)) : RS w0 P R tp tn tc (w.setCell ⟨R, 1, none⟩ v) j k := by
  subst hv
  exact ⟨h.own.oth h.ne _ _, h.rd.set 1 _, h.base.setCell h.rB _, h.pB, h.rB, h.ne⟩
theorem RS.count {w0 : World} {P R : Nat} {tp : Option Addr} {tn tc : Nat} {w : World} {i k : Nat} (h : RS w0 P R tp tn tc w i k) {j : Nat} {v : Value} (hv : v = .int .i64 (j : Int)) : RS w0 P R tp tn tc (w.setCell ⟨P, 1, none⟩ v) i j := by
  subst hv
  exact ⟨h.own.set 1 _, h.rd.oth (Ne.symm h.ne) _ _, h.base.setCell h.pB _, h.pB, h.rB, h.ne⟩

set_option maxRecDepth 100000 in
set_option maxHeartbeats 3200000 in
theorem peek_any {w0 : World} {P R : Nat} {tp : Option Addr} {tn tc : Nat} {T : List GrL.Tok} (hT : TkAt w0 tp T) (hn : tn = T.length) (w : World) (i k : Nat) (h : RS w0 P R tp tn tc w i k) (hi : i < T.length) :
    Calls Tryd.prog 39 #[.pointer (some ⟨R, 0, none⟩)] w fun e w' => e = .returned (.agg #[.int .i64 ((T[i]'hi).kind : Int), .string (strL (T[i]'hi).text), .int .i64 ((T[i]'hi).pos : Int)]) ∧ Below w.heap.size w w' := by
  obtain ⟨a, rfl, f0, f1, f2⟩ := hT.cells i hi
  have i0 : (0 : Int) ≤ (i : Int) := by omega
  have i1 : (i : Int) < (tn : Int) := by omega
  have i2 : ¬ (tn : Int) ≤ (i : Int) := by omega
  obtain ⟨x0, hx0⟩ : ∃ x : Int, x = ((T[i]'hi).kind : Int) := ⟨_, rfl⟩
  obtain ⟨x1, hx1⟩ : ∃ x, x = strL (T[i]'hi).text := ⟨_, rfl⟩
  obtain ⟨x2, hx2⟩ : ∃ x : Int, x = ((T[i]'hi).pos : Int) := ⟨_, rfl⟩
  rw [← hx0] at f0 ⊢
  rw [← hx1] at f1 ⊢
  rw [← hx2] at f2 ⊢
  have H := Lib.hid h
  clear h hx0 hx1 hx2 hT hn hi
  go_enter Tryd.func39, Tryd.ntmps39
  go_upto_region 1 with fail
  refine to_cls ?_
  intro U0 hU0 y0
  have r_t : ∀ z : Wb U0, Row z.at w.heap.size [.int .i64 0, .string ⟨#[]⟩, .int .i64 0] 63 := Row.next (Row.new _ [.int .i64 0, .string ⟨#[]⟩, .int .i64 0] _) hU0
  have KK := Lib.hid (KB.next (KB.alloc (Below.refl w.heap.size w) _) hU0)
  clear hU0
  obtain ⟨pT, hpT⟩ : ∃ b, b = w.heap.size := ⟨_, rfl⟩
  rw [← hpT] at r_t
  simp only [← hpT]
  have PT := Lib.hid (show w.heap.size ≤ pT by omega)
  have R0 := Lib.hid (r_t y0)
  have K0 := Lib.hid (KK.out y0)
  have H0 := Lib.hid (H.out.below K0.out)
  have e0 : ∀ z : Wb y0.at, z.at.cell? (a.add (i * 3)) = some (.int .i64 x0) := fun z => keep_below ((H0.out.base).trans (z.bel.mono H0.out.base.size)) _ _ f0
  have e1 : ∀ z : Wb y0.at, z.at.cell? ⟨(a.add (i * 3)).block, (a.add (i * 3)).off + 1, none⟩ = some (.string x1) := fun z => keep_below ((H0.out.base).trans (z.bel.mono H0.out.base.size)) _ _ f1
  have e2 : ∀ z : Wb y0.at, z.at.cell? ⟨(a.add (i * 3)).block, (a.add (i * 3)).off + 2, none⟩ = some (.int .i64 x2) := fun z => keep_below ((H0.out.base).trans (z.bel.mono H0.out.base.size)) _ _ f2
  clear hpT r_t KK f0 f1 f2
  have r0 := fun z : Wb y0.at => (Row.at (H0.out.rd) z).cell 0
  have r1 := fun z : Wb y0.at => (Row.at (H0.out.rd) z).cell 1
  simp only [List.getElem?_cons_zero, List.getElem?_cons_succ] at r0 r1
  refine wp_region_wb (by kernel_rfl) (by kernel_rfl) ?_
  repeat (go_big_quiet_step (fail))
  refine wpQuiet_nil ?_
  rintro _ ⟨x1w, rfl⟩
  have K1 := Lib.hid (K0.out.trans (x1w.bel.mono K0.out.size))
  have e0 := x1w.lift e0
  have e1 := x1w.lift e1
  have e2 := x1w.lift e2
  have r0 := x1w.lift r0
  have r1 := x1w.lift r1
  have t0 := fun z : Wb x1w.at => (Row.at (R0.out.below x1w.bel) z).cell 0
  have t1 := fun z : Wb x1w.at => (Row.at (R0.out.below x1w.bel) z).cell 1
  have t2 := fun z : Wb x1w.at => (Row.at (R0.out.below x1w.bel) z).cell 2
  have tf := fun (z : Wb x1w.at) (i : Nat) => (Row.at (R0.out.below x1w.bel) z).free i
  simp only [List.getElem?_cons_zero, List.getElem?_cons_succ] at t0 t1 t2
  go_upto_region 3 with fail
  refine wp_region_wb_tail 10 (by kernel_rfl) (by kernel_rfl) ?_
  simp only [List.take_succ_cons, List.take_zero, List.drop_succ_cons, List.drop_zero]
  repeat (go_big_quiet_step (fail))
  refine wpQuiet_nil ?_
  rintro _ ⟨x2w, rfl⟩
  go_wp2
  have K2 := Lib.hid (K1.out.trans (x2w.bel.mono K1.out.size))
  refine bodyPost_ret (v := .agg #[.int .i64 x0, .string x1, .int .i64 x2]) (by simp [results, Tryd.results39, go_sem, *]) rfl ⟨rfl, ?_⟩
  repeat' (first | (with_reducible exact K2.out) | (with_reducible refine Below.setCell ?_ ?_ _) | (with_reducible exact PT.out))
end Go.Proofs.YtgpngjgilcbigaaDoor
