/-
  Layer 10, the walks: the code's token.
-/
import Derived.Test.YtgpngjgilcbigaaDoorEf
set_option linter.unusedSimpArgs false
set_option linter.unusedVariables false
namespace Go.Proofs.YtgpngjgilcbigaaDoor
open Go.RowKit GrP GrL Go.Shelf
theorem below_drewN {B : Nat} {a w : World} (h : Below B a w) (n : Nat) : Below B a (w.drewN n) := ⟨h.os, h.tape, h.output, h.size, h.block⟩

set_option maxRecDepth 100000 in
set_option maxHeartbeats 3200000 in
theorem token_sign (s : Tx) (w : World) (g : Nat) (SG0 : ∀ w, Calls Tryd.prog 48 #[.string (strL s)] w fun e w' => e = .returned (.int .i64 (g : Int)) ∧ w = w') (hg : (0 : Int) < (g : Int)) (T1 : ∀ w, (Instr.slice 9 (.string (strL s)) none (some (.int .i64 (g : Int))) none).run Tryd.prog w = .ok (.string (strL (s.take g))) w) : Calls Tryd.prog 36 #[.string (strL s)] w fun e w' => e = .returned (.tuple #[.agg #[.int .i64 3, .string (strL (s.take g)), .int .i64 0], .int .i64 0]) ∧ Below w.heap.size w w' := by
  have SG := Lib.hid SG0
  clear SG0
  go_enter Tryd.func36, Tryd.ntmps36
  go_upto_region 1 with fail
  refine to_cls ?_
  intro U0 hU0 y0
  have r_p : ∀ z : Wb U0, Row z.at w.heap.size [.int .i64 0, .string ⟨#[]⟩, .int .i64 0] 63 := Row.next (Row.new _ [.int .i64 0, .string ⟨#[]⟩, .int .i64 0] _) hU0
  have KK := Lib.hid (KB.next (KB.alloc (Below.refl w.heap.size w) _) hU0)
  clear hU0
  have c_0 := fun z : Wb U0 => (r_p z).cell 0
  have c_1 := fun z : Wb U0 => (r_p z).cell 1
  have c_2 := fun z : Wb U0 => (r_p z).cell 2
  have c_f := fun (z : Wb U0) (i : Nat) => (r_p z).free i
  simp only [List.getElem?_cons_zero, List.getElem?_cons_succ] at c_0 c_1 c_2
  have RP := Lib.hid r_p
  clear r_p
  obtain ⟨pA, hpA⟩ : ∃ b, b = w.heap.size := ⟨_, rfl⟩
  have PA := Lib.hid (show w.heap.size ≤ pA by omega)
  rw [← hpA] at c_0 c_1 c_2 c_f RP
  simp only [← hpA]
  clear hpA
  go_wp2_with (go_at_call 48; refine (SG.out _).mono ?_; rintro e w9 ⟨rfl, rfl⟩)
  refine bodyPost_ret (v := .tuple #[.agg #[.int .i64 3, .string (strL (s.take g)), .int .i64 0], .int .i64 0]) (by simp [results, Tryd.results36, go_sem, *]) rfl ⟨rfl, ?_⟩
  repeat' (first | (with_reducible exact KK.out y0) | (with_reducible refine Below.setCell ?_ ?_ _) | (with_reducible refine below_drewN ?_ _) | (with_reducible exact PA.out))

set_option maxRecDepth 100000 in
set_option maxHeartbeats 3200000 in
theorem token_none (s : Tx) (w : World) (SG0 : ∀ w, Calls Tryd.prog 48 #[.string (strL s)] w fun e w' => e = .returned (.int .i64 0) ∧ w = w') (LE0 : ∀ w, Calls Tryd.prog 49 #[.string (strL s)] w fun e w' => e = .returned (.int .i64 0) ∧ w = w') : Calls Tryd.prog 36 #[.string (strL s)] w fun e w' => e = .returned (.tuple #[.agg #[.int .i64 1, .string ByteArray.empty, .int .i64 0], .int .i64 100]) ∧ Below w.heap.size w w' := by
  have SG := Lib.hid SG0
  clear SG0
  have LE := Lib.hid LE0
  clear LE0
  go_enter Tryd.func36, Tryd.ntmps36
  go_upto_region 1 with fail
  refine to_cls ?_
  intro U0 hU0 y0
  have r_p : ∀ z : Wb U0, Row z.at w.heap.size [.int .i64 0, .string ⟨#[]⟩, .int .i64 0] 63 := Row.next (Row.new _ [.int .i64 0, .string ⟨#[]⟩, .int .i64 0] _) hU0
  have KK := Lib.hid (KB.next (KB.alloc (Below.refl w.heap.size w) _) hU0)
  clear hU0
  have c_0 := fun z : Wb U0 => (r_p z).cell 0
  have c_1 := fun z : Wb U0 => (r_p z).cell 1
  have c_2 := fun z : Wb U0 => (r_p z).cell 2
  have c_f := fun (z : Wb U0) (i : Nat) => (r_p z).free i
  simp only [List.getElem?_cons_zero, List.getElem?_cons_succ] at c_0 c_1 c_2
  have RP := Lib.hid r_p
  clear r_p
  obtain ⟨pA, hpA⟩ : ∃ b, b = w.heap.size := ⟨_, rfl⟩
  have PA := Lib.hid (show w.heap.size ≤ pA by omega)
  rw [← hpA] at c_0 c_1 c_2 c_f RP
  simp only [← hpA]
  clear hpA
  go_upto_region 2 with (go_at_call 48; refine (SG.out _).mono ?_; rintro e w9 ⟨rfl, rfl⟩)
  go_upto_region 5 with (go_at_call 49; refine (LE.out _).mono ?_; rintro e w9 ⟨rfl, rfl⟩)
  have KA := Lib.hid (KK.out y0)
  have RA := Lib.hid (RP.out y0)
  clear c_0 c_1 c_2 c_f RP KK
  go_upto_region 6 with fail
  refine to_cls ?_
  intro U1 hU1 z1
  have r_a : ∀ z : Wb U1, Row z.at pA [.int .i64 0, .string ⟨#[]⟩, .int .i64 0] 63 := Row.next (RA.out.old _) hU1
  have r_b : ∀ z : Wb U1, Row z.at y0.at.heap.size [.int .i64 1, .string ByteArray.empty, .int .i64 0] 63 := Row.next (Row.new _ [.int .i64 1, .string ByteArray.empty, .int .i64 0] _) hU1
  have KX := Lib.hid (KB.next (KB.alloc KA.out _) hU1)
  clear hU1
  have c_0 := fun z : Wb U1 => (r_a z).cell 0
  have c_1 := fun z : Wb U1 => (r_a z).cell 1
  have c_2 := fun z : Wb U1 => (r_a z).cell 2
  have c_f := fun (z : Wb U1) (i : Nat) => (r_a z).free i
  have d_0 := fun z : Wb U1 => (r_b z).cell 0
  have d_1 := fun z : Wb U1 => (r_b z).cell 1
  have d_2 := fun z : Wb U1 => (r_b z).cell 2
  have d_f := fun (z : Wb U1) (i : Nat) => (r_b z).free i
  simp only [List.getElem?_cons_zero, List.getElem?_cons_succ] at c_0 c_1 c_2 d_0 d_1 d_2
  have LT := (RA.out).lt
  clear r_a r_b
  obtain ⟨pB, hpB⟩ : ∃ b, b = y0.at.heap.size := ⟨_, rfl⟩
  have PB := Lib.hid (show w.heap.size ≤ pB by have := KA.out.size; omega)
  rw [← hpB] at d_0 d_1 d_2 d_f LT
  simp only [← hpB]
  have NE1 : ¬ pA = pB := by omega
  have NE2 : ¬ pB = pA := by omega
  clear hpB LT KA RA
  go_wp2
  refine bodyPost_ret (v := .tuple #[.agg #[.int .i64 1, .string ByteArray.empty, .int .i64 0], .int .i64 100]) (by simp [results, Tryd.results36, go_sem, *]) rfl ⟨rfl, ?_⟩
  repeat' (first | (with_reducible exact KX.out z1) | (with_reducible refine Below.setCell ?_ ?_ _) | (with_reducible refine below_drewN ?_ _) | (with_reducible exact PA.out) | (with_reducible exact PB.out))

set_option maxRecDepth 100000 in
set_option maxHeartbeats 3200000 in
theorem token_long (s : Tx) (w : World) (n : Nat) (t : ByteArray) (SG0 : ∀ w, Calls Tryd.prog 48 #[.string (strL s)] w fun e w' => e = .returned (.int .i64 0) ∧ w = w') (LE0 : ∀ w, Calls Tryd.prog 49 #[.string (strL s)] w fun e w' => e = .returned (.int .i64 (n : Int)) ∧ w = w') (hn : ∀ w, (Instr.slice 9 (.string (strL s)) none (some (.int .i64 (n : Int))) none).run Tryd.prog w = .ok (.string t) w) (h0 : ¬ (n : Int) = 0) (h1 : (24 : Int) < (n : Int)) : Calls Tryd.prog 36 #[.string (strL s)] w fun e w' => e = .returned (.tuple #[.agg #[.int .i64 1, .string t, .int .i64 0], .int .i64 101]) ∧ Below w.heap.size w w' := by
  have SG := Lib.hid SG0
  clear SG0
  have LE := Lib.hid LE0
  clear LE0
  go_enter Tryd.func36, Tryd.ntmps36
  go_upto_region 1 with fail
  refine to_cls ?_
  intro U0 hU0 y0
  have r_p : ∀ z : Wb U0, Row z.at w.heap.size [.int .i64 0, .string ⟨#[]⟩, .int .i64 0] 63 := Row.next (Row.new _ [.int .i64 0, .string ⟨#[]⟩, .int .i64 0] _) hU0
  have KK := Lib.hid (KB.next (KB.alloc (Below.refl w.heap.size w) _) hU0)
  clear hU0
  have c_0 := fun z : Wb U0 => (r_p z).cell 0
  have c_1 := fun z : Wb U0 => (r_p z).cell 1
  have c_2 := fun z : Wb U0 => (r_p z).cell 2
  have c_f := fun (z : Wb U0) (i : Nat) => (r_p z).free i
  simp only [List.getElem?_cons_zero, List.getElem?_cons_succ] at c_0 c_1 c_2
  have RP := Lib.hid r_p
  clear r_p
  obtain ⟨pA, hpA⟩ : ∃ b, b = w.heap.size := ⟨_, rfl⟩
  have PA := Lib.hid (show w.heap.size ≤ pA by omega)
  rw [← hpA] at c_0 c_1 c_2 c_f RP
  simp only [← hpA]
  clear hpA
  go_upto_region 2 with (go_at_call 48; refine (SG.out _).mono ?_; rintro e w9 ⟨rfl, rfl⟩)
  go_upto_region 5 with (go_at_call 49; refine (LE.out _).mono ?_; rintro e w9 ⟨rfl, rfl⟩)
  have KA := Lib.hid (KK.out y0)
  have RA := Lib.hid (RP.out y0)
  clear c_0 c_1 c_2 c_f RP KK
  go_upto_region 6 with fail
  refine to_cls ?_
  intro U1 hU1 z1
  have r_a : ∀ z : Wb U1, Row z.at pA [.int .i64 0, .string ⟨#[]⟩, .int .i64 0] 63 := Row.next (RA.out.old _) hU1
  have r_b : ∀ z : Wb U1, Row z.at y0.at.heap.size [.int .i64 1, .string t, .int .i64 0] 63 := Row.next (Row.new _ [.int .i64 1, .string t, .int .i64 0] _) hU1
  have KX := Lib.hid (KB.next (KB.alloc KA.out _) hU1)
  clear hU1
  have c_0 := fun z : Wb U1 => (r_a z).cell 0
  have c_1 := fun z : Wb U1 => (r_a z).cell 1
  have c_2 := fun z : Wb U1 => (r_a z).cell 2
  have c_f := fun (z : Wb U1) (i : Nat) => (r_a z).free i
  have d_0 := fun z : Wb U1 => (r_b z).cell 0
  have d_1 := fun z : Wb U1 => (r_b z).cell 1
  have d_2 := fun z : Wb U1 => (r_b z).cell 2
  have d_f := fun (z : Wb U1) (i : Nat) => (r_b z).free i
  simp only [List.getElem?_cons_zero, List.getElem?_cons_succ] at c_0 c_1 c_2 d_0 d_1 d_2
  have LT := (RA.out).lt
  clear r_a r_b
  obtain ⟨pB, hpB⟩ : ∃ b, b = y0.at.heap.size := ⟨_, rfl⟩
  have PB := Lib.hid (show w.heap.size ≤ pB by have := KA.out.size; omega)
  rw [← hpB] at d_0 d_1 d_2 d_f LT
  simp only [← hpB]
  have NE1 : ¬ pA = pB := by omega
  have NE2 : ¬ pB = pA := by omega
  clear hpB LT KA RA
  go_wp2
  refine bodyPost_ret (v := .tuple #[.agg #[.int .i64 1, .string t, .int .i64 0], .int .i64 101]) (by simp [results, Tryd.results36, go_sem, *]) rfl ⟨rfl, ?_⟩
  repeat' (first | (with_reducible exact KX.out z1) | (with_reducible refine Below.setCell ?_ ?_ _) | (with_reducible refine below_drewN ?_ _) | (with_reducible exact PA.out) | (with_reducible exact PB.out))

set_option maxRecDepth 100000 in
set_option maxHeartbeats 3200000 in
theorem token_word (s : Tx) (w : World) (n : Nat) (t : ByteArray) (SG0 : ∀ w, Calls Tryd.prog 48 #[.string (strL s)] w fun e w' => e = .returned (.int .i64 0) ∧ w = w') (LE0 : ∀ w, Calls Tryd.prog 49 #[.string (strL s)] w fun e w' => e = .returned (.int .i64 (n : Int)) ∧ w = w') (hn : ∀ w, (Instr.slice 9 (.string (strL s)) none (some (.int .i64 (n : Int))) none).run Tryd.prog w = .ok (.string t) w) (h0 : ¬ (n : Int) = 0) (h1 : ¬ (24 : Int) < (n : Int)) (x : Nat) (IX : ∀ w, (Instr.index 9 (.string (strL s)) (.int .i64 0)).run Tryd.prog w = .ok (.int .u8 (x : Int)) w) (DG0 : ∀ w, Calls Tryd.prog 50 #[.int .u8 (x : Int)] w fun e w' => e = .returned (.bool false) ∧ w = w') : Calls Tryd.prog 36 #[.string (strL s)] w fun e w' => e = .returned (.tuple #[.agg #[.int .i64 1, .string t, .int .i64 0], .int .i64 0]) ∧ Below w.heap.size w w' := by
  have SG := Lib.hid SG0
  clear SG0
  have LE := Lib.hid LE0
  clear LE0
  have DG := Lib.hid DG0
  clear DG0
  go_enter Tryd.func36, Tryd.ntmps36
  go_upto_region 1 with fail
  refine to_cls ?_
  intro U0 hU0 y0
  have r_p : ∀ z : Wb U0, Row z.at w.heap.size [.int .i64 0, .string ⟨#[]⟩, .int .i64 0] 63 := Row.next (Row.new _ [.int .i64 0, .string ⟨#[]⟩, .int .i64 0] _) hU0
  have KK := Lib.hid (KB.next (KB.alloc (Below.refl w.heap.size w) _) hU0)
  clear hU0
  have c_0 := fun z : Wb U0 => (r_p z).cell 0
  have c_1 := fun z : Wb U0 => (r_p z).cell 1
  have c_2 := fun z : Wb U0 => (r_p z).cell 2
  have c_f := fun (z : Wb U0) (i : Nat) => (r_p z).free i
  simp only [List.getElem?_cons_zero, List.getElem?_cons_succ] at c_0 c_1 c_2
  have RP := Lib.hid r_p
  clear r_p
  obtain ⟨pA, hpA⟩ : ∃ b, b = w.heap.size := ⟨_, rfl⟩
  have PA := Lib.hid (show w.heap.size ≤ pA by omega)
  rw [← hpA] at c_0 c_1 c_2 c_f RP
  simp only [← hpA]
  clear hpA
  go_upto_region 2 with (go_at_call 48; refine (SG.out _).mono ?_; rintro e w9 ⟨rfl, rfl⟩)
  go_upto_region 5 with (go_at_call 49; refine (LE.out _).mono ?_; rintro e w9 ⟨rfl, rfl⟩)
  have KA := Lib.hid (KK.out y0)
  have RA := Lib.hid (RP.out y0)
  clear c_0 c_1 c_2 c_f RP KK
  go_upto_region 6 with fail
  refine to_cls ?_
  intro U1 hU1 z1
  have r_a : ∀ z : Wb U1, Row z.at pA [.int .i64 0, .string ⟨#[]⟩, .int .i64 0] 63 := Row.next (RA.out.old _) hU1
  have r_b : ∀ z : Wb U1, Row z.at y0.at.heap.size [.int .i64 1, .string t, .int .i64 0] 63 := Row.next (Row.new _ [.int .i64 1, .string t, .int .i64 0] _) hU1
  have KX := Lib.hid (KB.next (KB.alloc KA.out _) hU1)
  clear hU1
  have c_0 := fun z : Wb U1 => (r_a z).cell 0
  have c_1 := fun z : Wb U1 => (r_a z).cell 1
  have c_2 := fun z : Wb U1 => (r_a z).cell 2
  have c_f := fun (z : Wb U1) (i : Nat) => (r_a z).free i
  have d_0 := fun z : Wb U1 => (r_b z).cell 0
  have d_1 := fun z : Wb U1 => (r_b z).cell 1
  have d_2 := fun z : Wb U1 => (r_b z).cell 2
  have d_f := fun (z : Wb U1) (i : Nat) => (r_b z).free i
  simp only [List.getElem?_cons_zero, List.getElem?_cons_succ] at c_0 c_1 c_2 d_0 d_1 d_2
  have LT := (RA.out).lt
  clear r_a r_b
  obtain ⟨pB, hpB⟩ : ∃ b, b = y0.at.heap.size := ⟨_, rfl⟩
  have PB := Lib.hid (show w.heap.size ≤ pB by have := KA.out.size; omega)
  rw [← hpB] at d_0 d_1 d_2 d_f LT
  simp only [← hpB]
  have NE1 : ¬ pA = pB := by omega
  have NE2 : ¬ pB = pA := by omega
  clear hpB LT KA RA
  go_wp2_with (go_at_call 50; refine (DG.out _).mono ?_; rintro e w9 ⟨rfl, rfl⟩)
  refine bodyPost_ret (v := .tuple #[.agg #[.int .i64 1, .string t, .int .i64 0], .int .i64 0]) (by simp [results, Tryd.results36, go_sem, *]) rfl ⟨rfl, ?_⟩
  repeat' (first | (with_reducible exact KX.out z1) | (with_reducible refine Below.setCell ?_ ?_ _) | (with_reducible refine below_drewN ?_ _) | (with_reducible exact PA.out) | (with_reducible exact PB.out))

set_option maxRecDepth 100000 in
set_option maxHeartbeats 3200000 in
theorem token_num (s : Tx) (w : World) (n : Nat) (t : ByteArray) (SG0 : ∀ w, Calls Tryd.prog 48 #[.string (strL s)] w fun e w' => e = .returned (.int .i64 0) ∧ w = w') (LE0 : ∀ w, Calls Tryd.prog 49 #[.string (strL s)] w fun e w' => e = .returned (.int .i64 (n : Int)) ∧ w = w') (hn : ∀ w, (Instr.slice 9 (.string (strL s)) none (some (.int .i64 (n : Int))) none).run Tryd.prog w = .ok (.string t) w) (h0 : ¬ (n : Int) = 0) (h1 : ¬ (24 : Int) < (n : Int)) (x : Nat) (IX : ∀ w, (Instr.index 9 (.string (strL s)) (.int .i64 0)).run Tryd.prog w = .ok (.int .u8 (x : Int)) w) (DG0 : ∀ w, Calls Tryd.prog 50 #[.int .u8 (x : Int)] w fun e w' => e = .returned (.bool true) ∧ w = w') (p q : Nat) (PS0 : ∀ w, Calls Tryd.prog 51 #[.string t] w fun e w' => e = .returned (.tuple #[.int .u64 (p : Int), .int .i64 (q : Int)]) ∧ Drew w w') : Calls Tryd.prog 36 #[.string (strL s)] w fun e w' => e = .returned (.tuple #[.agg #[.int .i64 2, .string t, .int .i64 0], .int .i64 (q : Int)]) ∧ Below w.heap.size w w' := by
  have SG := Lib.hid SG0
  clear SG0
  have LE := Lib.hid LE0
  clear LE0
  have DG := Lib.hid DG0
  clear DG0
  have PS := Lib.hid PS0
  clear PS0
  go_enter Tryd.func36, Tryd.ntmps36
  go_upto_region 1 with fail
  refine to_cls ?_
  intro U0 hU0 y0
  have r_p : ∀ z : Wb U0, Row z.at w.heap.size [.int .i64 0, .string ⟨#[]⟩, .int .i64 0] 63 := Row.next (Row.new _ [.int .i64 0, .string ⟨#[]⟩, .int .i64 0] _) hU0
  have KK := Lib.hid (KB.next (KB.alloc (Below.refl w.heap.size w) _) hU0)
  clear hU0
  have c_0 := fun z : Wb U0 => (r_p z).cell 0
  have c_1 := fun z : Wb U0 => (r_p z).cell 1
  have c_2 := fun z : Wb U0 => (r_p z).cell 2
  have c_f := fun (z : Wb U0) (i : Nat) => (r_p z).free i
  simp only [List.getElem?_cons_zero, List.getElem?_cons_succ] at c_0 c_1 c_2
  have RP := Lib.hid r_p
  clear r_p
  obtain ⟨pA, hpA⟩ : ∃ b, b = w.heap.size := ⟨_, rfl⟩
  have PA := Lib.hid (show w.heap.size ≤ pA by omega)
  rw [← hpA] at c_0 c_1 c_2 c_f RP
  simp only [← hpA]
  clear hpA
  go_upto_region 2 with (go_at_call 48; refine (SG.out _).mono ?_; rintro e w9 ⟨rfl, rfl⟩)
  go_upto_region 5 with (go_at_call 49; refine (LE.out _).mono ?_; rintro e w9 ⟨rfl, rfl⟩)
  have KA := Lib.hid (KK.out y0)
  have RA := Lib.hid (RP.out y0)
  clear c_0 c_1 c_2 c_f RP KK
  go_upto_region 6 with fail
  refine to_cls ?_
  intro U1 hU1 z1
  have r_a : ∀ z : Wb U1, Row z.at pA [.int .i64 0, .string ⟨#[]⟩, .int .i64 0] 63 := Row.next (RA.out.old _) hU1
  have r_b : ∀ z : Wb U1, Row z.at y0.at.heap.size [.int .i64 1, .string t, .int .i64 0] 63 := Row.next (Row.new _ [.int .i64 1, .string t, .int .i64 0] _) hU1
  have KX := Lib.hid (KB.next (KB.alloc KA.out _) hU1)
  clear hU1
  have c_0 := fun z : Wb U1 => (r_a z).cell 0
  have c_1 := fun z : Wb U1 => (r_a z).cell 1
  have c_2 := fun z : Wb U1 => (r_a z).cell 2
  have c_f := fun (z : Wb U1) (i : Nat) => (r_a z).free i
  have d_0 := fun z : Wb U1 => (r_b z).cell 0
  have d_1 := fun z : Wb U1 => (r_b z).cell 1
  have d_2 := fun z : Wb U1 => (r_b z).cell 2
  have d_f := fun (z : Wb U1) (i : Nat) => (r_b z).free i
  simp only [List.getElem?_cons_zero, List.getElem?_cons_succ] at c_0 c_1 c_2 d_0 d_1 d_2
  have LT := (RA.out).lt
  clear r_a r_b
  obtain ⟨pB, hpB⟩ : ∃ b, b = y0.at.heap.size := ⟨_, rfl⟩
  have PB := Lib.hid (show w.heap.size ≤ pB by have := KA.out.size; omega)
  rw [← hpB] at d_0 d_1 d_2 d_f LT
  simp only [← hpB]
  have NE1 : ¬ pA = pB := by omega
  have NE2 : ¬ pB = pA := by omega
  clear hpB LT KA RA
  go_upto_region 12 with (go_at_call 50; refine (DG.out _).mono ?_; rintro e w9 ⟨rfl, rfl⟩)
  go_wp2_with (go_at_call 51; refine (PS.out _).mono ?_; rintro e w9 ⟨rfl, k, rfl⟩)
  refine bodyPost_ret (v := .tuple #[.agg #[.int .i64 2, .string t, .int .i64 0], .int .i64 (q : Int)]) (by simp [results, Tryd.results36, go_sem, *]) rfl ⟨rfl, ?_⟩
  repeat' (first | (with_reducible exact KX.out z1) | (with_reducible refine Below.setCell ?_ ?_ _) | (with_reducible refine below_drewN ?_ _) | (with_reducible exact PA.out) | (with_reducible exact PB.out))

theorem digit_nat (n : Nat) : digitN n = (decide (48 ≤ n) && decide (n ≤ 57)) := rfl
theorem token_any (c : UInt8) (l : Tx) (w : World) (hl : (c :: l).length ≤ 9223372036854775800) : Calls Tryd.prog 36 #[.string (strL (c :: l))] w fun e w' => e = .returned (.tuple #[.agg #[.int .i64 (((one (c :: l)).2.1 : Nat) : Int), .string (strL ((c :: l).take (one (c :: l)).2.2)), .int .i64 0], .int .i64 (((one (c :: l)).1 : Nat) : Int)]) ∧ Below w.heap.size w w' := by
  have SG := fun w => lsign_any c l w
  have LE := fun w => letters_any (c :: l) w hl
  have DG := fun w => ldigit_any c.toNat w
  have IX := s_idx (c :: l) 0 (by simp)
  simp only [List.getElem_cons_zero] at IX
  rw [show ((0 : Nat) : Int) = 0 from rfl] at IX
  have T1 := fun w => s_to (c :: l) (sgn (c :: l)) (sgn_le (by simp)) w
  have T2 := fun w => s_to (c :: l) (run (c :: l)) (tw_le _ _) w
  by_cases a : 0 < sgn (c :: l)
  · rw [show one (c :: l) = (0, 3, sgn (c :: l)) by rw [one, if_pos a]]
    exact token_sign _ w (sgn (c :: l)) SG (by omega) T1
  · rw [show sgn (c :: l) = 0 by omega] at SG
    by_cases b : run (c :: l) = 0
    · rw [show one (c :: l) = (100, 1, 0) by rw [one, if_neg a, if_pos b]]
      rw [b] at LE
      exact token_none _ w SG LE
    · by_cases d : 24 < run (c :: l)
      · rw [show one (c :: l) = (101, 1, run (c :: l)) by rw [one, if_neg a, if_neg b, if_pos d]]
        exact token_long _ w (run (c :: l)) _ SG LE T2 (by omega) (by omega)
      · by_cases e : 48 ≤ c.toNat ∧ c.toNat ≤ 57
        · rw [show one (c :: l) = ((parse (strL ((c :: l).take (run (c :: l))))).2, 2, run (c :: l)) by rw [one, if_neg a, if_neg b, if_neg d, if_pos (by simpa using e)]]
          rw [digit_nat, decide_eq_true e.1, decide_eq_true e.2] at DG
          exact token_num _ w (run (c :: l)) _ SG LE T2 (by omega) (by omega) _ IX DG _ _ (fun w => parse_any _ w (by rw [strL_size, List.length_take]; unfold maxLen; omega))
        · rw [show one (c :: l) = (0, 1, run (c :: l)) by rw [one, if_neg a, if_neg b, if_neg d, if_neg (by simpa using e)]]
          rw [digit_nat, show (decide (48 ≤ c.toNat) && decide (c.toNat ≤ 57)) = false by simp; omega] at DG
          exact token_word _ w (run (c :: l)) _ SG LE T2 (by omega) (by omega) _ IX DG
end Go.Proofs.YtgpngjgilcbigaaDoor
