/-
  Layer 9, the walks: meet.
-/
import Derived.Test.YteiokenijmaloaaUp
import Derived.Test.YteiokenijmaloaaTc
import Derived.Test.YteiokenijmaloaaBx
set_option linter.unusedSimpArgs false
set_option linter.unusedVariables false
namespace Go.Proofs.Yteiokenijmaloaa
open Go.RowKit GrT

set_option maxRecDepth 100000 in
set_option maxHeartbeats 6400000 in
theorem meet_any (x0 x1 x2 x3 u0 u1 u2 u3 : Int) (hx : EB ⟨x0, x1, x2, x3⟩) (hy : EB ⟨u0, u1, u2, u3⟩) (w : World) :
    Calls Try.prog 41 #[.agg #[.int .i64 x0, .int .u64 x1, .int .u64 x2, .int .u64 x3], .agg #[.int .i64 u0, .int .u64 u1, .int .u64 u2, .int .u64 u3]] w fun e w' => e = .returned (.bool (meets ⟨x0, x1, x2, x3⟩ ⟨u0, u1, u2, u3⟩)) ∧ Below w.heap.size w w' := by
  obtain ⟨hx1, hx2, hx3⟩ := hx
  obtain ⟨hy1, hy2, hy3⟩ := hy
  simp only at hx1 hx2 hx3 hy1 hy2 hy3
  have CA := Lib.hid (fun w => covers_any x0 x1 x2 x3 u1 hx2.1 hx2.2 hy1.1 hy1.2 w)
  have CB := Lib.hid (fun w => covers_any u0 u1 u2 u3 x1 hy2.1 hy2.2 hx1.1 hx1.2 w)
  have OA := Lib.hid (fun w => own_any x0 x1 x2 x3 hx2.1 hx2.2 hx3.1 hx3.2 w)
  have OB := Lib.hid (fun w => own_any u0 u1 u2 u3 hy2.1 hy2.2 hy3.1 hy3.2 w)
  obtain ⟨C1, hC1⟩ : ∃ C, C = GrT.covers ⟨x0, x1, x2, x3⟩ u1 := ⟨_, rfl⟩
  obtain ⟨C2, hC2⟩ : ∃ C, C = GrT.covers ⟨u0, u1, u2, u3⟩ x1 := ⟨_, rfl⟩
  obtain ⟨O1, hO1⟩ : ∃ C, C = GrT.own ⟨x0, x1, x2, x3⟩ := ⟨_, rfl⟩
  obtain ⟨O2, hO2⟩ : ∃ C, C = GrT.own ⟨u0, u1, u2, u3⟩ := ⟨_, rfl⟩
  have E := Lib.hid (show meets ⟨x0, x1, x2, x3⟩ ⟨u0, u1, u2, u3⟩ = ((C1 || C2) && ((x0 == u0) || (!O1 || !O2))) by rw [hC1, hC2, hO1, hO2]; rfl)
  rw [← hC1] at CA
  rw [← hC2] at CB
  rw [← hO1] at OA
  rw [← hO2] at OB
  clear hC1 hC2 hO1 hO2 hx1 hx2 hx3 hy1 hy2 hy3
  cases C1 with
  | true =>
    cases c0 : (x0 == u0) with
    | true =>
      go_enter Try.func41, Try.ntmps41
      go_upto_region 1 with fail
      refine to_cls ?_
      intro U0 hU0 y0
      have r_a : ∀ z : Wb U0, Row z.at (w.heap.size) [.int .i64 x0, .int .u64 x1, .int .u64 x2, .int .u64 x3] 25 := Row.next (Row.old (Row.new' _ [.int .i64 x0, .int .u64 x1, .int .u64 x2, .int .u64 x3] _ _ (by simp)) _) hU0
      have r_b : ∀ z : Wb U0, Row z.at (w.heap.size + 1) [.int .i64 u0, .int .u64 u1, .int .u64 u2, .int .u64 u3] 25 := Row.next (Row.new' _ [.int .i64 u0, .int .u64 u1, .int .u64 u2, .int .u64 u3] _ _ (by simp)) hU0
      have KK := Lib.hid (KB.next (KB.alloc (KB.alloc (Below.refl _ _) _) _) hU0)
      clear hU0
      have c_a_0 : ∀ z : Wb U0, z.at.cell? ⟨w.heap.size, 0, none⟩ = some (.int .i64 x0) := fun z => (r_a z).cell 0
      have c_a_1 : ∀ z : Wb U0, z.at.cell? ⟨w.heap.size, 1, none⟩ = some (.int .u64 x1) := fun z => (r_a z).cell 1
      have c_a_2 : ∀ z : Wb U0, z.at.cell? ⟨w.heap.size, 2, none⟩ = some (.int .u64 x2) := fun z => (r_a z).cell 2
      have c_a_3 : ∀ z : Wb U0, z.at.cell? ⟨w.heap.size, 3, none⟩ = some (.int .u64 x3) := fun z => (r_a z).cell 3
      have c_b_0 : ∀ z : Wb U0, z.at.cell? ⟨w.heap.size + 1, 0, none⟩ = some (.int .i64 u0) := fun z => (r_b z).cell 0
      have c_b_1 : ∀ z : Wb U0, z.at.cell? ⟨w.heap.size + 1, 1, none⟩ = some (.int .u64 u1) := fun z => (r_b z).cell 1
      have c_b_2 : ∀ z : Wb U0, z.at.cell? ⟨w.heap.size + 1, 2, none⟩ = some (.int .u64 u2) := fun z => (r_b z).cell 2
      have c_b_3 : ∀ z : Wb U0, z.at.cell? ⟨w.heap.size + 1, 3, none⟩ = some (.int .u64 u3) := fun z => (r_b z).cell 3
      go_wp2_with fail
      refine (CA.out _).mono ?_
      rintro e w1 ⟨rfl, g⟩
      obtain ⟨y1, rfl⟩ := Wb.next (x := y0) g
      clear g
      go_wp2
      go_ret
      exact ⟨ret_bool' (by rw [E.out]; simp [c0]), KK.out y1⟩
    | false =>
      cases O1 with
      | false =>
        go_enter Try.func41, Try.ntmps41
        go_upto_region 1 with fail
        refine to_cls ?_
        intro U0 hU0 y0
        have r_a : ∀ z : Wb U0, Row z.at (w.heap.size) [.int .i64 x0, .int .u64 x1, .int .u64 x2, .int .u64 x3] 25 := Row.next (Row.old (Row.new' _ [.int .i64 x0, .int .u64 x1, .int .u64 x2, .int .u64 x3] _ _ (by simp)) _) hU0
        have r_b : ∀ z : Wb U0, Row z.at (w.heap.size + 1) [.int .i64 u0, .int .u64 u1, .int .u64 u2, .int .u64 u3] 25 := Row.next (Row.new' _ [.int .i64 u0, .int .u64 u1, .int .u64 u2, .int .u64 u3] _ _ (by simp)) hU0
        have KK := Lib.hid (KB.next (KB.alloc (KB.alloc (Below.refl _ _) _) _) hU0)
        clear hU0
        have c_a_0 : ∀ z : Wb U0, z.at.cell? ⟨w.heap.size, 0, none⟩ = some (.int .i64 x0) := fun z => (r_a z).cell 0
        have c_a_1 : ∀ z : Wb U0, z.at.cell? ⟨w.heap.size, 1, none⟩ = some (.int .u64 x1) := fun z => (r_a z).cell 1
        have c_a_2 : ∀ z : Wb U0, z.at.cell? ⟨w.heap.size, 2, none⟩ = some (.int .u64 x2) := fun z => (r_a z).cell 2
        have c_a_3 : ∀ z : Wb U0, z.at.cell? ⟨w.heap.size, 3, none⟩ = some (.int .u64 x3) := fun z => (r_a z).cell 3
        have c_b_0 : ∀ z : Wb U0, z.at.cell? ⟨w.heap.size + 1, 0, none⟩ = some (.int .i64 u0) := fun z => (r_b z).cell 0
        have c_b_1 : ∀ z : Wb U0, z.at.cell? ⟨w.heap.size + 1, 1, none⟩ = some (.int .u64 u1) := fun z => (r_b z).cell 1
        have c_b_2 : ∀ z : Wb U0, z.at.cell? ⟨w.heap.size + 1, 2, none⟩ = some (.int .u64 u2) := fun z => (r_b z).cell 2
        have c_b_3 : ∀ z : Wb U0, z.at.cell? ⟨w.heap.size + 1, 3, none⟩ = some (.int .u64 u3) := fun z => (r_b z).cell 3
        go_wp2_with fail
        refine (CA.out _).mono ?_
        rintro e w1 ⟨rfl, g⟩
        obtain ⟨y1, rfl⟩ := Wb.next (x := y0) g
        clear g
        go_wp2_with fail
        refine (OA.out _).mono ?_
        rintro e w1 ⟨rfl, g⟩
        obtain ⟨y2, rfl⟩ := Wb.next (x := y1) g
        clear g
        go_wp2
        go_ret
        exact ⟨ret_bool' (by rw [E.out]; simp [c0]), KK.out y2⟩
      | true =>
        go_enter Try.func41, Try.ntmps41
        go_upto_region 1 with fail
        refine to_cls ?_
        intro U0 hU0 y0
        have r_a : ∀ z : Wb U0, Row z.at (w.heap.size) [.int .i64 x0, .int .u64 x1, .int .u64 x2, .int .u64 x3] 25 := Row.next (Row.old (Row.new' _ [.int .i64 x0, .int .u64 x1, .int .u64 x2, .int .u64 x3] _ _ (by simp)) _) hU0
        have r_b : ∀ z : Wb U0, Row z.at (w.heap.size + 1) [.int .i64 u0, .int .u64 u1, .int .u64 u2, .int .u64 u3] 25 := Row.next (Row.new' _ [.int .i64 u0, .int .u64 u1, .int .u64 u2, .int .u64 u3] _ _ (by simp)) hU0
        have KK := Lib.hid (KB.next (KB.alloc (KB.alloc (Below.refl _ _) _) _) hU0)
        clear hU0
        have c_a_0 : ∀ z : Wb U0, z.at.cell? ⟨w.heap.size, 0, none⟩ = some (.int .i64 x0) := fun z => (r_a z).cell 0
        have c_a_1 : ∀ z : Wb U0, z.at.cell? ⟨w.heap.size, 1, none⟩ = some (.int .u64 x1) := fun z => (r_a z).cell 1
        have c_a_2 : ∀ z : Wb U0, z.at.cell? ⟨w.heap.size, 2, none⟩ = some (.int .u64 x2) := fun z => (r_a z).cell 2
        have c_a_3 : ∀ z : Wb U0, z.at.cell? ⟨w.heap.size, 3, none⟩ = some (.int .u64 x3) := fun z => (r_a z).cell 3
        have c_b_0 : ∀ z : Wb U0, z.at.cell? ⟨w.heap.size + 1, 0, none⟩ = some (.int .i64 u0) := fun z => (r_b z).cell 0
        have c_b_1 : ∀ z : Wb U0, z.at.cell? ⟨w.heap.size + 1, 1, none⟩ = some (.int .u64 u1) := fun z => (r_b z).cell 1
        have c_b_2 : ∀ z : Wb U0, z.at.cell? ⟨w.heap.size + 1, 2, none⟩ = some (.int .u64 u2) := fun z => (r_b z).cell 2
        have c_b_3 : ∀ z : Wb U0, z.at.cell? ⟨w.heap.size + 1, 3, none⟩ = some (.int .u64 u3) := fun z => (r_b z).cell 3
        go_wp2_with fail
        refine (CA.out _).mono ?_
        rintro e w1 ⟨rfl, g⟩
        obtain ⟨y1, rfl⟩ := Wb.next (x := y0) g
        clear g
        go_wp2_with fail
        refine (OA.out _).mono ?_
        rintro e w1 ⟨rfl, g⟩
        obtain ⟨y2, rfl⟩ := Wb.next (x := y1) g
        clear g
        go_wp2_with fail
        refine (OB.out _).mono ?_
        rintro e w1 ⟨rfl, g⟩
        obtain ⟨y3, rfl⟩ := Wb.next (x := y2) g
        clear g
        go_wp2
        go_ret
        exact ⟨ret_bool' (by rw [E.out]; simp [c0]), KK.out y3⟩
  | false =>
    cases C2 with
    | true =>
      cases c0 : (x0 == u0) with
      | true =>
        go_enter Try.func41, Try.ntmps41
        go_upto_region 1 with fail
        refine to_cls ?_
        intro U0 hU0 y0
        have r_a : ∀ z : Wb U0, Row z.at (w.heap.size) [.int .i64 x0, .int .u64 x1, .int .u64 x2, .int .u64 x3] 25 := Row.next (Row.old (Row.new' _ [.int .i64 x0, .int .u64 x1, .int .u64 x2, .int .u64 x3] _ _ (by simp)) _) hU0
        have r_b : ∀ z : Wb U0, Row z.at (w.heap.size + 1) [.int .i64 u0, .int .u64 u1, .int .u64 u2, .int .u64 u3] 25 := Row.next (Row.new' _ [.int .i64 u0, .int .u64 u1, .int .u64 u2, .int .u64 u3] _ _ (by simp)) hU0
        have KK := Lib.hid (KB.next (KB.alloc (KB.alloc (Below.refl _ _) _) _) hU0)
        clear hU0
        have c_a_0 : ∀ z : Wb U0, z.at.cell? ⟨w.heap.size, 0, none⟩ = some (.int .i64 x0) := fun z => (r_a z).cell 0
        have c_a_1 : ∀ z : Wb U0, z.at.cell? ⟨w.heap.size, 1, none⟩ = some (.int .u64 x1) := fun z => (r_a z).cell 1
        have c_a_2 : ∀ z : Wb U0, z.at.cell? ⟨w.heap.size, 2, none⟩ = some (.int .u64 x2) := fun z => (r_a z).cell 2
        have c_a_3 : ∀ z : Wb U0, z.at.cell? ⟨w.heap.size, 3, none⟩ = some (.int .u64 x3) := fun z => (r_a z).cell 3
        have c_b_0 : ∀ z : Wb U0, z.at.cell? ⟨w.heap.size + 1, 0, none⟩ = some (.int .i64 u0) := fun z => (r_b z).cell 0
        have c_b_1 : ∀ z : Wb U0, z.at.cell? ⟨w.heap.size + 1, 1, none⟩ = some (.int .u64 u1) := fun z => (r_b z).cell 1
        have c_b_2 : ∀ z : Wb U0, z.at.cell? ⟨w.heap.size + 1, 2, none⟩ = some (.int .u64 u2) := fun z => (r_b z).cell 2
        have c_b_3 : ∀ z : Wb U0, z.at.cell? ⟨w.heap.size + 1, 3, none⟩ = some (.int .u64 u3) := fun z => (r_b z).cell 3
        go_wp2_with fail
        refine (CA.out _).mono ?_
        rintro e w1 ⟨rfl, g⟩
        obtain ⟨y1, rfl⟩ := Wb.next (x := y0) g
        clear g
        go_wp2_with fail
        refine (CB.out _).mono ?_
        rintro e w1 ⟨rfl, g⟩
        obtain ⟨y2, rfl⟩ := Wb.next (x := y1) g
        clear g
        go_wp2
        go_ret
        exact ⟨ret_bool' (by rw [E.out]; simp [c0]), KK.out y2⟩
      | false =>
        cases O1 with
        | false =>
          go_enter Try.func41, Try.ntmps41
          go_upto_region 1 with fail
          refine to_cls ?_
          intro U0 hU0 y0
          have r_a : ∀ z : Wb U0, Row z.at (w.heap.size) [.int .i64 x0, .int .u64 x1, .int .u64 x2, .int .u64 x3] 25 := Row.next (Row.old (Row.new' _ [.int .i64 x0, .int .u64 x1, .int .u64 x2, .int .u64 x3] _ _ (by simp)) _) hU0
          have r_b : ∀ z : Wb U0, Row z.at (w.heap.size + 1) [.int .i64 u0, .int .u64 u1, .int .u64 u2, .int .u64 u3] 25 := Row.next (Row.new' _ [.int .i64 u0, .int .u64 u1, .int .u64 u2, .int .u64 u3] _ _ (by simp)) hU0
          have KK := Lib.hid (KB.next (KB.alloc (KB.alloc (Below.refl _ _) _) _) hU0)
          clear hU0
          have c_a_0 : ∀ z : Wb U0, z.at.cell? ⟨w.heap.size, 0, none⟩ = some (.int .i64 x0) := fun z => (r_a z).cell 0
          have c_a_1 : ∀ z : Wb U0, z.at.cell? ⟨w.heap.size, 1, none⟩ = some (.int .u64 x1) := fun z => (r_a z).cell 1
          have c_a_2 : ∀ z : Wb U0, z.at.cell? ⟨w.heap.size, 2, none⟩ = some (.int .u64 x2) := fun z => (r_a z).cell 2
          have c_a_3 : ∀ z : Wb U0, z.at.cell? ⟨w.heap.size, 3, none⟩ = some (.int .u64 x3) := fun z => (r_a z).cell 3
          have c_b_0 : ∀ z : Wb U0, z.at.cell? ⟨w.heap.size + 1, 0, none⟩ = some (.int .i64 u0) := fun z => (r_b z).cell 0
          have c_b_1 : ∀ z : Wb U0, z.at.cell? ⟨w.heap.size + 1, 1, none⟩ = some (.int .u64 u1) := fun z => (r_b z).cell 1
          have c_b_2 : ∀ z : Wb U0, z.at.cell? ⟨w.heap.size + 1, 2, none⟩ = some (.int .u64 u2) := fun z => (r_b z).cell 2
          have c_b_3 : ∀ z : Wb U0, z.at.cell? ⟨w.heap.size + 1, 3, none⟩ = some (.int .u64 u3) := fun z => (r_b z).cell 3
          go_wp2_with fail
          refine (CA.out _).mono ?_
          rintro e w1 ⟨rfl, g⟩
          obtain ⟨y1, rfl⟩ := Wb.next (x := y0) g
          clear g
          go_wp2_with fail
          refine (CB.out _).mono ?_
          rintro e w1 ⟨rfl, g⟩
          obtain ⟨y2, rfl⟩ := Wb.next (x := y1) g
          clear g
          go_wp2_with fail
          refine (OA.out _).mono ?_
          rintro e w1 ⟨rfl, g⟩
          obtain ⟨y3, rfl⟩ := Wb.next (x := y2) g
          clear g
          go_wp2
          go_ret
          exact ⟨ret_bool' (by rw [E.out]; simp [c0]), KK.out y3⟩
        | true =>
          go_enter Try.func41, Try.ntmps41
          go_upto_region 1 with fail
          refine to_cls ?_
          intro U0 hU0 y0
          have r_a : ∀ z : Wb U0, Row z.at (w.heap.size) [.int .i64 x0, .int .u64 x1, .int .u64 x2, .int .u64 x3] 25 := Row.next (Row.old (Row.new' _ [.int .i64 x0, .int .u64 x1, .int .u64 x2, .int .u64 x3] _ _ (by simp)) _) hU0
          have r_b : ∀ z : Wb U0, Row z.at (w.heap.size + 1) [.int .i64 u0, .int .u64 u1, .int .u64 u2, .int .u64 u3] 25 := Row.next (Row.new' _ [.int .i64 u0, .int .u64 u1, .int .u64 u2, .int .u64 u3] _ _ (by simp)) hU0
          have KK := Lib.hid (KB.next (KB.alloc (KB.alloc (Below.refl _ _) _) _) hU0)
          clear hU0
          have c_a_0 : ∀ z : Wb U0, z.at.cell? ⟨w.heap.size, 0, none⟩ = some (.int .i64 x0) := fun z => (r_a z).cell 0
          have c_a_1 : ∀ z : Wb U0, z.at.cell? ⟨w.heap.size, 1, none⟩ = some (.int .u64 x1) := fun z => (r_a z).cell 1
          have c_a_2 : ∀ z : Wb U0, z.at.cell? ⟨w.heap.size, 2, none⟩ = some (.int .u64 x2) := fun z => (r_a z).cell 2
          have c_a_3 : ∀ z : Wb U0, z.at.cell? ⟨w.heap.size, 3, none⟩ = some (.int .u64 x3) := fun z => (r_a z).cell 3
          have c_b_0 : ∀ z : Wb U0, z.at.cell? ⟨w.heap.size + 1, 0, none⟩ = some (.int .i64 u0) := fun z => (r_b z).cell 0
          have c_b_1 : ∀ z : Wb U0, z.at.cell? ⟨w.heap.size + 1, 1, none⟩ = some (.int .u64 u1) := fun z => (r_b z).cell 1
          have c_b_2 : ∀ z : Wb U0, z.at.cell? ⟨w.heap.size + 1, 2, none⟩ = some (.int .u64 u2) := fun z => (r_b z).cell 2
          have c_b_3 : ∀ z : Wb U0, z.at.cell? ⟨w.heap.size + 1, 3, none⟩ = some (.int .u64 u3) := fun z => (r_b z).cell 3
          go_wp2_with fail
          refine (CA.out _).mono ?_
          rintro e w1 ⟨rfl, g⟩
          obtain ⟨y1, rfl⟩ := Wb.next (x := y0) g
          clear g
          go_wp2_with fail
          refine (CB.out _).mono ?_
          rintro e w1 ⟨rfl, g⟩
          obtain ⟨y2, rfl⟩ := Wb.next (x := y1) g
          clear g
          go_wp2_with fail
          refine (OA.out _).mono ?_
          rintro e w1 ⟨rfl, g⟩
          obtain ⟨y3, rfl⟩ := Wb.next (x := y2) g
          clear g
          go_wp2_with fail
          refine (OB.out _).mono ?_
          rintro e w1 ⟨rfl, g⟩
          obtain ⟨y4, rfl⟩ := Wb.next (x := y3) g
          clear g
          go_wp2
          go_ret
          exact ⟨ret_bool' (by rw [E.out]; simp [c0]), KK.out y4⟩
    | false =>
      have c0 := True.intro
      go_enter Try.func41, Try.ntmps41
      go_upto_region 1 with fail
      refine to_cls ?_
      intro U0 hU0 y0
      have r_a : ∀ z : Wb U0, Row z.at (w.heap.size) [.int .i64 x0, .int .u64 x1, .int .u64 x2, .int .u64 x3] 25 := Row.next (Row.old (Row.new' _ [.int .i64 x0, .int .u64 x1, .int .u64 x2, .int .u64 x3] _ _ (by simp)) _) hU0
      have r_b : ∀ z : Wb U0, Row z.at (w.heap.size + 1) [.int .i64 u0, .int .u64 u1, .int .u64 u2, .int .u64 u3] 25 := Row.next (Row.new' _ [.int .i64 u0, .int .u64 u1, .int .u64 u2, .int .u64 u3] _ _ (by simp)) hU0
      have KK := Lib.hid (KB.next (KB.alloc (KB.alloc (Below.refl _ _) _) _) hU0)
      clear hU0
      have c_a_0 : ∀ z : Wb U0, z.at.cell? ⟨w.heap.size, 0, none⟩ = some (.int .i64 x0) := fun z => (r_a z).cell 0
      have c_a_1 : ∀ z : Wb U0, z.at.cell? ⟨w.heap.size, 1, none⟩ = some (.int .u64 x1) := fun z => (r_a z).cell 1
      have c_a_2 : ∀ z : Wb U0, z.at.cell? ⟨w.heap.size, 2, none⟩ = some (.int .u64 x2) := fun z => (r_a z).cell 2
      have c_a_3 : ∀ z : Wb U0, z.at.cell? ⟨w.heap.size, 3, none⟩ = some (.int .u64 x3) := fun z => (r_a z).cell 3
      have c_b_0 : ∀ z : Wb U0, z.at.cell? ⟨w.heap.size + 1, 0, none⟩ = some (.int .i64 u0) := fun z => (r_b z).cell 0
      have c_b_1 : ∀ z : Wb U0, z.at.cell? ⟨w.heap.size + 1, 1, none⟩ = some (.int .u64 u1) := fun z => (r_b z).cell 1
      have c_b_2 : ∀ z : Wb U0, z.at.cell? ⟨w.heap.size + 1, 2, none⟩ = some (.int .u64 u2) := fun z => (r_b z).cell 2
      have c_b_3 : ∀ z : Wb U0, z.at.cell? ⟨w.heap.size + 1, 3, none⟩ = some (.int .u64 u3) := fun z => (r_b z).cell 3
      go_wp2_with fail
      refine (CA.out _).mono ?_
      rintro e w1 ⟨rfl, g⟩
      obtain ⟨y1, rfl⟩ := Wb.next (x := y0) g
      clear g
      go_wp2_with fail
      refine (CB.out _).mono ?_
      rintro e w1 ⟨rfl, g⟩
      obtain ⟨y2, rfl⟩ := Wb.next (x := y1) g
      clear g
      go_wp2
      go_ret
      exact ⟨ret_bool' (by rw [E.out]; simp), KK.out y2⟩
end Go.Proofs.Yteiokenijmaloaa
