/-
  Layer 1: the law RelHas.
-/
import Derived.Test.YtjgfnemdklljmaaAt
set_option linter.unusedSimpArgs false
set_option linter.unusedVariables false
namespace GrR
open Go
theorem same_add (n : Nat) (T : Mx) (a b : Nat) (ha : a < n) (hb : b < 128) : sameB n T (addM T a b) = T a b := by
  cases c : T a b with
  | true =>
    refine sameB_iff.2 fun i _ j _ => ?_
    unfold addM
    by_cases e : i = a ∧ j = b
    · rw [e.1, e.2, c]; rfl
    · have : (i == a && j == b) = false := by
        simp only [Bool.and_eq_false_iff, beq_eq_false_iff_ne]
        by_cases q : i = a
        · exact .inr fun r => e ⟨q, r⟩
        · exact .inl q
      rw [this, Bool.or_false]
  | false =>
    refine sameB_no fun h => ?_
    have := h a ha b hb
    unfold addM at this
    rw [c] at this
    simp at this
end GrR
namespace Go.Proofs.Ytjgfnemdklljmaa
open Go.RowKit GrR
theorem Row.otherB {w w' : World} {B C : Nat} {L : List Value} {T : TypeId} (h : Row w B L T) (b : OnlyB C w w') (hn : B ≠ C) : Row w' B L T := (b.block B h.lt hn).trans h
theorem TabAt.other {w w' : World} {O C n : Nat} {T : Mx} (h : TabAt w O n T) (b : OnlyB C w w') (hn : O + n < C) : TabAt w' O n T :=
  ⟨h.outer.otherB b (by omega), fun i hi => (h.rows i hi).otherB b (by omega)⟩

set_option maxRecDepth 100000 in
set_option maxHeartbeats 12800000 in
theorem RelHas_walk (n : Int) (v : Value) (P : List Pr) (a b : Int) (w : World) (h : SlP w v P) :
    Calls Try.prog 4 #[.int .i64 n, v, .agg #[.int .i64 a, .int .i64 b]] w fun e w' => e = .returned (.bool true) ∧ Below w.heap.size w w' := by
  have S0 := Lib.hid h
  clear h
  have AW := Lib.hid (fun w => awake_any w)
  go_enter Try.func4, Try.ntmps4
  go_upto_region 1 with fail
  refine to_cls ?_
  intro U0 hU0 z0
  have BX := Lib.hid (Row.next (Row.new w [.int .i64 a, .int .i64 b] 37) hU0 z0)
  have B0 := Lib.hid (KB.next (KB.alloc (Below.refl _ w) (.cells #[.int .i64 a, .int .i64 b] 37)) hU0 z0)
  clear hU0
  obtain ⟨X, hX⟩ : ∃ X, X = w.heap.size := ⟨_, rfl⟩
  have XE := Lib.hid hX
  rw [← hX] at BX
  simp only [← hX]
  clear hX
  go_wp2_with fail
  refine (AW.out _).mono ?_
  rintro e w1 ⟨rfl, hb⟩
  have BX1 := Lib.hid (BX.out.below hb)
  have B1 := Lib.hid (B0.out.trans (hb.mono B0.out.size))
  clear hb BX B0
  go_wp2_with fail
  refine (bothZ n _ P _ (S0.out.below B1.out)).mono ?_
  rintro e w2 ⟨pr, rfl, hb, hp⟩
  have BX2 := Lib.hid (BX1.out.below hb)
  have B2 := Lib.hid (B1.out.trans (hb.mono B1.out.size))
  have SZ1 := Lib.hid B1.out.size
  clear hb BX1
  rcases hp with rfl | ⟨m, B, O, e1, l1, rfl, hr, ht, lo1, hi1⟩
  · go_wp2; go_ret; exact ⟨rfl, B2.out⟩
  subst e1
  have LO := Lib.hid lo1
  have HI := Lib.hid hi1
  have R2 := Lib.hid hr
  have T2 := Lib.hid ht
  have SU := Lib.hid hr.sup
  have XL := Lib.hid (show X < B by rw [XE.out]; have := SZ1.out; have := B1.out.size; omega)
  clear hr ht lo1 hi1 B1
  go_wp2_with fail
  refine (copy_any B m _ _ R2.out).mono ?_
  rintro e w3 ⟨rfl, hr, hb⟩
  have C3 := Lib.hid hr
  have R3 := Lib.hid (R2.out.below hb)
  have T3 := Lib.hid (T2.out.below hb)
  have BX3 := Lib.hid (BX2.out.below hb)
  have B3 := Lib.hid (B2.out.trans (hb.mono B2.out.size))
  obtain ⟨CB, hCB⟩ : ∃ b, b = w2.heap.size := ⟨_, rfl⟩
  have CX := Lib.hid (show CB ≠ B by have := R2.out.lt; omega)
  rw [← hCB] at C3 ⊢
  clear hr hb hCB R2 T2 BX2 B2
  have x0 : ∀ z : Wb w3, z.at.cell? ⟨X, 0, none⟩ = some (.int .i64 a) := fun z => (BX3.out.below z.bel).cell 0
  have x1 : ∀ z : Wb w3, z.at.cell? ⟨X, 1, none⟩ = some (.int .i64 b) := fun z => (BX3.out.below z.bel).cell 1
  have PH := Lib.hid (fun z : Wb w3 => Calls.same_below (relhas_any B m (ofM P) a b z.at (R3.out.below z.bel)) (Below.refl _ _))
  have QH := Lib.hid (fun z : Wb w3 => Calls.same_below (rhas_any O m (ofM P) a b z.at (by omega) (T3.out.below z.bel)) (Below.refl _ _))
  have SH := Lib.hid (fun z : Wb w3 => same_yes CB B m _ _ z.at (C3.out.below z.bel) (R3.out.below z.bel) (fun _ _ => rfl))
  obtain ⟨q, hq⟩ : ∃ q, q = hasZ m (ofM P) a b := ⟨_, rfl⟩
  rw [← hq] at PH QH
  have HQ := Lib.hid hq
  clear hq
  have qq : (q != q) = false := by simp
  go_wp2_with fail
  refine wp_region_wb (by kernel_rfl) (by kernel_rfl) ?_
  repeat (go_big_quiet_step (first | (go_at_call 20; with_reducible exact Calls.wb (x := _) (PH.out _)) | (go_at_call 24; with_reducible exact Calls.wb (x := _) (QH.out _)) | (go_at_call 25; with_reducible exact Calls.wb (x := _) (SH.out _))))
  refine wpQuiet_nil ?_
  rintro _ ⟨z, rfl⟩
  have C4 := Lib.hid (C3.out.below z.bel)
  have R4 := Lib.hid (R3.out.below z.bel)
  have T4 := Lib.hid (T3.out.below z.bel)
  have BX4 := Lib.hid (BX3.out.below z.bel)
  have B4 := Lib.hid (KB.at B3.out z)
  have y0 : z.at.cell? ⟨X, 0, none⟩ = some (.int .i64 a) := x0 z
  have y1 : z.at.cell? ⟨X, 1, none⟩ = some (.int .i64 b) := x1 z
  clear x0 x1 PH QH SH qq C3 R3 T3 BX3 B3
  go_wp2_with fail
  refine (add_any B m (ofM P) a b _ R4.out).mono ?_
  intro e w5 hp
  unfold AddPost at hp
  cases cin : (thingB m a && thingB m b) with
  | false =>
    rw [if_neg (by rw [cin]; simp)] at hp
    obtain ⟨rfl, rfl⟩ := hp
    have QF := Lib.hid (show q = false by rw [HQ.out, hasZ, cin]; rfl)
    have IC := Lib.hid (is_any CB O m (ofM P) _ C4.out T4.out)
    have CI := Lib.hid (show ¬ ((0 ≤ a ∧ a < (m : Int)) ∧ (0 ≤ b ∧ b < (m : Int))) from fun h => by
      have : (thingB m a && thingB m b) = true := by unfold thingB; rw [decide_eq_true h.1, decide_eq_true h.2]; rfl
      rw [cin] at this; cases this)
    clear cin
    have fin : ∀ (U : World) (_ : Below z.at.heap.size z.at U), RelAt U B m (ofM P) ∧ RelAt U CB m (ofM P) ∧ Row U X [.int .i64 a, .int .i64 b] 37 ∧ Below w.heap.size w U := fun U k => ⟨R4.out.below k, C4.out.below k, BX4.out.below k, B4.out.trans (k.mono B4.out.size)⟩
    have FIN := Lib.hid fin
    clear fin
    by_cases d1 : 0 ≤ a
    · have c1 : decide (a ≥ 0) = true := by simpa using d1
      by_cases d2 : 0 ≤ b
      · have c2 : decide (b ≥ 0) = true := by simpa using d2
        by_cases d3 : a < (m : Int)
        · have c3 : decide (a < (m : Int)) = true := by simpa using d3
          have c4 : decide (b < (m : Int)) = false := by have := CI.out; simp; omega
          clear d1 d2 d3
          go_wp2_with fail
          refine IC.out.mono ?_
          rintro e w6 ⟨rfl, hb⟩
          obtain ⟨r6, c6, x6, b6⟩ := FIN.out _ hb
          have B6 := Lib.hid b6
          have x0 : ∀ z : Wb w6, z.at.cell? ⟨X, 0, none⟩ = some (.int .i64 a) := fun z => (x6.below z.bel).cell 0
          have x1 : ∀ z : Wb w6, z.at.cell? ⟨X, 1, none⟩ = some (.int .i64 b) := fun z => (x6.below z.bel).cell 1
          have PH := Lib.hid (fun z : Wb w6 => Calls.same_below (relhas_any B m (ofM P) a b z.at (r6.below z.bel)) (Below.refl _ _))
          rw [← HQ.out, QF.out] at PH
          have SH := Lib.hid (fun z : Wb w6 => same_yes CB B m _ _ z.at (c6.below z.bel) (r6.below z.bel) (fun _ _ => rfl))
          clear hb r6 c6 x6 b6 y0 y1
          go_wp2_with fail
          refine wp_region_wb (by kernel_rfl) (by kernel_rfl) ?_
          repeat (go_big_quiet_step (first | (go_at_call 20; with_reducible exact Calls.wb (x := _) (PH.out _)) | (go_at_call 25; with_reducible exact Calls.wb (x := _) (SH.out _))))
          refine wpQuiet_nil ?_
          rintro _ ⟨z9, rfl⟩
          clear x0 x1
          go_wp2
          go_ret
          exact ⟨rfl, KB.at B6.out z9⟩
        · have c3 : decide (a < (m : Int)) = false := by simpa using d3
          clear d1 d2 d3
          go_wp2_with fail
          refine IC.out.mono ?_
          rintro e w6 ⟨rfl, hb⟩
          obtain ⟨r6, c6, x6, b6⟩ := FIN.out _ hb
          have B6 := Lib.hid b6
          have x0 : ∀ z : Wb w6, z.at.cell? ⟨X, 0, none⟩ = some (.int .i64 a) := fun z => (x6.below z.bel).cell 0
          have x1 : ∀ z : Wb w6, z.at.cell? ⟨X, 1, none⟩ = some (.int .i64 b) := fun z => (x6.below z.bel).cell 1
          have PH := Lib.hid (fun z : Wb w6 => Calls.same_below (relhas_any B m (ofM P) a b z.at (r6.below z.bel)) (Below.refl _ _))
          rw [← HQ.out, QF.out] at PH
          have SH := Lib.hid (fun z : Wb w6 => same_yes CB B m _ _ z.at (c6.below z.bel) (r6.below z.bel) (fun _ _ => rfl))
          clear hb r6 c6 x6 b6 y0 y1
          go_wp2_with fail
          refine wp_region_wb (by kernel_rfl) (by kernel_rfl) ?_
          repeat (go_big_quiet_step (first | (go_at_call 20; with_reducible exact Calls.wb (x := _) (PH.out _)) | (go_at_call 25; with_reducible exact Calls.wb (x := _) (SH.out _))))
          refine wpQuiet_nil ?_
          rintro _ ⟨z9, rfl⟩
          clear x0 x1
          go_wp2
          go_ret
          exact ⟨rfl, KB.at B6.out z9⟩
      · have c2 : decide (b ≥ 0) = false := by simpa using d2
        clear d1 d2
        go_wp2_with fail
        refine IC.out.mono ?_
        rintro e w6 ⟨rfl, hb⟩
        obtain ⟨r6, c6, x6, b6⟩ := FIN.out _ hb
        have B6 := Lib.hid b6
        have x0 : ∀ z : Wb w6, z.at.cell? ⟨X, 0, none⟩ = some (.int .i64 a) := fun z => (x6.below z.bel).cell 0
        have x1 : ∀ z : Wb w6, z.at.cell? ⟨X, 1, none⟩ = some (.int .i64 b) := fun z => (x6.below z.bel).cell 1
        have PH := Lib.hid (fun z : Wb w6 => Calls.same_below (relhas_any B m (ofM P) a b z.at (r6.below z.bel)) (Below.refl _ _))
        rw [← HQ.out, QF.out] at PH
        have SH := Lib.hid (fun z : Wb w6 => same_yes CB B m _ _ z.at (c6.below z.bel) (r6.below z.bel) (fun _ _ => rfl))
        clear hb r6 c6 x6 b6 y0 y1
        go_wp2_with fail
        refine wp_region_wb (by kernel_rfl) (by kernel_rfl) ?_
        repeat (go_big_quiet_step (first | (go_at_call 20; with_reducible exact Calls.wb (x := _) (PH.out _)) | (go_at_call 25; with_reducible exact Calls.wb (x := _) (SH.out _))))
        refine wpQuiet_nil ?_
        rintro _ ⟨z9, rfl⟩
        clear x0 x1
        go_wp2
        go_ret
        exact ⟨rfl, KB.at B6.out z9⟩
    · have c1 : decide (a ≥ 0) = false := by simpa using d1
      clear d1
      go_wp2_with fail
      refine IC.out.mono ?_
      rintro e w6 ⟨rfl, hb⟩
      obtain ⟨r6, c6, x6, b6⟩ := FIN.out _ hb
      have B6 := Lib.hid b6
      have x0 : ∀ z : Wb w6, z.at.cell? ⟨X, 0, none⟩ = some (.int .i64 a) := fun z => (x6.below z.bel).cell 0
      have x1 : ∀ z : Wb w6, z.at.cell? ⟨X, 1, none⟩ = some (.int .i64 b) := fun z => (x6.below z.bel).cell 1
      have PH := Lib.hid (fun z : Wb w6 => Calls.same_below (relhas_any B m (ofM P) a b z.at (r6.below z.bel)) (Below.refl _ _))
      rw [← HQ.out, QF.out] at PH
      have SH := Lib.hid (fun z : Wb w6 => same_yes CB B m _ _ z.at (c6.below z.bel) (r6.below z.bel) (fun _ _ => rfl))
      clear hb r6 c6 x6 b6 y0 y1
      go_wp2_with fail
      refine wp_region_wb (by kernel_rfl) (by kernel_rfl) ?_
      repeat (go_big_quiet_step (first | (go_at_call 20; with_reducible exact Calls.wb (x := _) (PH.out _)) | (go_at_call 25; with_reducible exact Calls.wb (x := _) (SH.out _))))
      refine wpQuiet_nil ?_
      rintro _ ⟨z9, rfl⟩
      clear x0 x1
      go_wp2
      go_ret
      exact ⟨rfl, KB.at B6.out z9⟩
  | true =>
    rw [if_pos cin] at hp
    obtain ⟨rfl, hr, ho⟩ := hp
    simp only [Bool.and_eq_true, thingB, decide_eq_true_eq] at cin
    obtain ⟨⟨a0, a1⟩, b0, b1⟩ := cin
    obtain ⟨x, rfl⟩ := Int.eq_ofNat_of_zero_le a0
    obtain ⟨y, rfl⟩ := Int.eq_ofNat_of_zero_le b0
    simp only [Int.toNat_natCast] at hr
    have R5 := Lib.hid hr
    have C5 := Lib.hid (C4.out.other ho CX.out)
    have T5 := Lib.hid (T4.out.other ho HI.out)
    have BX5 := Lib.hid (BX4.out.otherB ho (by have := XL.out; omega))
    have B5 := Lib.hid (B4.out.trans (ho.below (by have := XL.out; have := XE.out; omega) B4.out.size))
    clear hr ho C4 R4 T4 BX4 B4 y0 y1 HQ
    have y0 : w5.cell? ⟨X, 0, none⟩ = some (.int .i64 (x : Int)) := BX5.out.cell 0
    have y1 : w5.cell? ⟨X, 1, none⟩ = some (.int .i64 (y : Int)) := BX5.out.cell 1
    have c1 : decide ((x : Int) ≥ 0) = true := by simp
    have c2 : decide ((y : Int) ≥ 0) = true := by simp
    have c3 : decide ((x : Int) < (m : Int)) = true := by simpa using a1
    have c4 : decide ((y : Int) < (m : Int)) = true := by simpa using b1
    have LX := Lib.hid (show x < m ∧ y < m by omega)
    have IC := Lib.hid (is_any CB O m (ofM P) _ C5.out T5.out)
    go_wp2_with fail
    refine IC.out.mono ?_
    rintro e w6 ⟨rfl, hb⟩
    have R6 := Lib.hid (R5.out.below hb)
    have C6 := Lib.hid (C5.out.below hb)
    have T6 := Lib.hid (T5.out.below hb)
    have BX6 := Lib.hid (BX5.out.below hb)
    have B6 := Lib.hid (B5.out.trans (hb.mono B5.out.size))
    clear hb R5 C5 T5 BX5 B5 y0 y1 c1 c2 c3 c4
    have x0 : ∀ z : Wb w6, z.at.cell? ⟨X, 0, none⟩ = some (.int .i64 (x : Int)) := fun z => (BX6.out.below z.bel).cell 0
    have x1 : ∀ z : Wb w6, z.at.cell? ⟨X, 1, none⟩ = some (.int .i64 (y : Int)) := fun z => (BX6.out.below z.bel).cell 1
    have t0 : ∀ z : Wb w6, z.at.cell? ⟨O, x, none⟩ = some (.slice (some ⟨O + 1 + x, 0, none⟩) m m) := fun z => T6.out.row x LX.out.1 _ z.bel
    have t1 : ∀ z : Wb w6, z.at.cell? ⟨O + 1 + x, y, none⟩ = some (.bool (ofM P x y)) := fun z => T6.out.bit x y LX.out.1 LX.out.2 _ z.bel
    have PH := Lib.hid (fun z : Wb w6 => Calls.same_below (relhas_any B m (addM (ofM P) x y) (x : Int) (y : Int) z.at (R6.out.below z.bel)) (Below.refl _ _))
    have HH := Lib.hid (show hasZ m (addM (ofM P) x y) (x : Int) (y : Int) = true by
      unfold hasZ thingB addM
      simp [LX.out.1, LX.out.2])
    rw [HH.out] at PH
    have SH := Lib.hid (fun z : Wb w6 => same_any CB B m m _ _ z.at (C6.out.below z.bel) (R6.out.below z.bel))
    have SE := Lib.hid (show (decide (m = m) && sameB m (ofM P) (addM (ofM P) x y)) = ofM P x y by rw [same_add m _ x y LX.out.1 (by have := LX.out; omega)]; simp)
    rw [SE.out] at SH
    cases ct : ofM P x y
    all_goals
      rw [ct] at t1 SH
      go_wp2_with fail
      refine wp_region_wb (by kernel_rfl) (by kernel_rfl) ?_
      repeat (go_big_quiet_step (first | (go_at_call 20; with_reducible exact Calls.wb (x := _) (PH.out _)) | (go_at_call 25; with_reducible exact Calls.wb (x := _) (SH.out _))))
      refine wpQuiet_nil ?_
      rintro _ ⟨z9, rfl⟩
      clear x0 x1 t0 t1
      go_wp2
      go_ret
      exact ⟨rfl, KB.at B6.out z9⟩
end Go.Proofs.Ytjgfnemdklljmaa
