/-
  Layer 3, the laws' walks, further: two instructions; one bit turned.
-/
import Derived.Test.YtnehdgapcgbdeaaDoorMe
set_option linter.unusedSimpArgs false
set_option linter.unusedVariables false
namespace GrI
theorem differ {op d n m imm kind op2 d2 n2 m2 imm2 kind2 : Int} (h : (⟨op, d, n, m, imm, kind⟩ : I) ≠ ⟨op2, d2, n2, m2, imm2, kind2⟩) :
    (op == op2) = false ∨ (op = op2 ∧ (d == d2) = false) ∨ (op = op2 ∧ d = d2 ∧ (n == n2) = false) ∨ (op = op2 ∧ d = d2 ∧ n = n2 ∧ (m == m2) = false) ∨ (op = op2 ∧ d = d2 ∧ n = n2 ∧ m = m2 ∧ (imm == imm2) = false) ∨ (op = op2 ∧ d = d2 ∧ n = n2 ∧ m = m2 ∧ imm = imm2 ∧ (kind == kind2) = false) := by
  simp only [beq_eq_false_iff_ne]
  by_cases e1 : op = op2
  · by_cases e2 : d = d2
    · by_cases e3 : n = n2
      · by_cases e4 : m = m2
        · by_cases e5 : imm = imm2
          · by_cases e6 : kind = kind2
            · subst e1 e2 e3 e4 e5 e6; exact absurd rfl h
            · exact .inr (.inr (.inr (.inr (.inr ⟨e1, e2, e3, e4, e5, e6⟩))))
          · exact .inr (.inr (.inr (.inr (.inl ⟨e1, e2, e3, e4, e5⟩))))
        · exact .inr (.inr (.inr (.inl ⟨e1, e2, e3, e4⟩)))
      · exact .inr (.inr (.inl ⟨e1, e2, e3⟩))
    · exact .inr (.inl ⟨e1, e2⟩)
  · exact .inl e1
end GrI
namespace Go.Proofs.YtnehdgapcgbdeaaDoor
open Go.RowKit
theorem St.two {w w1 : World} {x : GrI.I} (h : St w w1 w.heap.size x) (y : GrI.I) : Bx (w1.alloc (ibox y)) w1.heap.size y := Bx.start w1 y

set_option maxHeartbeats 3200000 in
theorem IsaUnlike_walk (op d n m imm kind op2 d2 n2 m2 imm2 kind2 : Int) (hb : -9223372036854775808 ≤ imm ∧ imm ≤ 9223372036854775807) (hb2 : -9223372036854775808 ≤ imm2 ∧ imm2 ≤ 9223372036854775807) (w : World) (hs : ShAt w) :
    Calls Tryd.prog 7 #[.agg #[.int .i64 op, .int .i64 d, .int .i64 n, .int .i64 m, .int .i64 imm, .int .i64 kind], .agg #[.int .i64 op2, .int .i64 d2, .int .i64 n2, .int .i64 m2, .int .i64 imm2, .int .i64 kind2]] w fun e w' => e = .returned (.bool true) ∧ Below w.heap.size w w' := by
  have S := Lib.hid (St.start hs (⟨op, d, n, m, imm, kind⟩ : GrI.I))
  clear hs
  cases h : encB ⟨op, d, n, m, imm, kind⟩ with
  | false =>
    have EX := Lib.hid (show ∀ w, ShAt w → Calls Tryd.prog 10 #[.agg #[.int .i64 op, .int .i64 d, .int .i64 n, .int .i64 m, .int .i64 imm, .int .i64 kind]] w fun e w' => e = .returned (.tuple #[.int .u32 0, .int .i64 30]) ∧ Below w.heap.size w w' from fun w hs => enc_no ⟨op, d, n, m, imm, kind⟩ w hs hb h)
    have EY := Lib.hid (fun w hs => xenc_all ⟨op2, d2, n2, m2, imm2, kind2⟩ w hs hb2.1 hb2.2)
    obtain ⟨v2, hv2⟩ : ∃ v, v = encV ⟨op2, d2, n2, m2, imm2, kind2⟩ := ⟨_, rfl⟩
    obtain ⟨k2, hk2⟩ : ∃ v, v = GrI.code (encB ⟨op2, d2, n2, m2, imm2, kind2⟩) := ⟨_, rfl⟩
    rw [← hv2, ← hk2] at EY
    have EY := Lib.hid (show ∀ w, ShAt w → Calls Tryd.prog 10 #[.agg #[.int .i64 op2, .int .i64 d2, .int .i64 n2, .int .i64 m2, .int .i64 imm2, .int .i64 kind2]] w fun e w' => e = .returned (.tuple #[.int .u32 v2, .int .i64 k2]) ∧ Below w.heap.size w w' from EY.out)
    clear h hb hb2 hv2 hk2
    go_enter Tryd.func7, Tryd.ntmps7
    go_upto_region 1 with fail
    obtain ⟨w0, hw0⟩ : ∃ w0, w0 = (w.alloc (ibox ⟨op, d, n, m, imm, kind⟩)).alloc (ibox ⟨op2, d2, n2, m2, imm2, kind2⟩) := ⟨_, rfl⟩
    have S0 := Lib.hid (show St w w0 w.heap.size ⟨op, d, n, m, imm, kind⟩ by rw [hw0]; exact S.out.alloc _)
    have T0 := Lib.hid (show Bx w0 (w.alloc (ibox ⟨op, d, n, m, imm, kind⟩)).heap.size ⟨op2, d2, n2, m2, imm2, kind2⟩ by rw [hw0]; exact Bx.start _ _)
    simp only [ibox, World.size_alloc] at hw0 T0
    rw [← hw0]
    clear hw0
    go_wp2_with fail
    refine (iawake_any _ S0.out.sh).mono ?_
    rintro e w1 ⟨rfl, b⟩
    have S1 := Lib.hid (S0.out.below b)
    have T1 := Lib.hid (T0.out.below b)
    clear b
    have c0 := S1.out.box.c0
    have c1 := S1.out.box.c1
    have c2 := S1.out.box.c2
    have c3 := S1.out.box.c3
    have c4 := S1.out.box.c4
    have c5 := S1.out.box.c5
    go_wp2_with fail
    refine (EX.out _ S1.out.sh).mono ?_
    rintro e w2 ⟨rfl, b⟩
    have S2 := Lib.hid (S1.out.below b)
    have T2 := Lib.hid (T1.out.below b)
    clear b
    clear c0 c1 c2 c3 c4 c5
    have t0 := T2.out.c0
    have t1 := T2.out.c1
    have t2 := T2.out.c2
    have t3 := T2.out.c3
    have t4 := T2.out.c4
    have t5 := T2.out.c5
    go_wp2_with fail
    refine (EY.out _ S2.out.sh).mono ?_
    rintro e w3 ⟨rfl, b⟩
    have S3 := Lib.hid (S2.out.below b)
    have T3 := Lib.hid (T2.out.below b)
    clear b
    clear t0 t1 t2 t3 t4 t5
    go_wp2
    go_ret
    exact ⟨rfl, S3.out.bel⟩
  | true =>
    cases g : encB ⟨op2, d2, n2, m2, imm2, kind2⟩ with
    | false =>
      have EX := Lib.hid (show ∀ w, ShAt w → Calls Tryd.prog 10 #[.agg #[.int .i64 op, .int .i64 d, .int .i64 n, .int .i64 m, .int .i64 imm, .int .i64 kind]] w fun e w' => e = .returned (.tuple #[.int .u32 (GrI.word ⟨op, d, n, m, imm, kind⟩), .int .i64 0]) ∧ Below w.heap.size w w' from fun w hs => enc_yes ⟨op, d, n, m, imm, kind⟩ w hs hb h)
      have EY := Lib.hid (show ∀ w, ShAt w → Calls Tryd.prog 10 #[.agg #[.int .i64 op2, .int .i64 d2, .int .i64 n2, .int .i64 m2, .int .i64 imm2, .int .i64 kind2]] w fun e w' => e = .returned (.tuple #[.int .u32 0, .int .i64 30]) ∧ Below w.heap.size w w' from fun w hs => enc_no ⟨op2, d2, n2, m2, imm2, kind2⟩ w hs hb2 g)
      obtain ⟨V, hV⟩ : ∃ V, V = GrI.word ⟨op, d, n, m, imm, kind⟩ := ⟨_, rfl⟩
      rw [← hV] at EX
      clear h hb hb2 g hV
      go_enter Tryd.func7, Tryd.ntmps7
      go_upto_region 1 with fail
      obtain ⟨w0, hw0⟩ : ∃ w0, w0 = (w.alloc (ibox ⟨op, d, n, m, imm, kind⟩)).alloc (ibox ⟨op2, d2, n2, m2, imm2, kind2⟩) := ⟨_, rfl⟩
      have S0 := Lib.hid (show St w w0 w.heap.size ⟨op, d, n, m, imm, kind⟩ by rw [hw0]; exact S.out.alloc _)
      have T0 := Lib.hid (show Bx w0 (w.alloc (ibox ⟨op, d, n, m, imm, kind⟩)).heap.size ⟨op2, d2, n2, m2, imm2, kind2⟩ by rw [hw0]; exact Bx.start _ _)
      simp only [ibox, World.size_alloc] at hw0 T0
      rw [← hw0]
      clear hw0
      go_wp2_with fail
      refine (iawake_any _ S0.out.sh).mono ?_
      rintro e w1 ⟨rfl, b⟩
      have S1 := Lib.hid (S0.out.below b)
      have T1 := Lib.hid (T0.out.below b)
      clear b
      have c0 := S1.out.box.c0
      have c1 := S1.out.box.c1
      have c2 := S1.out.box.c2
      have c3 := S1.out.box.c3
      have c4 := S1.out.box.c4
      have c5 := S1.out.box.c5
      go_wp2_with fail
      refine (EX.out _ S1.out.sh).mono ?_
      rintro e w2 ⟨rfl, b⟩
      have S2 := Lib.hid (S1.out.below b)
      have T2 := Lib.hid (T1.out.below b)
      clear b
      clear c0 c1 c2 c3 c4 c5
      have t0 := T2.out.c0
      have t1 := T2.out.c1
      have t2 := T2.out.c2
      have t3 := T2.out.c3
      have t4 := T2.out.c4
      have t5 := T2.out.c5
      go_wp2_with fail
      refine (EY.out _ S2.out.sh).mono ?_
      rintro e w3 ⟨rfl, b⟩
      have S3 := Lib.hid (S2.out.below b)
      have T3 := Lib.hid (T2.out.below b)
      clear b
      clear t0 t1 t2 t3 t4 t5
      go_wp2
      go_ret
      exact ⟨rfl, S3.out.bel⟩
    | true =>
      have EX := Lib.hid (show ∀ w, ShAt w → Calls Tryd.prog 10 #[.agg #[.int .i64 op, .int .i64 d, .int .i64 n, .int .i64 m, .int .i64 imm, .int .i64 kind]] w fun e w' => e = .returned (.tuple #[.int .u32 (GrI.word ⟨op, d, n, m, imm, kind⟩), .int .i64 0]) ∧ Below w.heap.size w w' from fun w hs => enc_yes ⟨op, d, n, m, imm, kind⟩ w hs hb h)
      have EY := Lib.hid (show ∀ w, ShAt w → Calls Tryd.prog 10 #[.agg #[.int .i64 op2, .int .i64 d2, .int .i64 n2, .int .i64 m2, .int .i64 imm2, .int .i64 kind2]] w fun e w' => e = .returned (.tuple #[.int .u32 (GrI.word ⟨op2, d2, n2, m2, imm2, kind2⟩), .int .i64 0]) ∧ Below w.heap.size w w' from fun w hs => enc_yes ⟨op2, d2, n2, m2, imm2, kind2⟩ w hs hb2 g)
      have hx := encB_true h
      have hy := encB_true g
      clear h g hb hb2
      by_cases e : (⟨op, d, n, m, imm, kind⟩ : GrI.I) = ⟨op2, d2, n2, m2, imm2, kind2⟩
      · obtain ⟨V, hV⟩ : ∃ V, V = GrI.word ⟨op, d, n, m, imm, kind⟩ := ⟨_, rfl⟩
        rw [← e, ← hV] at EY
        rw [← hV] at EX
        simp only [GrI.I.mk.injEq] at e
        obtain ⟨rfl, rfl, rfl, rfl, rfl, rfl⟩ := e
        clear hV hx hy
        go_enter Tryd.func7, Tryd.ntmps7
        go_upto_region 1 with fail
        obtain ⟨w0, hw0⟩ : ∃ w0, w0 = (w.alloc (ibox ⟨op, d, n, m, imm, kind⟩)).alloc (ibox ⟨op, d, n, m, imm, kind⟩) := ⟨_, rfl⟩
        have S0 := Lib.hid (show St w w0 w.heap.size ⟨op, d, n, m, imm, kind⟩ by rw [hw0]; exact S.out.alloc _)
        have T0 := Lib.hid (show Bx w0 (w.alloc (ibox ⟨op, d, n, m, imm, kind⟩)).heap.size ⟨op, d, n, m, imm, kind⟩ by rw [hw0]; exact Bx.start _ _)
        simp only [ibox, World.size_alloc] at hw0 T0
        rw [← hw0]
        clear hw0
        go_wp2_with fail
        refine (iawake_any _ S0.out.sh).mono ?_
        rintro e w1 ⟨rfl, b⟩
        have S1 := Lib.hid (S0.out.below b)
        have T1 := Lib.hid (T0.out.below b)
        clear b
        have c0 := S1.out.box.c0
        have c1 := S1.out.box.c1
        have c2 := S1.out.box.c2
        have c3 := S1.out.box.c3
        have c4 := S1.out.box.c4
        have c5 := S1.out.box.c5
        go_wp2_with fail
        refine (EX.out _ S1.out.sh).mono ?_
        rintro e w2 ⟨rfl, b⟩
        have S2 := Lib.hid (S1.out.below b)
        have T2 := Lib.hid (T1.out.below b)
        clear b
        clear c0 c1 c2 c3 c4 c5
        have t0 := T2.out.c0
        have t1 := T2.out.c1
        have t2 := T2.out.c2
        have t3 := T2.out.c3
        have t4 := T2.out.c4
        have t5 := T2.out.c5
        go_wp2_with fail
        refine (EY.out _ S2.out.sh).mono ?_
        rintro e w3 ⟨rfl, b⟩
        have S3 := Lib.hid (S2.out.below b)
        have T3 := Lib.hid (T2.out.below b)
        clear b
        clear t0 t1 t2 t3 t4 t5
        have c0 := S3.out.box.c0
        have c1 := S3.out.box.c1
        have c2 := S3.out.box.c2
        have c3 := S3.out.box.c3
        have c4 := S3.out.box.c4
        have c5 := S3.out.box.c5
        have t0 := T3.out.c0
        have t1 := T3.out.c1
        have t2 := T3.out.c2
        have t3 := T3.out.c3
        have t4 := T3.out.c4
        have t5 := T3.out.c5
        go_wp2
        go_ret
        exact ⟨rfl, S3.out.bel⟩
      · have hne : GrI.word ⟨op, d, n, m, imm, kind⟩ ≠ GrI.word ⟨op2, d2, n2, m2, imm2, kind2⟩ := fun hw => e (GrI.word_inj _ _ hx hy hw)
        have df := GrI.differ e
        obtain ⟨V, hV⟩ : ∃ V, V = GrI.word ⟨op, d, n, m, imm, kind⟩ := ⟨_, rfl⟩
        obtain ⟨V2, hV2⟩ : ∃ V, V = GrI.word ⟨op2, d2, n2, m2, imm2, kind2⟩ := ⟨_, rfl⟩
        rw [← hV, ← hV2] at hne
        rw [← hV] at EX
        rw [← hV2] at EY
        have nv : (V == V2) = false := by simpa using hne
        clear hV hV2 hx hy e hne
        rcases df with f | ⟨rfl, f⟩ | ⟨rfl, rfl, f⟩ | ⟨rfl, rfl, rfl, f⟩ | ⟨rfl, rfl, rfl, rfl, f⟩ | ⟨rfl, rfl, rfl, rfl, rfl, f⟩
        · go_enter Tryd.func7, Tryd.ntmps7
          go_upto_region 1 with fail
          obtain ⟨w0, hw0⟩ : ∃ w0, w0 = (w.alloc (ibox ⟨op, d, n, m, imm, kind⟩)).alloc (ibox ⟨op2, d2, n2, m2, imm2, kind2⟩) := ⟨_, rfl⟩
          have S0 := Lib.hid (show St w w0 w.heap.size ⟨op, d, n, m, imm, kind⟩ by rw [hw0]; exact S.out.alloc _)
          have T0 := Lib.hid (show Bx w0 (w.alloc (ibox ⟨op, d, n, m, imm, kind⟩)).heap.size ⟨op2, d2, n2, m2, imm2, kind2⟩ by rw [hw0]; exact Bx.start _ _)
          simp only [ibox, World.size_alloc] at hw0 T0
          rw [← hw0]
          clear hw0
          go_wp2_with fail
          refine (iawake_any _ S0.out.sh).mono ?_
          rintro e w1 ⟨rfl, b⟩
          have S1 := Lib.hid (S0.out.below b)
          have T1 := Lib.hid (T0.out.below b)
          clear b
          have c0 := S1.out.box.c0
          have c1 := S1.out.box.c1
          have c2 := S1.out.box.c2
          have c3 := S1.out.box.c3
          have c4 := S1.out.box.c4
          have c5 := S1.out.box.c5
          go_wp2_with fail
          refine (EX.out _ S1.out.sh).mono ?_
          rintro e w2 ⟨rfl, b⟩
          have S2 := Lib.hid (S1.out.below b)
          have T2 := Lib.hid (T1.out.below b)
          clear b
          clear c0 c1 c2 c3 c4 c5
          have t0 := T2.out.c0
          have t1 := T2.out.c1
          have t2 := T2.out.c2
          have t3 := T2.out.c3
          have t4 := T2.out.c4
          have t5 := T2.out.c5
          go_wp2_with fail
          refine (EY.out _ S2.out.sh).mono ?_
          rintro e w3 ⟨rfl, b⟩
          have S3 := Lib.hid (S2.out.below b)
          have T3 := Lib.hid (T2.out.below b)
          clear b
          clear t0 t1 t2 t3 t4 t5
          have c0 := S3.out.box.c0
          have c1 := S3.out.box.c1
          have c2 := S3.out.box.c2
          have c3 := S3.out.box.c3
          have c4 := S3.out.box.c4
          have c5 := S3.out.box.c5
          have t0 := T3.out.c0
          have t1 := T3.out.c1
          have t2 := T3.out.c2
          have t3 := T3.out.c3
          have t4 := T3.out.c4
          have t5 := T3.out.c5
          go_wp2
          go_ret
          exact ⟨rfl, S3.out.bel⟩
        · go_enter Tryd.func7, Tryd.ntmps7
          go_upto_region 1 with fail
          obtain ⟨w0, hw0⟩ : ∃ w0, w0 = (w.alloc (ibox ⟨op, d, n, m, imm, kind⟩)).alloc (ibox ⟨op, d2, n2, m2, imm2, kind2⟩) := ⟨_, rfl⟩
          have S0 := Lib.hid (show St w w0 w.heap.size ⟨op, d, n, m, imm, kind⟩ by rw [hw0]; exact S.out.alloc _)
          have T0 := Lib.hid (show Bx w0 (w.alloc (ibox ⟨op, d, n, m, imm, kind⟩)).heap.size ⟨op, d2, n2, m2, imm2, kind2⟩ by rw [hw0]; exact Bx.start _ _)
          simp only [ibox, World.size_alloc] at hw0 T0
          rw [← hw0]
          clear hw0
          go_wp2_with fail
          refine (iawake_any _ S0.out.sh).mono ?_
          rintro e w1 ⟨rfl, b⟩
          have S1 := Lib.hid (S0.out.below b)
          have T1 := Lib.hid (T0.out.below b)
          clear b
          have c0 := S1.out.box.c0
          have c1 := S1.out.box.c1
          have c2 := S1.out.box.c2
          have c3 := S1.out.box.c3
          have c4 := S1.out.box.c4
          have c5 := S1.out.box.c5
          go_wp2_with fail
          refine (EX.out _ S1.out.sh).mono ?_
          rintro e w2 ⟨rfl, b⟩
          have S2 := Lib.hid (S1.out.below b)
          have T2 := Lib.hid (T1.out.below b)
          clear b
          clear c0 c1 c2 c3 c4 c5
          have t0 := T2.out.c0
          have t1 := T2.out.c1
          have t2 := T2.out.c2
          have t3 := T2.out.c3
          have t4 := T2.out.c4
          have t5 := T2.out.c5
          go_wp2_with fail
          refine (EY.out _ S2.out.sh).mono ?_
          rintro e w3 ⟨rfl, b⟩
          have S3 := Lib.hid (S2.out.below b)
          have T3 := Lib.hid (T2.out.below b)
          clear b
          clear t0 t1 t2 t3 t4 t5
          have c0 := S3.out.box.c0
          have c1 := S3.out.box.c1
          have c2 := S3.out.box.c2
          have c3 := S3.out.box.c3
          have c4 := S3.out.box.c4
          have c5 := S3.out.box.c5
          have t0 := T3.out.c0
          have t1 := T3.out.c1
          have t2 := T3.out.c2
          have t3 := T3.out.c3
          have t4 := T3.out.c4
          have t5 := T3.out.c5
          go_wp2
          go_ret
          exact ⟨rfl, S3.out.bel⟩
        · go_enter Tryd.func7, Tryd.ntmps7
          go_upto_region 1 with fail
          obtain ⟨w0, hw0⟩ : ∃ w0, w0 = (w.alloc (ibox ⟨op, d, n, m, imm, kind⟩)).alloc (ibox ⟨op, d, n2, m2, imm2, kind2⟩) := ⟨_, rfl⟩
          have S0 := Lib.hid (show St w w0 w.heap.size ⟨op, d, n, m, imm, kind⟩ by rw [hw0]; exact S.out.alloc _)
          have T0 := Lib.hid (show Bx w0 (w.alloc (ibox ⟨op, d, n, m, imm, kind⟩)).heap.size ⟨op, d, n2, m2, imm2, kind2⟩ by rw [hw0]; exact Bx.start _ _)
          simp only [ibox, World.size_alloc] at hw0 T0
          rw [← hw0]
          clear hw0
          go_wp2_with fail
          refine (iawake_any _ S0.out.sh).mono ?_
          rintro e w1 ⟨rfl, b⟩
          have S1 := Lib.hid (S0.out.below b)
          have T1 := Lib.hid (T0.out.below b)
          clear b
          have c0 := S1.out.box.c0
          have c1 := S1.out.box.c1
          have c2 := S1.out.box.c2
          have c3 := S1.out.box.c3
          have c4 := S1.out.box.c4
          have c5 := S1.out.box.c5
          go_wp2_with fail
          refine (EX.out _ S1.out.sh).mono ?_
          rintro e w2 ⟨rfl, b⟩
          have S2 := Lib.hid (S1.out.below b)
          have T2 := Lib.hid (T1.out.below b)
          clear b
          clear c0 c1 c2 c3 c4 c5
          have t0 := T2.out.c0
          have t1 := T2.out.c1
          have t2 := T2.out.c2
          have t3 := T2.out.c3
          have t4 := T2.out.c4
          have t5 := T2.out.c5
          go_wp2_with fail
          refine (EY.out _ S2.out.sh).mono ?_
          rintro e w3 ⟨rfl, b⟩
          have S3 := Lib.hid (S2.out.below b)
          have T3 := Lib.hid (T2.out.below b)
          clear b
          clear t0 t1 t2 t3 t4 t5
          have c0 := S3.out.box.c0
          have c1 := S3.out.box.c1
          have c2 := S3.out.box.c2
          have c3 := S3.out.box.c3
          have c4 := S3.out.box.c4
          have c5 := S3.out.box.c5
          have t0 := T3.out.c0
          have t1 := T3.out.c1
          have t2 := T3.out.c2
          have t3 := T3.out.c3
          have t4 := T3.out.c4
          have t5 := T3.out.c5
          go_wp2
          go_ret
          exact ⟨rfl, S3.out.bel⟩
        · go_enter Tryd.func7, Tryd.ntmps7
          go_upto_region 1 with fail
          obtain ⟨w0, hw0⟩ : ∃ w0, w0 = (w.alloc (ibox ⟨op, d, n, m, imm, kind⟩)).alloc (ibox ⟨op, d, n, m2, imm2, kind2⟩) := ⟨_, rfl⟩
          have S0 := Lib.hid (show St w w0 w.heap.size ⟨op, d, n, m, imm, kind⟩ by rw [hw0]; exact S.out.alloc _)
          have T0 := Lib.hid (show Bx w0 (w.alloc (ibox ⟨op, d, n, m, imm, kind⟩)).heap.size ⟨op, d, n, m2, imm2, kind2⟩ by rw [hw0]; exact Bx.start _ _)
          simp only [ibox, World.size_alloc] at hw0 T0
          rw [← hw0]
          clear hw0
          go_wp2_with fail
          refine (iawake_any _ S0.out.sh).mono ?_
          rintro e w1 ⟨rfl, b⟩
          have S1 := Lib.hid (S0.out.below b)
          have T1 := Lib.hid (T0.out.below b)
          clear b
          have c0 := S1.out.box.c0
          have c1 := S1.out.box.c1
          have c2 := S1.out.box.c2
          have c3 := S1.out.box.c3
          have c4 := S1.out.box.c4
          have c5 := S1.out.box.c5
          go_wp2_with fail
          refine (EX.out _ S1.out.sh).mono ?_
          rintro e w2 ⟨rfl, b⟩
          have S2 := Lib.hid (S1.out.below b)
          have T2 := Lib.hid (T1.out.below b)
          clear b
          clear c0 c1 c2 c3 c4 c5
          have t0 := T2.out.c0
          have t1 := T2.out.c1
          have t2 := T2.out.c2
          have t3 := T2.out.c3
          have t4 := T2.out.c4
          have t5 := T2.out.c5
          go_wp2_with fail
          refine (EY.out _ S2.out.sh).mono ?_
          rintro e w3 ⟨rfl, b⟩
          have S3 := Lib.hid (S2.out.below b)
          have T3 := Lib.hid (T2.out.below b)
          clear b
          clear t0 t1 t2 t3 t4 t5
          have c0 := S3.out.box.c0
          have c1 := S3.out.box.c1
          have c2 := S3.out.box.c2
          have c3 := S3.out.box.c3
          have c4 := S3.out.box.c4
          have c5 := S3.out.box.c5
          have t0 := T3.out.c0
          have t1 := T3.out.c1
          have t2 := T3.out.c2
          have t3 := T3.out.c3
          have t4 := T3.out.c4
          have t5 := T3.out.c5
          go_wp2
          go_ret
          exact ⟨rfl, S3.out.bel⟩
        · go_enter Tryd.func7, Tryd.ntmps7
          go_upto_region 1 with fail
          obtain ⟨w0, hw0⟩ : ∃ w0, w0 = (w.alloc (ibox ⟨op, d, n, m, imm, kind⟩)).alloc (ibox ⟨op, d, n, m, imm2, kind2⟩) := ⟨_, rfl⟩
          have S0 := Lib.hid (show St w w0 w.heap.size ⟨op, d, n, m, imm, kind⟩ by rw [hw0]; exact S.out.alloc _)
          have T0 := Lib.hid (show Bx w0 (w.alloc (ibox ⟨op, d, n, m, imm, kind⟩)).heap.size ⟨op, d, n, m, imm2, kind2⟩ by rw [hw0]; exact Bx.start _ _)
          simp only [ibox, World.size_alloc] at hw0 T0
          rw [← hw0]
          clear hw0
          go_wp2_with fail
          refine (iawake_any _ S0.out.sh).mono ?_
          rintro e w1 ⟨rfl, b⟩
          have S1 := Lib.hid (S0.out.below b)
          have T1 := Lib.hid (T0.out.below b)
          clear b
          have c0 := S1.out.box.c0
          have c1 := S1.out.box.c1
          have c2 := S1.out.box.c2
          have c3 := S1.out.box.c3
          have c4 := S1.out.box.c4
          have c5 := S1.out.box.c5
          go_wp2_with fail
          refine (EX.out _ S1.out.sh).mono ?_
          rintro e w2 ⟨rfl, b⟩
          have S2 := Lib.hid (S1.out.below b)
          have T2 := Lib.hid (T1.out.below b)
          clear b
          clear c0 c1 c2 c3 c4 c5
          have t0 := T2.out.c0
          have t1 := T2.out.c1
          have t2 := T2.out.c2
          have t3 := T2.out.c3
          have t4 := T2.out.c4
          have t5 := T2.out.c5
          go_wp2_with fail
          refine (EY.out _ S2.out.sh).mono ?_
          rintro e w3 ⟨rfl, b⟩
          have S3 := Lib.hid (S2.out.below b)
          have T3 := Lib.hid (T2.out.below b)
          clear b
          clear t0 t1 t2 t3 t4 t5
          have c0 := S3.out.box.c0
          have c1 := S3.out.box.c1
          have c2 := S3.out.box.c2
          have c3 := S3.out.box.c3
          have c4 := S3.out.box.c4
          have c5 := S3.out.box.c5
          have t0 := T3.out.c0
          have t1 := T3.out.c1
          have t2 := T3.out.c2
          have t3 := T3.out.c3
          have t4 := T3.out.c4
          have t5 := T3.out.c5
          go_wp2
          go_ret
          exact ⟨rfl, S3.out.bel⟩
        · go_enter Tryd.func7, Tryd.ntmps7
          go_upto_region 1 with fail
          obtain ⟨w0, hw0⟩ : ∃ w0, w0 = (w.alloc (ibox ⟨op, d, n, m, imm, kind⟩)).alloc (ibox ⟨op, d, n, m, imm, kind2⟩) := ⟨_, rfl⟩
          have S0 := Lib.hid (show St w w0 w.heap.size ⟨op, d, n, m, imm, kind⟩ by rw [hw0]; exact S.out.alloc _)
          have T0 := Lib.hid (show Bx w0 (w.alloc (ibox ⟨op, d, n, m, imm, kind⟩)).heap.size ⟨op, d, n, m, imm, kind2⟩ by rw [hw0]; exact Bx.start _ _)
          simp only [ibox, World.size_alloc] at hw0 T0
          rw [← hw0]
          clear hw0
          go_wp2_with fail
          refine (iawake_any _ S0.out.sh).mono ?_
          rintro e w1 ⟨rfl, b⟩
          have S1 := Lib.hid (S0.out.below b)
          have T1 := Lib.hid (T0.out.below b)
          clear b
          have c0 := S1.out.box.c0
          have c1 := S1.out.box.c1
          have c2 := S1.out.box.c2
          have c3 := S1.out.box.c3
          have c4 := S1.out.box.c4
          have c5 := S1.out.box.c5
          go_wp2_with fail
          refine (EX.out _ S1.out.sh).mono ?_
          rintro e w2 ⟨rfl, b⟩
          have S2 := Lib.hid (S1.out.below b)
          have T2 := Lib.hid (T1.out.below b)
          clear b
          clear c0 c1 c2 c3 c4 c5
          have t0 := T2.out.c0
          have t1 := T2.out.c1
          have t2 := T2.out.c2
          have t3 := T2.out.c3
          have t4 := T2.out.c4
          have t5 := T2.out.c5
          go_wp2_with fail
          refine (EY.out _ S2.out.sh).mono ?_
          rintro e w3 ⟨rfl, b⟩
          have S3 := Lib.hid (S2.out.below b)
          have T3 := Lib.hid (T2.out.below b)
          clear b
          clear t0 t1 t2 t3 t4 t5
          have c0 := S3.out.box.c0
          have c1 := S3.out.box.c1
          have c2 := S3.out.box.c2
          have c3 := S3.out.box.c3
          have c4 := S3.out.box.c4
          have c5 := S3.out.box.c5
          have t0 := T3.out.c0
          have t1 := T3.out.c1
          have t2 := T3.out.c2
          have t3 := T3.out.c3
          have t4 := T3.out.c4
          have t5 := T3.out.c5
          go_wp2
          go_ret
          exact ⟨rfl, S3.out.bel⟩
end Go.Proofs.YtnehdgapcgbdeaaDoor
