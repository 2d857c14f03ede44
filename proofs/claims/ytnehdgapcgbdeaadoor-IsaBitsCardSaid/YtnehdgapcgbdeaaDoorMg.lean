/-
  Layer 3, the laws' walks, further: one bit turned.
-/
import Derived.Test.YtnehdgapcgbdeaaDoorMf
import Derived.Laws.BitsAllLaws
set_option linter.unusedSimpArgs false
set_option linter.unusedVariables false
namespace Go.Proofs.YtnehdgapcgbdeaaDoor
open Go.RowKit
theorem xor_turn (V c : Int) (h0 : 0 ≤ V) (h1 : V < 4294967296) (c0 : 0 < c) (c1 : c < 4294967296) : 0 ≤ bits .xor .u32 V c ∧ bits .xor .u32 V c < 4294967296 ∧ bits .xor .u32 V c ≠ V := by
  obtain ⟨a, rfl⟩ := Int.eq_ofNat_of_zero_le h0
  obtain ⟨b, rfl⟩ := Int.eq_ofNat_of_zero_le (Int.le_of_lt c0)
  have hx : a ^^^ b < 2 ^ 32 := Nat.xor_lt_two_pow (by omega) (by omega)
  have e := u32_xor_nat a b (by omega) (by omega)
  rw [e]
  refine ⟨by omega, by omega, fun h => ?_⟩
  have h2 : a ^^^ b = a := by exact_mod_cast h
  have h3 : a ^^^ (a ^^^ b) = a ^^^ a := by rw [h2]
  rw [← Nat.xor_assoc, Nat.xor_self, Nat.zero_xor] at h3
  omega
theorem pow_bit (bit : Int) (h0 : 0 ≤ bit) (h1 : bit ≤ 31) : 0 < (2 : Int) ^ bit.toNat % 4294967296 ∧ (2 : Int) ^ bit.toNat % 4294967296 < 4294967296 := by
  have hb : bit.toNat < 32 := by omega
  generalize bit.toNat = k at hb
  have : ∀ k : Fin 32, 0 < (2 : Int) ^ k.val % 4294967296 ∧ (2 : Int) ^ k.val % 4294967296 < 4294967296 := by decide
  exact this ⟨k, hb⟩
theorem beq_comm_false {a b : Int} (h : (a == b) = false) : (b == a) = false := by
  simp only [beq_eq_false_iff_ne] at h ⊢
  exact fun e => h e.symm

set_option maxHeartbeats 3200000 in
theorem IsaBits_walk (op d n m imm kind bit : Int) (hb : -9223372036854775808 ≤ imm ∧ imm ≤ 9223372036854775807) (w : World) (hs : ShAt w) :
    Calls Tryd.prog 8 #[.agg #[.int .i64 op, .int .i64 d, .int .i64 n, .int .i64 m, .int .i64 imm, .int .i64 kind], .int .i64 bit] w fun e w' => e = .returned (.bool true) ∧ Below w.heap.size w w' := by
  have S0 := Lib.hid (St.start hs (⟨op, d, n, m, imm, kind⟩ : GrI.I))
  clear hs
  cases h : encB ⟨op, d, n, m, imm, kind⟩ with
  | false =>
    have EX := Lib.hid (show ∀ w, ShAt w → Calls Tryd.prog 10 #[.agg #[.int .i64 op, .int .i64 d, .int .i64 n, .int .i64 m, .int .i64 imm, .int .i64 kind]] w fun e w' => e = .returned (.tuple #[.int .u32 0, .int .i64 30]) ∧ Below w.heap.size w w' from fun w hs => enc_no ⟨op, d, n, m, imm, kind⟩ w hs hb h)
    clear h hb
    go_enter Tryd.func8, Tryd.ntmps8
    go_wp2_with fail
    refine (iawake_any _ S0.out.sh).mono ?_
    rintro e w1 ⟨rfl, b⟩
    have S1 := Lib.hid (S0.out.below b)
    clear b
    have c0 := S1.out.box.c0
    have c1 := S1.out.box.c1
    have c2 := S1.out.box.c2
    have c3 := S1.out.box.c3
    have c4 := S1.out.box.c4
    have c5 := S1.out.box.c5
    go_wp2_with fail
    refine (EX.out _ S1.out.sh).mono ?_
    rintro e w2 ⟨rfl, b⟩
    have S2 := Lib.hid (S1.out.below b)
    clear b
    clear c0 c1 c2 c3 c4 c5
    go_wp2
    go_ret
    exact ⟨rfl, S2.out.bel⟩
  | true =>
    have EX := Lib.hid (show ∀ w, ShAt w → Calls Tryd.prog 10 #[.agg #[.int .i64 op, .int .i64 d, .int .i64 n, .int .i64 m, .int .i64 imm, .int .i64 kind]] w fun e w' => e = .returned (.tuple #[.int .u32 (GrI.word ⟨op, d, n, m, imm, kind⟩), .int .i64 0]) ∧ Below w.heap.size w w' from fun w hs => enc_yes ⟨op, d, n, m, imm, kind⟩ w hs hb h)
    have hr := encB_true h
    have vb := GrI.word_bd _ hr
    obtain ⟨V, hV⟩ : ∃ V, V = GrI.word ⟨op, d, n, m, imm, kind⟩ := ⟨_, rfl⟩
    rw [← hV] at EX vb
    have HV := Lib.hid hV
    have VB := Lib.hid vb
    clear h hb hr hV vb
    by_cases o : bit < 0 ∨ 31 < bit
    · rcases o with o | o
      · have o1 : decide (bit < 0) = true := by simpa using o
        go_enter Tryd.func8, Tryd.ntmps8
        go_wp2_with fail
        refine (iawake_any _ S0.out.sh).mono ?_
        rintro e w1 ⟨rfl, b⟩
        have S1 := Lib.hid (S0.out.below b)
        clear b
        have c0 := S1.out.box.c0
        have c1 := S1.out.box.c1
        have c2 := S1.out.box.c2
        have c3 := S1.out.box.c3
        have c4 := S1.out.box.c4
        have c5 := S1.out.box.c5
        go_wp2_with fail
        refine (EX.out _ S1.out.sh).mono ?_
        rintro e w2 ⟨rfl, b⟩
        have S2 := Lib.hid (S1.out.below b)
        clear b
        clear c0 c1 c2 c3 c4 c5
        go_wp2
        go_ret
        exact ⟨rfl, S2.out.bel⟩
      · have o1 : decide (bit < 0) = false := by simp; omega
        have o2 : decide (bit > 31) = true := by simpa using o
        have o3 : decide (31 < bit) = true := by simpa using o
        go_enter Tryd.func8, Tryd.ntmps8
        go_wp2_with fail
        refine (iawake_any _ S0.out.sh).mono ?_
        rintro e w1 ⟨rfl, b⟩
        have S1 := Lib.hid (S0.out.below b)
        clear b
        have c0 := S1.out.box.c0
        have c1 := S1.out.box.c1
        have c2 := S1.out.box.c2
        have c3 := S1.out.box.c3
        have c4 := S1.out.box.c4
        have c5 := S1.out.box.c5
        go_wp2_with fail
        refine (EX.out _ S1.out.sh).mono ?_
        rintro e w2 ⟨rfl, b⟩
        have S2 := Lib.hid (S1.out.below b)
        clear b
        clear c0 c1 c2 c3 c4 c5
        go_wp2
        go_ret
        exact ⟨rfl, S2.out.bel⟩
    · have o1 : 0 ≤ bit := by omega
      have o2 : bit ≤ 31 := by omega
      clear o
      go_enter Tryd.func8, Tryd.ntmps8
      go_wp2_with fail
      refine (iawake_any _ S0.out.sh).mono ?_
      rintro e w1 ⟨rfl, b⟩
      have S1 := Lib.hid (S0.out.below b)
      clear b
      have c0 := S1.out.box.c0
      have c1 := S1.out.box.c1
      have c2 := S1.out.box.c2
      have c3 := S1.out.box.c3
      have c4 := S1.out.box.c4
      have c5 := S1.out.box.c5
      go_wp2_with fail
      refine (EX.out _ S1.out.sh).mono ?_
      rintro e w2 ⟨rfl, b⟩
      have S2 := Lib.hid (S1.out.below b)
      clear b
      clear c0 c1 c2 c3 c4 c5
      go_wp2_with fail
      obtain ⟨V2, hV2⟩ : ∃ v, v = bits .xor .u32 V (2 ^ bit.toNat % 4294967296) := ⟨_, rfl⟩
      rw [← hV2]
      have pb := pow_bit bit o1 o2
      have xt := xor_turn V _ VB.out.1 VB.out.2 pb.1 pb.2
      rw [← hV2] at xt
      clear hV2 pb
      by_cases h : ∃ y, GrI.right y ∧ GrI.word y = V2
      · obtain ⟨y, hr, hw⟩ := h
        have DX := Lib.hid (fun w hs => hw ▸ xdecode_yes y w hs hr)
        have hne : (⟨op, d, n, m, imm, kind⟩ : GrI.I) ≠ y := fun e => xt.2.2 (by rw [HV.out, e, hw])
        obtain ⟨op2, d2, n2, m2, imm2, kind2⟩ := y
        have DX := Lib.hid (show ∀ w, ShAt w → Calls Tryd.prog 14 #[.int .u32 V2] w fun e w' => e = .returned (.tuple #[.agg #[.int .i64 op2, .int .i64 d2, .int .i64 n2, .int .i64 m2, .int .i64 imm2, .int .i64 kind2], .int .i64 0]) ∧ Below w.heap.size w w' from fun w hs => DX.out w hs)
        have df := GrI.differ hne
        clear hne hr hw xt
        rcases df with f | ⟨rfl, f⟩ | ⟨rfl, rfl, f⟩ | ⟨rfl, rfl, rfl, f⟩ | ⟨rfl, rfl, rfl, rfl, f⟩ | ⟨rfl, rfl, rfl, rfl, rfl, f⟩
        · have f2 := beq_comm_false f
          refine (DX.out _ S2.out.sh).mono ?_
          rintro e w3 ⟨rfl, b⟩
          have S3 := Lib.hid (S2.out.below b)
          clear b
          go_upto_region 7 with fail
          obtain ⟨w5, hw5⟩ : ∃ w5, w5 = w3.alloc (ibox ⟨op2, d2, n2, m2, imm2, kind2⟩) := ⟨_, rfl⟩
          have S5 := Lib.hid (show St w w5 w.heap.size ⟨op, d, n, m, imm, kind⟩ by rw [hw5]; exact S3.out.alloc _)
          have T5 := Lib.hid (show Bx w5 w3.heap.size ⟨op2, d2, n2, m2, imm2, kind2⟩ by rw [hw5]; exact Bx.start _ _)
          rw [ibox] at hw5
          rw [← hw5]
          clear hw5
          have c0 := S5.out.box.c0
          have c1 := S5.out.box.c1
          have c2 := S5.out.box.c2
          have c3 := S5.out.box.c3
          have c4 := S5.out.box.c4
          have c5 := S5.out.box.c5
          have t0 := T5.out.c0
          have t1 := T5.out.c1
          have t2 := T5.out.c2
          have t3 := T5.out.c3
          have t4 := T5.out.c4
          have t5 := T5.out.c5
          go_wp2
          go_ret
          exact ⟨rfl, S5.out.bel⟩
        · have f2 := beq_comm_false f
          refine (DX.out _ S2.out.sh).mono ?_
          rintro e w3 ⟨rfl, b⟩
          have S3 := Lib.hid (S2.out.below b)
          clear b
          go_upto_region 7 with fail
          obtain ⟨w5, hw5⟩ : ∃ w5, w5 = w3.alloc (ibox ⟨op, d2, n2, m2, imm2, kind2⟩) := ⟨_, rfl⟩
          have S5 := Lib.hid (show St w w5 w.heap.size ⟨op, d, n, m, imm, kind⟩ by rw [hw5]; exact S3.out.alloc _)
          have T5 := Lib.hid (show Bx w5 w3.heap.size ⟨op, d2, n2, m2, imm2, kind2⟩ by rw [hw5]; exact Bx.start _ _)
          rw [ibox] at hw5
          rw [← hw5]
          clear hw5
          have c0 := S5.out.box.c0
          have c1 := S5.out.box.c1
          have c2 := S5.out.box.c2
          have c3 := S5.out.box.c3
          have c4 := S5.out.box.c4
          have c5 := S5.out.box.c5
          have t0 := T5.out.c0
          have t1 := T5.out.c1
          have t2 := T5.out.c2
          have t3 := T5.out.c3
          have t4 := T5.out.c4
          have t5 := T5.out.c5
          go_wp2
          go_ret
          exact ⟨rfl, S5.out.bel⟩
        · have f2 := beq_comm_false f
          refine (DX.out _ S2.out.sh).mono ?_
          rintro e w3 ⟨rfl, b⟩
          have S3 := Lib.hid (S2.out.below b)
          clear b
          go_upto_region 7 with fail
          obtain ⟨w5, hw5⟩ : ∃ w5, w5 = w3.alloc (ibox ⟨op, d, n2, m2, imm2, kind2⟩) := ⟨_, rfl⟩
          have S5 := Lib.hid (show St w w5 w.heap.size ⟨op, d, n, m, imm, kind⟩ by rw [hw5]; exact S3.out.alloc _)
          have T5 := Lib.hid (show Bx w5 w3.heap.size ⟨op, d, n2, m2, imm2, kind2⟩ by rw [hw5]; exact Bx.start _ _)
          rw [ibox] at hw5
          rw [← hw5]
          clear hw5
          have c0 := S5.out.box.c0
          have c1 := S5.out.box.c1
          have c2 := S5.out.box.c2
          have c3 := S5.out.box.c3
          have c4 := S5.out.box.c4
          have c5 := S5.out.box.c5
          have t0 := T5.out.c0
          have t1 := T5.out.c1
          have t2 := T5.out.c2
          have t3 := T5.out.c3
          have t4 := T5.out.c4
          have t5 := T5.out.c5
          go_wp2
          go_ret
          exact ⟨rfl, S5.out.bel⟩
        · have f2 := beq_comm_false f
          refine (DX.out _ S2.out.sh).mono ?_
          rintro e w3 ⟨rfl, b⟩
          have S3 := Lib.hid (S2.out.below b)
          clear b
          go_upto_region 7 with fail
          obtain ⟨w5, hw5⟩ : ∃ w5, w5 = w3.alloc (ibox ⟨op, d, n, m2, imm2, kind2⟩) := ⟨_, rfl⟩
          have S5 := Lib.hid (show St w w5 w.heap.size ⟨op, d, n, m, imm, kind⟩ by rw [hw5]; exact S3.out.alloc _)
          have T5 := Lib.hid (show Bx w5 w3.heap.size ⟨op, d, n, m2, imm2, kind2⟩ by rw [hw5]; exact Bx.start _ _)
          rw [ibox] at hw5
          rw [← hw5]
          clear hw5
          have c0 := S5.out.box.c0
          have c1 := S5.out.box.c1
          have c2 := S5.out.box.c2
          have c3 := S5.out.box.c3
          have c4 := S5.out.box.c4
          have c5 := S5.out.box.c5
          have t0 := T5.out.c0
          have t1 := T5.out.c1
          have t2 := T5.out.c2
          have t3 := T5.out.c3
          have t4 := T5.out.c4
          have t5 := T5.out.c5
          go_wp2
          go_ret
          exact ⟨rfl, S5.out.bel⟩
        · have f2 := beq_comm_false f
          refine (DX.out _ S2.out.sh).mono ?_
          rintro e w3 ⟨rfl, b⟩
          have S3 := Lib.hid (S2.out.below b)
          clear b
          go_upto_region 7 with fail
          obtain ⟨w5, hw5⟩ : ∃ w5, w5 = w3.alloc (ibox ⟨op, d, n, m, imm2, kind2⟩) := ⟨_, rfl⟩
          have S5 := Lib.hid (show St w w5 w.heap.size ⟨op, d, n, m, imm, kind⟩ by rw [hw5]; exact S3.out.alloc _)
          have T5 := Lib.hid (show Bx w5 w3.heap.size ⟨op, d, n, m, imm2, kind2⟩ by rw [hw5]; exact Bx.start _ _)
          rw [ibox] at hw5
          rw [← hw5]
          clear hw5
          have c0 := S5.out.box.c0
          have c1 := S5.out.box.c1
          have c2 := S5.out.box.c2
          have c3 := S5.out.box.c3
          have c4 := S5.out.box.c4
          have c5 := S5.out.box.c5
          have t0 := T5.out.c0
          have t1 := T5.out.c1
          have t2 := T5.out.c2
          have t3 := T5.out.c3
          have t4 := T5.out.c4
          have t5 := T5.out.c5
          go_wp2
          go_ret
          exact ⟨rfl, S5.out.bel⟩
        · have f2 := beq_comm_false f
          refine (DX.out _ S2.out.sh).mono ?_
          rintro e w3 ⟨rfl, b⟩
          have S3 := Lib.hid (S2.out.below b)
          clear b
          go_upto_region 7 with fail
          obtain ⟨w5, hw5⟩ : ∃ w5, w5 = w3.alloc (ibox ⟨op, d, n, m, imm, kind2⟩) := ⟨_, rfl⟩
          have S5 := Lib.hid (show St w w5 w.heap.size ⟨op, d, n, m, imm, kind⟩ by rw [hw5]; exact S3.out.alloc _)
          have T5 := Lib.hid (show Bx w5 w3.heap.size ⟨op, d, n, m, imm, kind2⟩ by rw [hw5]; exact Bx.start _ _)
          rw [ibox] at hw5
          rw [← hw5]
          clear hw5
          have c0 := S5.out.box.c0
          have c1 := S5.out.box.c1
          have c2 := S5.out.box.c2
          have c3 := S5.out.box.c3
          have c4 := S5.out.box.c4
          have c5 := S5.out.box.c5
          have t0 := T5.out.c0
          have t1 := T5.out.c1
          have t2 := T5.out.c2
          have t3 := T5.out.c3
          have t4 := T5.out.c4
          have t5 := T5.out.c5
          go_wp2
          go_ret
          exact ⟨rfl, S5.out.bel⟩
      · have DX := Lib.hid (show ∀ w, ShAt w → Calls Tryd.prog 14 #[.int .u32 V2] w fun e w' => e = .returned (.tuple #[.agg #[.int .i64 0, .int .i64 0, .int .i64 0, .int .i64 0, .int .i64 0, .int .i64 0], .int .i64 31]) ∧ Below w.heap.size w w' from fun w hs => xdecode_no V2 w hs xt.1 xt.2.1 (fun y hr hw => h ⟨y, hr, hw⟩))
        clear h xt
        refine (DX.out _ S2.out.sh).mono ?_
        rintro e w3 ⟨rfl, b⟩
        have S3 := Lib.hid (S2.out.below b)
        clear b
        go_wp2
        go_ret
        exact ⟨rfl, S3.out.bel.alloc S3.out.bel.size _⟩
end Go.Proofs.YtnehdgapcgbdeaaDoor
