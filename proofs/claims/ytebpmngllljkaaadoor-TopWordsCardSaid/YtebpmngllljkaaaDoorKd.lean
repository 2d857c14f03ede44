/-
  Layer 3, the code's walks: guess, operation by operation.
-/
import Derived.Test.YtebpmngllljkaaaDoorKh
import Derived.Test.YtebpmngllljkaaaDoorKj
import Derived.Test.YtebpmngllljkaaaDoorKl
import Derived.Test.YtebpmngllljkaaaDoorKf
set_option linter.unusedSimpArgs false
set_option linter.unusedVariables false
namespace Go.Proofs.YtebpmngllljkaaaDoor
open Go.RowKit
theorem part_val (x : Int) (h : 0 ≤ x) : GrF.get x 4 0 = x % 32 ∧ GrF.get x 9 5 = x / 32 % 32 ∧ GrF.get x 20 16 = x / 65536 % 32 := by
  obtain ⟨a, rfl⟩ := Int.eq_ofNat_of_zero_le h
  have g : ∀ lo : Nat, lo ≤ 16 → GrF.get (a : Int) ((lo : Int) + 4) (lo : Int) = ((a / 2 ^ lo % 32 : Nat) : Int) := by
    intro lo hl
    rw [GrF.get, if_pos (GrF.span_mk (by omega) (by omega) (by omega)), GrF.getN_eq]
    have e1 : ((lo : Int) + 4).toNat = lo + 4 := by omega
    have e2 : lo + 4 + 1 - lo = 5 := by omega
    simp [e1, e2]
  have a0 := g 0 (by omega)
  have a5 := g 5 (by omega)
  have a16 := g 16 (by omega)
  refine ⟨?_, ?_, ?_⟩
  · have := a0; simp at this ⊢; omega
  · have := a5; simp at this ⊢; omega
  · have := a16; simp at this ⊢; omega
theorem sign_26 (x : Int) (h : 0 ≤ x) : GrF.signed x 26 = GrI.sign (x % 67108864) 67108864 := by
  have e : GrF.signed x 26 = GrF.signedN x.toNat 25 := by rw [GrF.signed, if_neg (by omega)]; rfl
  obtain ⟨q, hq⟩ := GrF.signedN_mod x.toNat 25
  have b := GrF.signedN_bd x.toNat 25
  rw [e, GrI.sign]
  have h1 : ((x.toNat : Nat) : Int) = x := Int.toNat_of_nonneg h
  rw [h1] at hq
  simp only [show ((2 ^ (25 + 1) : Nat) : Int) = 67108864 by decide] at hq
  simp only [show ((2 ^ 25 : Nat) : Int) = 33554432 by decide] at b
  split <;> omega
theorem sign_19 (x : Int) (h : 0 ≤ x) : GrF.signed x 19 = GrI.sign (x % 524288) 524288 := by
  have e : GrF.signed x 19 = GrF.signedN x.toNat 18 := by rw [GrF.signed, if_neg (by omega)]; rfl
  obtain ⟨q, hq⟩ := GrF.signedN_mod x.toNat 18
  have b := GrF.signedN_bd x.toNat 18
  rw [e, GrI.sign]
  have h1 : ((x.toNat : Nat) : Int) = x := Int.toNat_of_nonneg h
  rw [h1] at hq
  simp only [show ((2 ^ (18 + 1) : Nat) : Int) = 524288 by decide] at hq
  simp only [show ((2 ^ 18 : Nat) : Int) = 262144 by decide] at b
  split <;> omega
theorem gc_1 (x kind : Int) (h : 0 ≤ x) : GrI.gC 1 x kind = ⟨1, GrI.partB x false 0, GrI.partB x false 5, GrI.partB x false 16, 0, kind⟩ := by
  have p := part_val x h
  have q := get_low (x / 1024) (by omega)
  have q' := get_low (x / 32) (by omega)
  have s := sign_26 x h
  have s' := sign_19 (x / 32) (by omega)
  apply GrI.I.ext <;> simp [GrI.gC, GrI.guess, GrI.parts, GrI.partB] <;> omega
theorem xguess_1 (x kind : Int) (w : World) (hs : ShAt w) (h0 : 0 ≤ x) (h1 : x < 4294967296) :
    Calls Tryd.prog 38 #[.int .u32 x, .int .i64 1, .int .i64 kind] w fun e w' => e = .returned (iv (GrI.gC 1 x kind)) ∧ Below w.heap.size w w' := by
  rw [gc_1 x kind h0]
  exact guess_none x 1 kind 3573751839 false false false (0) (0) (0) w (by decide) h0 h1 (hs 9 (by decide)) (hs 10 (by decide)) (hs 11 (by decide)) (hs 12 (by decide)) (hs 13 (by decide)) (hs 14 (by decide)) (hs 15 (by decide)) (hs 16 (by decide)) (hs 17 (by decide))
theorem gc_2 (x kind : Int) (h : 0 ≤ x) : GrI.gC 2 x kind = ⟨2, GrI.partB x true 0, GrI.partB x true 5, GrI.partB x false 16, GrF.get (x / 1024) 11 0 * 8, kind⟩ := by
  have p := part_val x h
  have q := get_low (x / 1024) (by omega)
  have q' := get_low (x / 32) (by omega)
  have s := sign_26 x h
  have s' := sign_19 (x / 32) (by omega)
  apply GrI.I.ext <;> simp [GrI.gC, GrI.guess, GrI.parts, GrI.partB] <;> omega
theorem xguess_2 (x kind : Int) (w : World) (hs : ShAt w) (h0 : 0 ≤ x) (h1 : x < 4294967296) :
    Calls Tryd.prog 38 #[.int .u32 x, .int .i64 2, .int .i64 kind] w fun e w' => e = .returned (iv (GrI.gC 2 x kind)) ∧ Below w.heap.size w w' := by
  rw [gc_2 x kind h0]
  exact guess_p8 x 2 kind 4181721088 true true false (8) (0) (0) w (by decide) h0 h1 (hs 18 (by decide)) (hs 19 (by decide)) (hs 20 (by decide)) (hs 21 (by decide)) (hs 22 (by decide)) (hs 23 (by decide)) (hs 24 (by decide)) (hs 25 (by decide)) (hs 26 (by decide))
theorem gc_3 (x kind : Int) (h : 0 ≤ x) : GrI.gC 3 x kind = ⟨3, GrI.partB x true 0, GrI.partB x true 5, GrI.partB x false 16, GrF.get (x / 1024) 11 0 * 8, kind⟩ := by
  have p := part_val x h
  have q := get_low (x / 1024) (by omega)
  have q' := get_low (x / 32) (by omega)
  have s := sign_26 x h
  have s' := sign_19 (x / 32) (by omega)
  apply GrI.I.ext <;> simp [GrI.gC, GrI.guess, GrI.parts, GrI.partB] <;> omega
theorem xguess_3 (x kind : Int) (w : World) (hs : ShAt w) (h0 : 0 ≤ x) (h1 : x < 4294967296) :
    Calls Tryd.prog 38 #[.int .u32 x, .int .i64 3, .int .i64 kind] w fun e w' => e = .returned (iv (GrI.gC 3 x kind)) ∧ Below w.heap.size w w' := by
  rw [gc_3 x kind h0]
  exact guess_p8 x 3 kind 4177526784 true true false (8) (0) (0) w (by decide) h0 h1 (hs 27 (by decide)) (hs 28 (by decide)) (hs 29 (by decide)) (hs 30 (by decide)) (hs 31 (by decide)) (hs 32 (by decide)) (hs 33 (by decide)) (hs 34 (by decide)) (hs 35 (by decide))
theorem gc_4 (x kind : Int) (h : 0 ≤ x) : GrI.gC 4 x kind = ⟨4, GrI.partB x true 0, GrI.partB x true 5, GrI.partB x false 16, 0, kind⟩ := by
  have p := part_val x h
  have q := get_low (x / 1024) (by omega)
  have q' := get_low (x / 32) (by omega)
  have s := sign_26 x h
  have s' := sign_19 (x / 32) (by omega)
  apply GrI.I.ext <;> simp [GrI.gC, GrI.guess, GrI.parts, GrI.partB] <;> omega
theorem xguess_4 (x kind : Int) (w : World) (hs : ShAt w) (h0 : 0 ≤ x) (h1 : x < 4294967296) :
    Calls Tryd.prog 38 #[.int .u32 x, .int .i64 4, .int .i64 kind] w fun e w' => e = .returned (iv (GrI.gC 4 x kind)) ∧ Below w.heap.size w w' := by
  rw [gc_4 x kind h0]
  exact guess_none x 4 kind 3370122240 true true false (0) (0) (0) w (by decide) h0 h1 (hs 36 (by decide)) (hs 37 (by decide)) (hs 38 (by decide)) (hs 39 (by decide)) (hs 40 (by decide)) (hs 41 (by decide)) (hs 42 (by decide)) (hs 43 (by decide)) (hs 44 (by decide))
theorem gc_5 (x kind : Int) (h : 0 ≤ x) : GrI.gC 5 x kind = ⟨5, GrI.partB x true 0, GrI.partB x true 5, GrI.partB x false 16, 0, kind⟩ := by
  have p := part_val x h
  have q := get_low (x / 1024) (by omega)
  have q' := get_low (x / 32) (by omega)
  have s := sign_26 x h
  have s' := sign_19 (x / 32) (by omega)
  apply GrI.I.ext <;> simp [GrI.gC, GrI.guess, GrI.parts, GrI.partB] <;> omega
theorem xguess_5 (x kind : Int) (w : World) (hs : ShAt w) (h0 : 0 ≤ x) (h1 : x < 4294967296) :
    Calls Tryd.prog 38 #[.int .u32 x, .int .i64 5, .int .i64 kind] w fun e w' => e = .returned (iv (GrI.gC 5 x kind)) ∧ Below w.heap.size w w' := by
  rw [gc_5 x kind h0]
  exact guess_none x 5 kind 3365927936 true true false (0) (0) (0) w (by decide) h0 h1 (hs 45 (by decide)) (hs 46 (by decide)) (hs 47 (by decide)) (hs 48 (by decide)) (hs 49 (by decide)) (hs 50 (by decide)) (hs 51 (by decide)) (hs 52 (by decide)) (hs 53 (by decide))
theorem gc_6 (x kind : Int) (h : 0 ≤ x) : GrI.gC 6 x kind = ⟨6, GrI.partB x true 0, GrI.partB x false 5, GrI.partB x false 16, GrF.get (x / 32) 15 0, kind⟩ := by
  have p := part_val x h
  have q := get_low (x / 1024) (by omega)
  have q' := get_low (x / 32) (by omega)
  have s := sign_26 x h
  have s' := sign_19 (x / 32) (by omega)
  apply GrI.I.ext <;> simp [GrI.gC, GrI.guess, GrI.parts, GrI.partB] <;> omega
theorem xguess_6 (x kind : Int) (w : World) (hs : ShAt w) (h0 : 0 ≤ x) (h1 : x < 4294967296) :
    Calls Tryd.prog 38 #[.int .u32 x, .int .i64 6, .int .i64 kind] w fun e w' => e = .returned (iv (GrI.gC 6 x kind)) ∧ Below w.heap.size w w' := by
  rw [gc_6 x kind h0]
  exact guess_q1 x 6 kind 3531603968 true false false (1) (4) (21) w (by decide) h0 h1 (hs 54 (by decide)) (hs 55 (by decide)) (hs 56 (by decide)) (hs 57 (by decide)) (hs 58 (by decide)) (hs 59 (by decide)) (hs 60 (by decide)) (hs 61 (by decide)) (hs 62 (by decide))
theorem gc_7 (x kind : Int) (h : 0 ≤ x) : GrI.gC 7 x kind = ⟨7, GrI.partB x true 0, GrI.partB x true 5, GrI.partB x false 16, GrF.get (x / 1024) 11 0, kind⟩ := by
  have p := part_val x h
  have q := get_low (x / 1024) (by omega)
  have q' := get_low (x / 32) (by omega)
  have s := sign_26 x h
  have s' := sign_19 (x / 32) (by omega)
  apply GrI.I.ext <;> simp [GrI.gC, GrI.guess, GrI.parts, GrI.partB] <;> omega
theorem xguess_7 (x kind : Int) (w : World) (hs : ShAt w) (h0 : 0 ≤ x) (h1 : x < 4294967296) :
    Calls Tryd.prog 38 #[.int .u32 x, .int .i64 7, .int .i64 kind] w fun e w' => e = .returned (iv (GrI.gC 7 x kind)) ∧ Below w.heap.size w w' := by
  rw [gc_7 x kind h0]
  exact guess_p1 x 7 kind 2432696320 true true false (1) (0) (0) w (by decide) h0 h1 (hs 63 (by decide)) (hs 64 (by decide)) (hs 65 (by decide)) (hs 66 (by decide)) (hs 67 (by decide)) (hs 68 (by decide)) (hs 69 (by decide)) (hs 70 (by decide)) (hs 71 (by decide))
theorem gc_8 (x kind : Int) (h : 0 ≤ x) : GrI.gC 8 x kind = ⟨8, GrI.partB x true 0, GrI.partB x true 5, GrI.partB x true 16, 0, kind⟩ := by
  have p := part_val x h
  have q := get_low (x / 1024) (by omega)
  have q' := get_low (x / 32) (by omega)
  have s := sign_26 x h
  have s' := sign_19 (x / 32) (by omega)
  apply GrI.I.ext <;> simp [GrI.gC, GrI.guess, GrI.parts, GrI.partB] <;> omega
theorem xguess_8 (x kind : Int) (w : World) (hs : ShAt w) (h0 : 0 ≤ x) (h1 : x < 4294967296) :
    Calls Tryd.prog 38 #[.int .u32 x, .int .i64 8, .int .i64 kind] w fun e w' => e = .returned (iv (GrI.gC 8 x kind)) ∧ Below w.heap.size w w' := by
  rw [gc_8 x kind h0]
  exact guess_none x 8 kind 2332033024 true true true (0) (0) (0) w (by decide) h0 h1 (hs 72 (by decide)) (hs 73 (by decide)) (hs 74 (by decide)) (hs 75 (by decide)) (hs 76 (by decide)) (hs 77 (by decide)) (hs 78 (by decide)) (hs 79 (by decide)) (hs 80 (by decide))
theorem gc_9 (x kind : Int) (h : 0 ≤ x) : GrI.gC 9 x kind = ⟨9, GrI.partB x true 0, GrI.partB x true 5, GrI.partB x true 16, 0, kind⟩ := by
  have p := part_val x h
  have q := get_low (x / 1024) (by omega)
  have q' := get_low (x / 32) (by omega)
  have s := sign_26 x h
  have s' := sign_19 (x / 32) (by omega)
  apply GrI.I.ext <;> simp [GrI.gC, GrI.guess, GrI.parts, GrI.partB] <;> omega
theorem xguess_9 (x kind : Int) (w : World) (hs : ShAt w) (h0 : 0 ≤ x) (h1 : x < 4294967296) :
    Calls Tryd.prog 38 #[.int .u32 x, .int .i64 9, .int .i64 kind] w fun e w' => e = .returned (iv (GrI.gC 9 x kind)) ∧ Below w.heap.size w w' := by
  rw [gc_9 x kind h0]
  exact guess_none x 9 kind 3405774848 true true true (0) (0) (0) w (by decide) h0 h1 (hs 81 (by decide)) (hs 82 (by decide)) (hs 83 (by decide)) (hs 84 (by decide)) (hs 85 (by decide)) (hs 86 (by decide)) (hs 87 (by decide)) (hs 88 (by decide)) (hs 89 (by decide))
theorem gc_10 (x kind : Int) (h : 0 ≤ x) : GrI.gC 10 x kind = ⟨10, GrI.partB x true 0, GrI.partB x true 5, GrI.partB x true 16, 0, kind⟩ := by
  have p := part_val x h
  have q := get_low (x / 1024) (by omega)
  have q' := get_low (x / 32) (by omega)
  have s := sign_26 x h
  have s' := sign_19 (x / 32) (by omega)
  apply GrI.I.ext <;> simp [GrI.gC, GrI.guess, GrI.parts, GrI.partB] <;> omega
theorem xguess_10 (x kind : Int) (w : World) (hs : ShAt w) (h0 : 0 ≤ x) (h1 : x < 4294967296) :
    Calls Tryd.prog 38 #[.int .u32 x, .int .i64 10, .int .i64 kind] w fun e w' => e = .returned (iv (GrI.gC 10 x kind)) ∧ Below w.heap.size w w' := by
  rw [gc_10 x kind h0]
  exact guess_none x 10 kind 2315255808 true true true (0) (0) (0) w (by decide) h0 h1 (hs 90 (by decide)) (hs 91 (by decide)) (hs 92 (by decide)) (hs 93 (by decide)) (hs 94 (by decide)) (hs 95 (by decide)) (hs 96 (by decide)) (hs 97 (by decide)) (hs 98 (by decide))
theorem gc_11 (x kind : Int) (h : 0 ≤ x) : GrI.gC 11 x kind = ⟨11, GrI.partB x true 0, GrI.partB x true 5, GrI.partB x true 16, 0, kind⟩ := by
  have p := part_val x h
  have q := get_low (x / 1024) (by omega)
  have q' := get_low (x / 32) (by omega)
  have s := sign_26 x h
  have s' := sign_19 (x / 32) (by omega)
  apply GrI.I.ext <;> simp [GrI.gC, GrI.guess, GrI.parts, GrI.partB] <;> omega
theorem xguess_11 (x kind : Int) (w : World) (hs : ShAt w) (h0 : 0 ≤ x) (h1 : x < 4294967296) :
    Calls Tryd.prog 38 #[.int .u32 x, .int .i64 11, .int .i64 kind] w fun e w' => e = .returned (iv (GrI.gC 11 x kind)) ∧ Below w.heap.size w w' := by
  rw [gc_11 x kind h0]
  exact guess_none x 11 kind 2852126720 true true true (0) (0) (0) w (by decide) h0 h1 (hs 99 (by decide)) (hs 100 (by decide)) (hs 101 (by decide)) (hs 102 (by decide)) (hs 103 (by decide)) (hs 104 (by decide)) (hs 105 (by decide)) (hs 106 (by decide)) (hs 107 (by decide))
theorem gc_12 (x kind : Int) (h : 0 ≤ x) : GrI.gC 12 x kind = ⟨12, GrI.partB x true 0, GrI.partB x true 5, GrI.partB x true 16, 0, kind⟩ := by
  have p := part_val x h
  have q := get_low (x / 1024) (by omega)
  have q' := get_low (x / 32) (by omega)
  have s := sign_26 x h
  have s' := sign_19 (x / 32) (by omega)
  apply GrI.I.ext <;> simp [GrI.gC, GrI.guess, GrI.parts, GrI.partB] <;> omega
theorem xguess_12 (x kind : Int) (w : World) (hs : ShAt w) (h0 : 0 ≤ x) (h1 : x < 4294967296) :
    Calls Tryd.prog 38 #[.int .u32 x, .int .i64 12, .int .i64 kind] w fun e w' => e = .returned (iv (GrI.gC 12 x kind)) ∧ Below w.heap.size w w' := by
  rw [gc_12 x kind h0]
  exact guess_none x 12 kind 3388997632 true true true (0) (0) (0) w (by decide) h0 h1 (hs 108 (by decide)) (hs 109 (by decide)) (hs 110 (by decide)) (hs 111 (by decide)) (hs 112 (by decide)) (hs 113 (by decide)) (hs 114 (by decide)) (hs 115 (by decide)) (hs 116 (by decide))
theorem gc_13 (x kind : Int) (h : 0 ≤ x) : GrI.gC 13 x kind = ⟨13, GrI.partB x true 0, GrI.partB x true 5, GrI.partB x true 16, 0, kind⟩ := by
  have p := part_val x h
  have q := get_low (x / 1024) (by omega)
  have q' := get_low (x / 32) (by omega)
  have s := sign_26 x h
  have s' := sign_19 (x / 32) (by omega)
  apply GrI.I.ext <;> simp [GrI.gC, GrI.guess, GrI.parts, GrI.partB] <;> omega
theorem xguess_13 (x kind : Int) (w : World) (hs : ShAt w) (h0 : 0 ≤ x) (h1 : x < 4294967296) :
    Calls Tryd.prog 38 #[.int .u32 x, .int .i64 13, .int .i64 kind] w fun e w' => e = .returned (iv (GrI.gC 13 x kind)) ∧ Below w.heap.size w w' := by
  rw [gc_13 x kind h0]
  exact guess_none x 13 kind 3942645760 true true true (0) (0) (0) w (by decide) h0 h1 (hs 117 (by decide)) (hs 118 (by decide)) (hs 119 (by decide)) (hs 120 (by decide)) (hs 121 (by decide)) (hs 122 (by decide)) (hs 123 (by decide)) (hs 124 (by decide)) (hs 125 (by decide))
theorem gc_14 (x kind : Int) (h : 0 ≤ x) : GrI.gC 14 x kind = ⟨14, GrI.partB x false 0, GrI.partB x false 5, GrI.partB x false 16, GrF.signed x 26, kind⟩ := by
  have p := part_val x h
  have q := get_low (x / 1024) (by omega)
  have q' := get_low (x / 32) (by omega)
  have s := sign_26 x h
  have s' := sign_19 (x / 32) (by omega)
  apply GrI.I.ext <;> simp [GrI.gC, GrI.guess, GrI.parts, GrI.partB] <;> omega
theorem xguess_14 (x kind : Int) (w : World) (hs : ShAt w) (h0 : 0 ≤ x) (h1 : x < 4294967296) :
    Calls Tryd.prog 38 #[.int .u32 x, .int .i64 14, .int .i64 kind] w fun e w' => e = .returned (iv (GrI.gC 14 x kind)) ∧ Below w.heap.size w w' := by
  rw [gc_14 x kind h0]
  exact guess_s26 x 14 kind 335544320 false false false (1) (0) (0) w (by decide) h0 h1 (hs 126 (by decide)) (hs 127 (by decide)) (hs 128 (by decide)) (hs 129 (by decide)) (hs 130 (by decide)) (hs 131 (by decide)) (hs 132 (by decide)) (hs 133 (by decide)) (hs 134 (by decide))
theorem gc_15 (x kind : Int) (h : 0 ≤ x) : GrI.gC 15 x kind = ⟨15, GrI.partB x true 0, GrI.partB x false 5, GrI.partB x false 16, GrF.signed (x / 32) 19, kind⟩ := by
  have p := part_val x h
  have q := get_low (x / 1024) (by omega)
  have q' := get_low (x / 32) (by omega)
  have s := sign_26 x h
  have s' := sign_19 (x / 32) (by omega)
  apply GrI.I.ext <;> simp [GrI.gC, GrI.guess, GrI.parts, GrI.partB] <;> omega
theorem xguess_15 (x kind : Int) (w : World) (hs : ShAt w) (h0 : 0 ≤ x) (h1 : x < 4294967296) :
    Calls Tryd.prog 38 #[.int .u32 x, .int .i64 15, .int .i64 kind] w fun e w' => e = .returned (iv (GrI.gC 15 x kind)) ∧ Below w.heap.size w w' := by
  rw [gc_15 x kind h0]
  exact guess_s19 x 15 kind 3019898880 true false false (1) (0) (0) w (by decide) h0 h1 (hs 135 (by decide)) (hs 136 (by decide)) (hs 137 (by decide)) (hs 138 (by decide)) (hs 139 (by decide)) (hs 140 (by decide)) (hs 141 (by decide)) (hs 142 (by decide)) (hs 143 (by decide))
theorem gc_16 (x kind : Int) (h : 0 ≤ x) : GrI.gC 16 x kind = ⟨16, GrI.partB x true 0, GrI.partB x false 5, GrI.partB x false 16, GrF.signed (x / 32) 19, kind⟩ := by
  have p := part_val x h
  have q := get_low (x / 1024) (by omega)
  have q' := get_low (x / 32) (by omega)
  have s := sign_26 x h
  have s' := sign_19 (x / 32) (by omega)
  apply GrI.I.ext <;> simp [GrI.gC, GrI.guess, GrI.parts, GrI.partB] <;> omega
theorem xguess_16 (x kind : Int) (w : World) (hs : ShAt w) (h0 : 0 ≤ x) (h1 : x < 4294967296) :
    Calls Tryd.prog 38 #[.int .u32 x, .int .i64 16, .int .i64 kind] w fun e w' => e = .returned (iv (GrI.gC 16 x kind)) ∧ Below w.heap.size w w' := by
  rw [gc_16 x kind h0]
  exact guess_s19 x 16 kind 3036676096 true false false (1) (0) (0) w (by decide) h0 h1 (hs 144 (by decide)) (hs 145 (by decide)) (hs 146 (by decide)) (hs 147 (by decide)) (hs 148 (by decide)) (hs 149 (by decide)) (hs 150 (by decide)) (hs 151 (by decide)) (hs 152 (by decide))
theorem gc_17 (x kind : Int) (h : 0 ≤ x) : GrI.gC 17 x kind = ⟨17, GrI.partB x false 0, GrI.partB x false 5, GrI.partB x false 16, GrF.signed (x / 32) 19, kind⟩ := by
  have p := part_val x h
  have q := get_low (x / 1024) (by omega)
  have q' := get_low (x / 32) (by omega)
  have s := sign_26 x h
  have s' := sign_19 (x / 32) (by omega)
  apply GrI.I.ext <;> simp [GrI.gC, GrI.guess, GrI.parts, GrI.partB] <;> omega
theorem xguess_17 (x kind : Int) (w : World) (hs : ShAt w) (h0 : 0 ≤ x) (h1 : x < 4294967296) :
    Calls Tryd.prog 38 #[.int .u32 x, .int .i64 17, .int .i64 kind] w fun e w' => e = .returned (iv (GrI.gC 17 x kind)) ∧ Below w.heap.size w w' := by
  rw [gc_17 x kind h0]
  exact guess_s19 x 17 kind 1409286144 false false false (1) (2) (0) w (by decide) h0 h1 (hs 153 (by decide)) (hs 154 (by decide)) (hs 155 (by decide)) (hs 156 (by decide)) (hs 157 (by decide)) (hs 158 (by decide)) (hs 159 (by decide)) (hs 160 (by decide)) (hs 161 (by decide))
theorem gc_18 (x kind : Int) (h : 0 ≤ x) : GrI.gC 18 x kind = ⟨18, GrI.partB x false 0, GrI.partB x false 5, GrI.partB x false 16, 0, kind⟩ := by
  have p := part_val x h
  have q := get_low (x / 1024) (by omega)
  have q' := get_low (x / 32) (by omega)
  have s := sign_26 x h
  have s' := sign_19 (x / 32) (by omega)
  apply GrI.I.ext <;> simp [GrI.gC, GrI.guess, GrI.parts, GrI.partB] <;> omega
theorem xguess_18 (x kind : Int) (w : World) (hs : ShAt w) (h0 : 0 ≤ x) (h1 : x < 4294967296) :
    Calls Tryd.prog 38 #[.int .u32 x, .int .i64 18, .int .i64 kind] w fun e w' => e = .returned (iv (GrI.gC 18 x kind)) ∧ Below w.heap.size w w' := by
  rw [gc_18 x kind h0]
  exact guess_none x 18 kind 3573756095 false false false (0) (16) (8) w (by decide) h0 h1 (hs 162 (by decide)) (hs 163 (by decide)) (hs 164 (by decide)) (hs 165 (by decide)) (hs 166 (by decide)) (hs 167 (by decide)) (hs 168 (by decide)) (hs 169 (by decide)) (hs 170 (by decide))
theorem gc_19 (x kind : Int) (h : 0 ≤ x) : GrI.gC 19 x kind = ⟨19, GrI.partB x false 0, GrI.partB x false 5, GrI.partB x false 16, 0, kind⟩ := by
  have p := part_val x h
  have q := get_low (x / 1024) (by omega)
  have q' := get_low (x / 32) (by omega)
  have s := sign_26 x h
  have s' := sign_19 (x / 32) (by omega)
  apply GrI.I.ext <;> simp [GrI.gC, GrI.guess, GrI.parts, GrI.partB] <;> omega
theorem xguess_19 (x kind : Int) (w : World) (hs : ShAt w) (h0 : 0 ≤ x) (h1 : x < 4294967296) :
    Calls Tryd.prog 38 #[.int .u32 x, .int .i64 19, .int .i64 kind] w fun e w' => e = .returned (iv (GrI.gC 19 x kind)) ∧ Below w.heap.size w w' := by
  rw [gc_19 x kind h0]
  exact guess_none x 19 kind 3573756063 false false false (0) (16) (8) w (by decide) h0 h1 (hs 171 (by decide)) (hs 172 (by decide)) (hs 173 (by decide)) (hs 174 (by decide)) (hs 175 (by decide)) (hs 176 (by decide)) (hs 177 (by decide)) (hs 178 (by decide)) (hs 179 (by decide))
theorem gc_20 (x kind : Int) (h : 0 ≤ x) : GrI.gC 20 x kind = ⟨20, GrI.partB x false 0, GrI.partB x false 5, GrI.partB x false 16, 0, kind⟩ := by
  have p := part_val x h
  have q := get_low (x / 1024) (by omega)
  have q' := get_low (x / 32) (by omega)
  have s := sign_26 x h
  have s' := sign_19 (x / 32) (by omega)
  apply GrI.I.ext <;> simp [GrI.gC, GrI.guess, GrI.parts, GrI.partB] <;> omega
theorem xguess_20 (x kind : Int) (w : World) (hs : ShAt w) (h0 : 0 ≤ x) (h1 : x < 4294967296) :
    Calls Tryd.prog 38 #[.int .u32 x, .int .i64 20, .int .i64 kind] w fun e w' => e = .returned (iv (GrI.gC 20 x kind)) ∧ Below w.heap.size w w' := by
  rw [gc_20 x kind h0]
  exact guess_none x 20 kind 3573759967 false false false (0) (0) (0) w (by decide) h0 h1 (hs 180 (by decide)) (hs 181 (by decide)) (hs 182 (by decide)) (hs 183 (by decide)) (hs 184 (by decide)) (hs 185 (by decide)) (hs 186 (by decide)) (hs 187 (by decide)) (hs 188 (by decide))
theorem gc_21 (x kind : Int) (h : 0 ≤ x) : GrI.gC 21 x kind = ⟨21, GrI.partB x true 0, GrI.partB x false 5, GrI.partB x false 16, 0, kind⟩ := by
  have p := part_val x h
  have q := get_low (x / 1024) (by omega)
  have q' := get_low (x / 32) (by omega)
  have s := sign_26 x h
  have s' := sign_19 (x / 32) (by omega)
  apply GrI.I.ext <;> simp [GrI.gC, GrI.guess, GrI.parts, GrI.partB] <;> omega
theorem xguess_21 (x kind : Int) (w : World) (hs : ShAt w) (h0 : 0 ≤ x) (h1 : x < 4294967296) :
    Calls Tryd.prog 38 #[.int .u32 x, .int .i64 21, .int .i64 kind] w fun e w' => e = .returned (iv (GrI.gC 21 x kind)) ∧ Below w.heap.size w w' := by
  rw [gc_21 x kind h0]
  exact guess_none x 21 kind 3574104832 true false false (0) (8) (0) w (by decide) h0 h1 (hs 189 (by decide)) (hs 190 (by decide)) (hs 191 (by decide)) (hs 192 (by decide)) (hs 193 (by decide)) (hs 194 (by decide)) (hs 195 (by decide)) (hs 196 (by decide)) (hs 197 (by decide))
theorem gc_22 (x kind : Int) (h : 0 ≤ x) : GrI.gC 22 x kind = ⟨22, GrI.partB x false 0, GrI.partB x false 5, GrI.partB x false 16, 0, kind⟩ := by
  have p := part_val x h
  have q := get_low (x / 1024) (by omega)
  have q' := get_low (x / 32) (by omega)
  have s := sign_26 x h
  have s' := sign_19 (x / 32) (by omega)
  apply GrI.I.ext <;> simp [GrI.gC, GrI.guess, GrI.parts, GrI.partB] <;> omega
theorem xguess_22 (x kind : Int) (w : World) (hs : ShAt w) (h0 : 0 ≤ x) (h1 : x < 4294967296) :
    Calls Tryd.prog 38 #[.int .u32 x, .int .i64 22, .int .i64 kind] w fun e w' => e = .returned (iv (GrI.gC 22 x kind)) ∧ Below w.heap.size w w' := by
  rw [gc_22 x kind h0]
  exact guess_none x 22 kind 3600745440 false false false (0) (0) (0) w (by decide) h0 h1 (hs 198 (by decide)) (hs 199 (by decide)) (hs 200 (by decide)) (hs 201 (by decide)) (hs 202 (by decide)) (hs 203 (by decide)) (hs 204 (by decide)) (hs 205 (by decide)) (hs 206 (by decide))
theorem gc_23 (x kind : Int) (h : 0 ≤ x) : GrI.gC 23 x kind = ⟨23, GrI.partB x true 0, GrI.partB x false 5, GrI.partB x false 16, 0, kind⟩ := by
  have p := part_val x h
  have q := get_low (x / 1024) (by omega)
  have q' := get_low (x / 32) (by omega)
  have s := sign_26 x h
  have s' := sign_19 (x / 32) (by omega)
  apply GrI.I.ext <;> simp [GrI.gC, GrI.guess, GrI.parts, GrI.partB] <;> omega
theorem xguess_23 (x kind : Int) (w : World) (hs : ShAt w) (h0 : 0 ≤ x) (h1 : x < 4294967296) :
    Calls Tryd.prog 38 #[.int .u32 x, .int .i64 23, .int .i64 kind] w fun e w' => e = .returned (iv (GrI.gC 23 x kind)) ∧ Below w.heap.size w w' := by
  rw [gc_23 x kind h0]
  exact guess_none x 23 kind 3577217024 true false false (0) (3) (0) w (by decide) h0 h1 (hs 207 (by decide)) (hs 208 (by decide)) (hs 209 (by decide)) (hs 210 (by decide)) (hs 211 (by decide)) (hs 212 (by decide)) (hs 213 (by decide)) (hs 214 (by decide)) (hs 215 (by decide))
theorem xguess_any (x op kind : Int) (w : World) (hs : ShAt w) (h0 : 0 ≤ x) (h1 : x < 4294967296) (o0 : 1 ≤ op) (o1 : op ≤ 23) :
    Calls Tryd.prog 38 #[.int .u32 x, .int .i64 op, .int .i64 kind] w fun e w' => e = .returned (iv (GrI.gC op x kind)) ∧ Below w.heap.size w w' := by
  have h : op = 1 ∨ op = 2 ∨ op = 3 ∨ op = 4 ∨ op = 5 ∨ op = 6 ∨ op = 7 ∨ op = 8 ∨ op = 9 ∨ op = 10 ∨ op = 11 ∨ op = 12 ∨ op = 13 ∨ op = 14 ∨ op = 15 ∨ op = 16 ∨ op = 17 ∨ op = 18 ∨ op = 19 ∨ op = 20 ∨ op = 21 ∨ op = 22 ∨ op = 23 := by omega
  rcases h with rfl | rfl | rfl | rfl | rfl | rfl | rfl | rfl | rfl | rfl | rfl | rfl | rfl | rfl | rfl | rfl | rfl | rfl | rfl | rfl | rfl | rfl | rfl
  · exact xguess_1 x kind w hs h0 h1
  · exact xguess_2 x kind w hs h0 h1
  · exact xguess_3 x kind w hs h0 h1
  · exact xguess_4 x kind w hs h0 h1
  · exact xguess_5 x kind w hs h0 h1
  · exact xguess_6 x kind w hs h0 h1
  · exact xguess_7 x kind w hs h0 h1
  · exact xguess_8 x kind w hs h0 h1
  · exact xguess_9 x kind w hs h0 h1
  · exact xguess_10 x kind w hs h0 h1
  · exact xguess_11 x kind w hs h0 h1
  · exact xguess_12 x kind w hs h0 h1
  · exact xguess_13 x kind w hs h0 h1
  · exact xguess_14 x kind w hs h0 h1
  · exact xguess_15 x kind w hs h0 h1
  · exact xguess_16 x kind w hs h0 h1
  · exact xguess_17 x kind w hs h0 h1
  · exact xguess_18 x kind w hs h0 h1
  · exact xguess_19 x kind w hs h0 h1
  · exact xguess_20 x kind w hs h0 h1
  · exact xguess_21 x kind w hs h0 h1
  · exact xguess_22 x kind w hs h0 h1
  · exact xguess_23 x kind w hs h0 h1
end Go.Proofs.YtebpmngllljkaaaDoor
