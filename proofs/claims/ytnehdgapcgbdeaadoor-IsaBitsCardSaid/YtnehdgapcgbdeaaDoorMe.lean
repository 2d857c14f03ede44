/-
  Layer 3, the laws' walks.
-/
import Derived.Test.YtnehdgapcgbdeaaDoorMd
set_option linter.unusedSimpArgs false
set_option linter.unusedVariables false
namespace GrI
theorem imm_bd {y : I} (h : right y) : -9223372036854775808 ≤ y.imm ∧ y.imm ≤ 9223372036854775807 := by
  obtain ⟨op, d, n, m, imm, kind⟩ := y
  have ho := ops h
  simp only at ho ⊢
  rcases ho with rfl | rfl | rfl | rfl | rfl | rfl | rfl | rfl | rfl | rfl | rfl | rfl | rfl | rfl | rfl | rfl | rfl | rfl | rfl | rfl | rfl | rfl | rfl
  all_goals
    simp [right, parts, nums] at h
    omega
end GrI
namespace Go.Proofs.YtnehdgapcgbdeaaDoor
open Go.RowKit
/-- the state of a law's walk: the table, the argument's box -/
structure St (w wr : World) (B : Nat) (x : GrI.I) : Prop where
  sh : ShAt wr
  box : Bx wr B x
  bel : Below w.heap.size w wr
theorem St.below {w wr w' : World} {B : Nat} {x : GrI.I} (h : St w wr B x) (b : Below wr.heap.size wr w') : St w w' B x :=
  ⟨h.sh.below b, h.box.below b, h.bel.trans (b.mono h.bel.size)⟩
theorem St.alloc {w wr : World} {B : Nat} {x : GrI.I} (h : St w wr B x) (o : Obj) : St w (wr.alloc o) B x := h.below ((Below.refl _ _).alloc (Nat.le_refl _) o)
theorem St.start {w : World} (hs : ShAt w) (x : GrI.I) : St w (w.alloc (ibox x)) w.heap.size x := ⟨hs.alloc _, Bx.start w x, (Below.refl _ _).alloc (Nat.le_refl _) _⟩
structure St0 (w wr : World) : Prop where
  sh : ShAt wr
  bel : Below w.heap.size w wr
theorem St0.below {w wr w' : World} (h : St0 w wr) (b : Below wr.heap.size wr w') : St0 w w' :=
  ⟨h.sh.below b, h.bel.trans (b.mono h.bel.size)⟩
theorem St0.start {w : World} (hs : ShAt w) : St0 w w := ⟨hs, Below.refl _ _⟩
theorem encB_true {x : GrI.I} (h : encB x = true) : GrI.right x := by simpa [encB] using h
theorem encB_false {x : GrI.I} (h : encB x = false) : ¬ GrI.right x := by simpa [encB] using h
theorem enc_yes (x : GrI.I) (w : World) (hs : ShAt w) (hb : -9223372036854775808 ≤ x.imm ∧ x.imm ≤ 9223372036854775807) (h : encB x = true) : Calls Tryd.prog 10 #[iv x] w fun e w' => e = .returned (.tuple #[.int .u32 (GrI.word x), .int .i64 0]) ∧ Below w.heap.size w w' := by
  have := xenc_all x w hs hb.1 hb.2
  rw [encV, h] at this
  exact this
theorem enc_no (x : GrI.I) (w : World) (hs : ShAt w) (hb : -9223372036854775808 ≤ x.imm ∧ x.imm ≤ 9223372036854775807) (h : encB x = false) : Calls Tryd.prog 10 #[iv x] w fun e w' => e = .returned (.tuple #[.int .u32 0, .int .i64 30]) ∧ Below w.heap.size w w' := by
  have := xenc_all x w hs hb.1 hb.2
  rw [encV, h] at this
  exact this
theorem right_yes (x : GrI.I) (w : World) (hs : ShAt w) (hb : -9223372036854775808 ≤ x.imm ∧ x.imm ≤ 9223372036854775807) (h : encB x = true) : Calls Tryd.prog 12 #[iv x] w fun e w' => e = .returned (.int .i64 0) ∧ Below w.heap.size w w' := by
  have := xright_all x w hs hb.1 hb.2
  rw [h] at this
  exact this
theorem right_no (x : GrI.I) (w : World) (hs : ShAt w) (hb : -9223372036854775808 ≤ x.imm ∧ x.imm ≤ 9223372036854775807) (h : encB x = false) : Calls Tryd.prog 12 #[iv x] w fun e w' => e = .returned (.int .i64 30) ∧ Below w.heap.size w w' := by
  have := xright_all x w hs hb.1 hb.2
  rw [h] at this
  exact this
theorem pright_is (x : GrI.I) (w : World) (b : Bool) (h : encB x = b) : Calls Tryd.prog 11 #[iv x] w fun e w' => e = .returned (.bool b) ∧ Below w.heap.size w w' := by
  rw [← h]
  exact irright_below x w

set_option maxHeartbeats 3200000 in
theorem IsaEncodes_walk (op d n m imm kind : Int) (hb : -9223372036854775808 ≤ imm ∧ imm ≤ 9223372036854775807) (w : World) (hs : ShAt w) :
    Calls Tryd.prog 3 #[.agg #[.int .i64 op, .int .i64 d, .int .i64 n, .int .i64 m, .int .i64 imm, .int .i64 kind]] w fun e w' => e = .returned (.bool true) ∧ Below w.heap.size w w' := by
  have S0 := Lib.hid (St.start hs (⟨op, d, n, m, imm, kind⟩ : GrI.I))
  clear hs
  cases h : encB ⟨op, d, n, m, imm, kind⟩ with
  | false =>
    have EN := Lib.hid (show ∀ w, ShAt w → Calls Tryd.prog 10 #[.agg #[.int .i64 op, .int .i64 d, .int .i64 n, .int .i64 m, .int .i64 imm, .int .i64 kind]] w fun e w' => e = .returned (.tuple #[.int .u32 0, .int .i64 30]) ∧ Below w.heap.size w w' from fun w hs => enc_no ⟨op, d, n, m, imm, kind⟩ w hs hb h)
    have RI := Lib.hid (show ∀ w, ShAt w → Calls Tryd.prog 12 #[.agg #[.int .i64 op, .int .i64 d, .int .i64 n, .int .i64 m, .int .i64 imm, .int .i64 kind]] w fun e w' => e = .returned (.int .i64 30) ∧ Below w.heap.size w w' from fun w hs => right_no ⟨op, d, n, m, imm, kind⟩ w hs hb h)
    have PR := Lib.hid (show ∀ w, Calls Tryd.prog 11 #[.agg #[.int .i64 op, .int .i64 d, .int .i64 n, .int .i64 m, .int .i64 imm, .int .i64 kind]] w fun e w' => e = .returned (.bool false) ∧ Below w.heap.size w w' from fun w => pright_is ⟨op, d, n, m, imm, kind⟩ w false h)
    clear h hb
    go_enter Tryd.func3, Tryd.ntmps3
    go_wp2_with fail
    refine (iawake_any _ S0.out.sh).mono ?_
    rintro e w1 ⟨rfl, b⟩
    have S1 := Lib.hid (S0.out.below b)
    clear b
    have c0 := S1.out.box.c0
    have c1 := S1.out.box.c1
    have c2 := S1.out.box.c2
    have c3 := S1.out.box.c3
    have c4 := S1.out.box.c4
    have c5 := S1.out.box.c5
    go_wp2_with fail
    refine (EN.out _ S1.out.sh).mono ?_
    rintro e w2 ⟨rfl, b⟩
    have S2 := Lib.hid (S1.out.below b)
    clear b
    clear c0 c1 c2 c3 c4 c5
    have c0 := S2.out.box.c0
    have c1 := S2.out.box.c1
    have c2 := S2.out.box.c2
    have c3 := S2.out.box.c3
    have c4 := S2.out.box.c4
    have c5 := S2.out.box.c5
    go_wp2_with fail
    refine (PR.out _).mono ?_
    rintro e w3 ⟨rfl, b⟩
    have S3 := Lib.hid (S2.out.below b)
    clear b
    clear c0 c1 c2 c3 c4 c5
    have c0 := S3.out.box.c0
    have c1 := S3.out.box.c1
    have c2 := S3.out.box.c2
    have c3 := S3.out.box.c3
    have c4 := S3.out.box.c4
    have c5 := S3.out.box.c5
    go_wp2_with fail
    refine (RI.out _ S3.out.sh).mono ?_
    rintro e w4 ⟨rfl, b⟩
    have S4 := Lib.hid (S3.out.below b)
    clear b
    clear c0 c1 c2 c3 c4 c5
    go_wp2
    go_ret
    exact ⟨rfl, S4.out.bel⟩
  | true =>
    have hr := encB_true h
    have wb := GrI.word_bd _ hr
    have PW := Lib.hid (show ∀ w, Calls Tryd.prog 13 #[.agg #[.int .i64 op, .int .i64 d, .int .i64 n, .int .i64 m, .int .i64 imm, .int .i64 kind]] w fun e w' => e = .returned (.int .i64 (GrI.word ⟨op, d, n, m, imm, kind⟩)) ∧ Below w.heap.size w w' from fun w => pword_any ⟨op, d, n, m, imm, kind⟩ w hr)
    have EN := Lib.hid (show ∀ w, ShAt w → Calls Tryd.prog 10 #[.agg #[.int .i64 op, .int .i64 d, .int .i64 n, .int .i64 m, .int .i64 imm, .int .i64 kind]] w fun e w' => e = .returned (.tuple #[.int .u32 (GrI.word ⟨op, d, n, m, imm, kind⟩), .int .i64 0]) ∧ Below w.heap.size w w' from fun w hs => enc_yes ⟨op, d, n, m, imm, kind⟩ w hs hb h)
    have RI := Lib.hid (show ∀ w, ShAt w → Calls Tryd.prog 12 #[.agg #[.int .i64 op, .int .i64 d, .int .i64 n, .int .i64 m, .int .i64 imm, .int .i64 kind]] w fun e w' => e = .returned (.int .i64 0) ∧ Below w.heap.size w w' from fun w hs => right_yes ⟨op, d, n, m, imm, kind⟩ w hs hb h)
    have PR := Lib.hid (show ∀ w, Calls Tryd.prog 11 #[.agg #[.int .i64 op, .int .i64 d, .int .i64 n, .int .i64 m, .int .i64 imm, .int .i64 kind]] w fun e w' => e = .returned (.bool true) ∧ Below w.heap.size w w' from fun w => pright_is ⟨op, d, n, m, imm, kind⟩ w true h)
    obtain ⟨V, hV⟩ : ∃ V, V = GrI.word ⟨op, d, n, m, imm, kind⟩ := ⟨_, rfl⟩
    rw [← hV] at wb PW EN
    obtain ⟨v0, v1⟩ := wb
    clear h hb hr hV
    go_enter Tryd.func3, Tryd.ntmps3
    go_wp2_with fail
    refine (iawake_any _ S0.out.sh).mono ?_
    rintro e w1 ⟨rfl, b⟩
    have S1 := Lib.hid (S0.out.below b)
    clear b
    have c0 := S1.out.box.c0
    have c1 := S1.out.box.c1
    have c2 := S1.out.box.c2
    have c3 := S1.out.box.c3
    have c4 := S1.out.box.c4
    have c5 := S1.out.box.c5
    go_wp2_with fail
    refine (EN.out _ S1.out.sh).mono ?_
    rintro e w2 ⟨rfl, b⟩
    have S2 := Lib.hid (S1.out.below b)
    clear b
    clear c0 c1 c2 c3 c4 c5
    have c0 := S2.out.box.c0
    have c1 := S2.out.box.c1
    have c2 := S2.out.box.c2
    have c3 := S2.out.box.c3
    have c4 := S2.out.box.c4
    have c5 := S2.out.box.c5
    go_wp2_with fail
    refine (PR.out _).mono ?_
    rintro e w3 ⟨rfl, b⟩
    have S3 := Lib.hid (S2.out.below b)
    clear b
    clear c0 c1 c2 c3 c4 c5
    have c0 := S3.out.box.c0
    have c1 := S3.out.box.c1
    have c2 := S3.out.box.c2
    have c3 := S3.out.box.c3
    have c4 := S3.out.box.c4
    have c5 := S3.out.box.c5
    go_wp2_with fail
    refine (RI.out _ S3.out.sh).mono ?_
    rintro e w4 ⟨rfl, b⟩
    have S4 := Lib.hid (S3.out.below b)
    clear b
    clear c0 c1 c2 c3 c4 c5
    have c0 := S4.out.box.c0
    have c1 := S4.out.box.c1
    have c2 := S4.out.box.c2
    have c3 := S4.out.box.c3
    have c4 := S4.out.box.c4
    have c5 := S4.out.box.c5
    go_wp2_with fail
    refine (PW.out _).mono ?_
    rintro e w5 ⟨rfl, b⟩
    have S5 := Lib.hid (S4.out.below b)
    clear b
    clear c0 c1 c2 c3 c4 c5
    go_wp2
    go_ret
    exact ⟨rfl, S5.out.bel⟩

set_option maxHeartbeats 3200000 in
theorem IsaDecodes_walk (V : Int) (h0 : 0 ≤ V) (h1 : V < 4294967296) (w : World) (hs : ShAt w) :
    Calls Tryd.prog 4 #[.int .u32 V] w fun e w' => e = .returned (.bool true) ∧ Below w.heap.size w w' := by
  have S0 := Lib.hid (St0.start hs)
  clear hs
  by_cases h : ∃ y, GrI.right y ∧ GrI.word y = V
  · obtain ⟨y, hr, rfl⟩ := h
    have DX := Lib.hid (fun w hs => xdecode_yes y w hs hr)
    have PX := Lib.hid (fun w => pdecode_yes y w hr)
    obtain ⟨V, hV⟩ : ∃ V, V = GrI.word y := ⟨_, rfl⟩
    rw [← hV] at h0 h1 DX PX ⊢
    clear hV hr
    obtain ⟨op, d, n, m, imm, kind⟩ := y
    have DX := Lib.hid (show ∀ w, ShAt w → Calls Tryd.prog 14 #[.int .u32 V] w fun e w' => e = .returned (.tuple #[.agg #[.int .i64 op, .int .i64 d, .int .i64 n, .int .i64 m, .int .i64 imm, .int .i64 kind], .int .i64 0]) ∧ Below w.heap.size w w' from fun w hs => DX.out w hs)
    have PX := Lib.hid (show ∀ w, Calls Tryd.prog 15 #[.int .i64 V] w fun e w' => e = .returned (.tuple #[.agg #[.int .i64 op, .int .i64 d, .int .i64 n, .int .i64 m, .int .i64 imm, .int .i64 kind], .bool true]) ∧ Below w.heap.size w w' from fun w => PX.out w)
    go_enter Tryd.func4, Tryd.ntmps4
    go_wp2_with fail
    refine (iawake_any _ S0.out.sh).mono ?_
    rintro e w1 ⟨rfl, b⟩
    have S1 := Lib.hid (S0.out.below b)
    clear b
    go_wp2_with fail
    refine (DX.out _ S1.out.sh).mono ?_
    rintro e w2 ⟨rfl, b⟩
    have S2 := Lib.hid (S1.out.below b)
    clear b
    go_upto_region 4 with fail
    obtain ⟨w3, hw3⟩ : ∃ w3, w3 = w2.alloc (ibox ⟨op, d, n, m, imm, kind⟩) := ⟨_, rfl⟩
    have S3 := Lib.hid (show St w w3 w2.heap.size ⟨op, d, n, m, imm, kind⟩ by rw [hw3]; exact ⟨S2.out.sh.alloc _, Bx.start _ _, S2.out.bel.alloc S2.out.bel.size _⟩)
    rw [ibox] at hw3
    rw [← hw3]
    clear hw3
    go_wp2_with fail
    refine (PX.out _).mono ?_
    rintro e w4 ⟨rfl, b⟩
    have S4 := Lib.hid (S3.out.below b)
    clear b
    go_upto_region 5 with fail
    obtain ⟨w5, hw5⟩ : ∃ w5, w5 = w4.alloc (ibox ⟨op, d, n, m, imm, kind⟩) := ⟨_, rfl⟩
    have S5 := Lib.hid (show St w w5 w2.heap.size ⟨op, d, n, m, imm, kind⟩ by rw [hw5]; exact S4.out.alloc _)
    have T5 := Lib.hid (show Bx w5 w4.heap.size ⟨op, d, n, m, imm, kind⟩ by rw [hw5]; exact Bx.start _ _)
    rw [ibox] at hw5
    rw [← hw5]
    clear hw5
    have c0 := S5.out.box.c0
    have c1 := S5.out.box.c1
    have c2 := S5.out.box.c2
    have c3 := S5.out.box.c3
    have c4 := S5.out.box.c4
    have c5 := S5.out.box.c5
    have t0 := T5.out.c0
    have t1 := T5.out.c1
    have t2 := T5.out.c2
    have t3 := T5.out.c3
    have t4 := T5.out.c4
    have t5 := T5.out.c5
    go_wp2
    go_ret
    exact ⟨rfl, S5.out.bel⟩
  · have hn : ∀ y, GrI.right y → GrI.word y ≠ V := fun y hr hw => h ⟨y, hr, hw⟩
    have DX := Lib.hid (fun w hs => xdecode_no V w hs h0 h1 hn)
    have PX := Lib.hid (fun w => pdecode_no V w h0 h1 hn)
    obtain ⟨y, hy⟩ : ∃ y, y = GrI.zero := ⟨_, rfl⟩
    rw [← hy] at DX PX
    clear hy hn h
    obtain ⟨op, d, n, m, imm, kind⟩ := y
    have DX := Lib.hid (show ∀ w, ShAt w → Calls Tryd.prog 14 #[.int .u32 V] w fun e w' => e = .returned (.tuple #[.agg #[.int .i64 op, .int .i64 d, .int .i64 n, .int .i64 m, .int .i64 imm, .int .i64 kind], .int .i64 31]) ∧ Below w.heap.size w w' from fun w hs => DX.out w hs)
    have PX := Lib.hid (show ∀ w, Calls Tryd.prog 15 #[.int .i64 V] w fun e w' => e = .returned (.tuple #[.agg #[.int .i64 op, .int .i64 d, .int .i64 n, .int .i64 m, .int .i64 imm, .int .i64 kind], .bool false]) ∧ Below w.heap.size w w' from fun w => PX.out w)
    go_enter Tryd.func4, Tryd.ntmps4
    go_wp2_with fail
    refine (iawake_any _ S0.out.sh).mono ?_
    rintro e w1 ⟨rfl, b⟩
    have S1 := Lib.hid (S0.out.below b)
    clear b
    go_wp2_with fail
    refine (DX.out _ S1.out.sh).mono ?_
    rintro e w2 ⟨rfl, b⟩
    have S2 := Lib.hid (S1.out.below b)
    clear b
    go_upto_region 4 with fail
    obtain ⟨w3, hw3⟩ : ∃ w3, w3 = w2.alloc (ibox ⟨op, d, n, m, imm, kind⟩) := ⟨_, rfl⟩
    have S3 := Lib.hid (show St w w3 w2.heap.size ⟨op, d, n, m, imm, kind⟩ by rw [hw3]; exact ⟨S2.out.sh.alloc _, Bx.start _ _, S2.out.bel.alloc S2.out.bel.size _⟩)
    rw [ibox] at hw3
    rw [← hw3]
    clear hw3
    go_wp2_with fail
    refine (PX.out _).mono ?_
    rintro e w4 ⟨rfl, b⟩
    have S4 := Lib.hid (S3.out.below b)
    clear b
    go_upto_region 5 with fail
    obtain ⟨w5, hw5⟩ : ∃ w5, w5 = w4.alloc (ibox ⟨op, d, n, m, imm, kind⟩) := ⟨_, rfl⟩
    have S5 := Lib.hid (show St w w5 w2.heap.size ⟨op, d, n, m, imm, kind⟩ by rw [hw5]; exact S4.out.alloc _)
    have T5 := Lib.hid (show Bx w5 w4.heap.size ⟨op, d, n, m, imm, kind⟩ by rw [hw5]; exact Bx.start _ _)
    rw [ibox] at hw5
    rw [← hw5]
    clear hw5
    have c0 := S5.out.box.c0
    have c1 := S5.out.box.c1
    have c2 := S5.out.box.c2
    have c3 := S5.out.box.c3
    have c4 := S5.out.box.c4
    have c5 := S5.out.box.c5
    have t0 := T5.out.c0
    have t1 := T5.out.c1
    have t2 := T5.out.c2
    have t3 := T5.out.c3
    have t4 := T5.out.c4
    have t5 := T5.out.c5
    go_wp2
    go_ret
    exact ⟨rfl, S5.out.bel⟩

set_option maxHeartbeats 3200000 in
theorem IsaBack_walk (op d n m imm kind : Int) (hb : -9223372036854775808 ≤ imm ∧ imm ≤ 9223372036854775807) (w : World) (hs : ShAt w) :
    Calls Tryd.prog 5 #[.agg #[.int .i64 op, .int .i64 d, .int .i64 n, .int .i64 m, .int .i64 imm, .int .i64 kind]] w fun e w' => e = .returned (.bool true) ∧ Below w.heap.size w w' := by
  have S0 := Lib.hid (St.start hs (⟨op, d, n, m, imm, kind⟩ : GrI.I))
  clear hs
  cases h : encB ⟨op, d, n, m, imm, kind⟩ with
  | false =>
    have EN := Lib.hid (show ∀ w, ShAt w → Calls Tryd.prog 10 #[.agg #[.int .i64 op, .int .i64 d, .int .i64 n, .int .i64 m, .int .i64 imm, .int .i64 kind]] w fun e w' => e = .returned (.tuple #[.int .u32 0, .int .i64 30]) ∧ Below w.heap.size w w' from fun w hs => enc_no ⟨op, d, n, m, imm, kind⟩ w hs hb h)
    have RI := Lib.hid (show ∀ w, ShAt w → Calls Tryd.prog 12 #[.agg #[.int .i64 op, .int .i64 d, .int .i64 n, .int .i64 m, .int .i64 imm, .int .i64 kind]] w fun e w' => e = .returned (.int .i64 30) ∧ Below w.heap.size w w' from fun w hs => right_no ⟨op, d, n, m, imm, kind⟩ w hs hb h)
    clear h hb
    go_enter Tryd.func5, Tryd.ntmps5
    go_wp2_with fail
    refine (iawake_any _ S0.out.sh).mono ?_
    rintro e w1 ⟨rfl, b⟩
    have S1 := Lib.hid (S0.out.below b)
    clear b
    have c0 := S1.out.box.c0
    have c1 := S1.out.box.c1
    have c2 := S1.out.box.c2
    have c3 := S1.out.box.c3
    have c4 := S1.out.box.c4
    have c5 := S1.out.box.c5
    go_wp2_with fail
    refine (EN.out _ S1.out.sh).mono ?_
    rintro e w2 ⟨rfl, b⟩
    have S2 := Lib.hid (S1.out.below b)
    clear b
    clear c0 c1 c2 c3 c4 c5
    have c0 := S2.out.box.c0
    have c1 := S2.out.box.c1
    have c2 := S2.out.box.c2
    have c3 := S2.out.box.c3
    have c4 := S2.out.box.c4
    have c5 := S2.out.box.c5
    go_wp2_with fail
    refine (RI.out _ S2.out.sh).mono ?_
    rintro e w3 ⟨rfl, b⟩
    have S3 := Lib.hid (S2.out.below b)
    clear b
    clear c0 c1 c2 c3 c4 c5
    go_wp2
    go_ret
    exact ⟨rfl, S3.out.bel⟩
  | true =>
    have hr := encB_true h
    have EN := Lib.hid (show ∀ w, ShAt w → Calls Tryd.prog 10 #[.agg #[.int .i64 op, .int .i64 d, .int .i64 n, .int .i64 m, .int .i64 imm, .int .i64 kind]] w fun e w' => e = .returned (.tuple #[.int .u32 (GrI.word ⟨op, d, n, m, imm, kind⟩), .int .i64 0]) ∧ Below w.heap.size w w' from fun w hs => enc_yes ⟨op, d, n, m, imm, kind⟩ w hs hb h)
    have DX := Lib.hid (show ∀ w, ShAt w → Calls Tryd.prog 14 #[.int .u32 (GrI.word ⟨op, d, n, m, imm, kind⟩)] w fun e w' => e = .returned (.tuple #[.agg #[.int .i64 op, .int .i64 d, .int .i64 n, .int .i64 m, .int .i64 imm, .int .i64 kind], .int .i64 0]) ∧ Below w.heap.size w w' from fun w hs => xdecode_yes ⟨op, d, n, m, imm, kind⟩ w hs hr)
    obtain ⟨V, hV⟩ : ∃ V, V = GrI.word ⟨op, d, n, m, imm, kind⟩ := ⟨_, rfl⟩
    rw [← hV] at EN DX
    clear h hb hr hV
    go_enter Tryd.func5, Tryd.ntmps5
    go_wp2_with fail
    refine (iawake_any _ S0.out.sh).mono ?_
    rintro e w1 ⟨rfl, b⟩
    have S1 := Lib.hid (S0.out.below b)
    clear b
    have c0 := S1.out.box.c0
    have c1 := S1.out.box.c1
    have c2 := S1.out.box.c2
    have c3 := S1.out.box.c3
    have c4 := S1.out.box.c4
    have c5 := S1.out.box.c5
    go_wp2_with fail
    refine (EN.out _ S1.out.sh).mono ?_
    rintro e w2 ⟨rfl, b⟩
    have S2 := Lib.hid (S1.out.below b)
    clear b
    clear c0 c1 c2 c3 c4 c5
    go_wp2_with fail
    refine (DX.out _ S2.out.sh).mono ?_
    rintro e w3 ⟨rfl, b⟩
    have S3 := Lib.hid (S2.out.below b)
    clear b
    go_upto_region 7 with fail
    obtain ⟨w5, hw5⟩ : ∃ w5, w5 = w3.alloc (ibox ⟨op, d, n, m, imm, kind⟩) := ⟨_, rfl⟩
    have S5 := Lib.hid (show St w w5 w.heap.size ⟨op, d, n, m, imm, kind⟩ by rw [hw5]; exact S3.out.alloc _)
    have T5 := Lib.hid (show Bx w5 w3.heap.size ⟨op, d, n, m, imm, kind⟩ by rw [hw5]; exact Bx.start _ _)
    rw [ibox] at hw5
    rw [← hw5]
    clear hw5
    have c0 := S5.out.box.c0
    have c1 := S5.out.box.c1
    have c2 := S5.out.box.c2
    have c3 := S5.out.box.c3
    have c4 := S5.out.box.c4
    have c5 := S5.out.box.c5
    have t0 := T5.out.c0
    have t1 := T5.out.c1
    have t2 := T5.out.c2
    have t3 := T5.out.c3
    have t4 := T5.out.c4
    have t5 := T5.out.c5
    go_wp2
    go_ret
    exact ⟨rfl, S5.out.bel⟩

set_option maxHeartbeats 3200000 in
theorem IsaWords_walk (V : Int) (h0 : 0 ≤ V) (h1 : V < 4294967296) (w : World) (hs : ShAt w) :
    Calls Tryd.prog 6 #[.int .u32 V] w fun e w' => e = .returned (.bool true) ∧ Below w.heap.size w w' := by
  have S0 := Lib.hid (St0.start hs)
  clear hs
  by_cases h : ∃ y, GrI.right y ∧ GrI.word y = V
  · obtain ⟨y, hr, rfl⟩ := h
    have hb := GrI.imm_bd hr
    have he : encB y = true := by simpa [encB] using hr
    have DX := Lib.hid (fun w hs => xdecode_yes y w hs hr)
    have EN := Lib.hid (fun w hs => enc_yes y w hs hb he)
    obtain ⟨V, hV⟩ : ∃ V, V = GrI.word y := ⟨_, rfl⟩
    rw [← hV] at h0 h1 DX EN ⊢
    clear hV hr hb he
    obtain ⟨op, d, n, m, imm, kind⟩ := y
    have DX := Lib.hid (show ∀ w, ShAt w → Calls Tryd.prog 14 #[.int .u32 V] w fun e w' => e = .returned (.tuple #[.agg #[.int .i64 op, .int .i64 d, .int .i64 n, .int .i64 m, .int .i64 imm, .int .i64 kind], .int .i64 0]) ∧ Below w.heap.size w w' from fun w hs => DX.out w hs)
    have EN := Lib.hid (show ∀ w, ShAt w → Calls Tryd.prog 10 #[.agg #[.int .i64 op, .int .i64 d, .int .i64 n, .int .i64 m, .int .i64 imm, .int .i64 kind]] w fun e w' => e = .returned (.tuple #[.int .u32 V, .int .i64 0]) ∧ Below w.heap.size w w' from fun w hs => EN.out w hs)
    go_enter Tryd.func6, Tryd.ntmps6
    go_wp2_with fail
    refine (iawake_any _ S0.out.sh).mono ?_
    rintro e w1 ⟨rfl, b⟩
    have S1 := Lib.hid (S0.out.below b)
    clear b
    go_wp2_with fail
    refine (DX.out _ S1.out.sh).mono ?_
    rintro e w2 ⟨rfl, b⟩
    have S2 := Lib.hid (S1.out.below b)
    clear b
    go_upto_region 4 with fail
    obtain ⟨w3, hw3⟩ : ∃ w3, w3 = w2.alloc (ibox ⟨op, d, n, m, imm, kind⟩) := ⟨_, rfl⟩
    have S3 := Lib.hid (show St w w3 w2.heap.size ⟨op, d, n, m, imm, kind⟩ by rw [hw3]; exact ⟨S2.out.sh.alloc _, Bx.start _ _, S2.out.bel.alloc S2.out.bel.size _⟩)
    rw [ibox] at hw3
    rw [← hw3]
    clear hw3
    have c0 := S3.out.box.c0
    have c1 := S3.out.box.c1
    have c2 := S3.out.box.c2
    have c3 := S3.out.box.c3
    have c4 := S3.out.box.c4
    have c5 := S3.out.box.c5
    go_wp2_with fail
    refine (EN.out _ S3.out.sh).mono ?_
    rintro e w4 ⟨rfl, b⟩
    have S4 := Lib.hid (S3.out.below b)
    clear b
    clear c0 c1 c2 c3 c4 c5
    go_wp2
    go_ret
    exact ⟨rfl, S4.out.bel⟩
  · have hn : ∀ y, GrI.right y → GrI.word y ≠ V := fun y hr hw => h ⟨y, hr, hw⟩
    have DX := Lib.hid (show ∀ w, ShAt w → Calls Tryd.prog 14 #[.int .u32 V] w fun e w' => e = .returned (.tuple #[.agg #[.int .i64 0, .int .i64 0, .int .i64 0, .int .i64 0, .int .i64 0, .int .i64 0], .int .i64 31]) ∧ Below w.heap.size w w' from fun w hs => xdecode_no V w hs h0 h1 hn)
    clear hn h
    go_enter Tryd.func6, Tryd.ntmps6
    go_wp2_with fail
    refine (iawake_any _ S0.out.sh).mono ?_
    rintro e w1 ⟨rfl, b⟩
    have S1 := Lib.hid (S0.out.below b)
    clear b
    go_wp2_with fail
    refine (DX.out _ S1.out.sh).mono ?_
    rintro e w2 ⟨rfl, b⟩
    have S2 := Lib.hid (S1.out.below b)
    clear b
    go_wp2
    go_ret
    exact ⟨rfl, S2.out.bel.alloc S2.out.bel.size _⟩
end Go.Proofs.YtnehdgapcgbdeaaDoor
