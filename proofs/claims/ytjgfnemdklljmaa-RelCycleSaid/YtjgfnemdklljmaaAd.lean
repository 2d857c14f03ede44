/-
  Layer 1, the walks: a bit of a relation, Add, Of, Identity, Copy, Inverse, Irreflexive, Same.
-/
import Derived.Test.YtjgfnemdklljmaaAc
import Derived.Laws.CopyOwn
set_option linter.unusedSimpArgs false
set_option linter.unusedVariables false
namespace GrR
open Go
/-- two words hold a row's bits -/
structure RowW (p q : Nat) (t : Nat → Bool) : Prop where
  b0 : p < 18446744073709551616
  b1 : q < 18446744073709551616
  t0 : ∀ j, j < 64 → p.testBit j = t j
  t1 : ∀ j, j < 64 → q.testBit j = t (64 + j)
theorem RowW.or {p q r s : Nat} {t u : Nat → Bool} (h : RowW p q t) (k : RowW r s u) : RowW (w_or p r) (w_or q s) (fun j => t j || u j) :=
  ⟨w_or_lt h.b0 k.b0, w_or_lt h.b1 k.b1, fun j hj => by rw [w_or_bit, h.t0 j hj, k.t0 j hj]; rfl, fun j hj => by rw [w_or_bit, h.t1 j hj, k.t1 j hj]; rfl⟩
theorem RowW.and {p q r s : Nat} {t u : Nat → Bool} (h : RowW p q t) (k : RowW r s u) : RowW (w_and p r) (w_and q s) (fun j => t j && u j) :=
  ⟨w_and_lt h.b0 k.b0, w_and_lt h.b1 k.b1, fun j hj => by rw [w_and_bit, h.t0 j hj, k.t0 j hj]; rfl, fun j hj => by rw [w_and_bit, h.t1 j hj, k.t1 j hj]; rfl⟩
theorem RowW.win {p q r s : Nat} {t u : Nat → Bool} (h : RowW p q t) (k : RowW r s u) : RowW (w_win p r) (w_win q s) (fun j => t j && u j) :=
  ⟨w_win_lt h.b0 k.b0, w_win_lt h.b1 k.b1, fun j hj => by rw [w_win_bit, h.t0 j hj, k.t0 j hj]; rfl, fun j hj => by rw [w_win_bit, h.t1 j hj, k.t1 j hj]; rfl⟩
theorem RowW.not {p q r s : Nat} {t u : Nat → Bool} (h : RowW p q t) (k : RowW r s u) : RowW (w_not p r) (w_not q s) (fun j => t j && !u j) :=
  ⟨w_not_lt h.b0 k.b0, w_not_lt h.b1 k.b1, fun j hj => by rw [w_not_bit, h.t0 j hj, k.t0 j hj]; rfl, fun j hj => by rw [w_not_bit, h.t1 j hj, k.t1 j hj]; rfl⟩
theorem RowW.eq {p q r s : Nat} {t u : Nat → Bool} (h : RowW p q t) (k : RowW r s u) : (p = r ∧ q = s) ↔ ∀ j, j < 128 → t j = u j := by
  constructor
  · rintro ⟨rfl, rfl⟩ j hj
    by_cases c : j < 64
    · rw [← h.t0 j c, ← k.t0 j c]
    · have e : j = 64 + (j - 64) := by omega
      rw [e, ← h.t1 (j - 64) (by omega), ← k.t1 (j - 64) (by omega)]
  · intro e
    have big : ∀ {x : Nat}, x < 18446744073709551616 → ∀ i, ¬ i < 64 → x.testBit i = false := fun {x} hx i hi => Nat.testBit_lt_two_pow (Nat.lt_of_lt_of_le hx (show 18446744073709551616 ≤ 2 ^ i from Nat.pow_le_pow_right (by decide : 2 > 0) (show 64 ≤ i by omega)))
    constructor
    · apply Nat.eq_of_testBit_eq
      intro i
      by_cases c : i < 64
      · rw [h.t0 i c, k.t0 i c, e i (by omega)]
      · rw [big h.b0 i c, big k.b0 i c]
    · apply Nat.eq_of_testBit_eq
      intro i
      by_cases c : i < 64
      · rw [h.t1 i c, k.t1 i c, e _ (by omega)]
      · rw [big h.b1 i c, big k.b1 i c]
theorem RX.rowW {X : List Nat} {n : Nat} {T : Mx} (h : RX X n T) (a : Nat) (ha : a < 128) : RowW (X.getD (a * 2) 0) (X.getD (a * 2 + 1) 0) (T a) := by
  refine ⟨h.bd _, h.bd _, fun j hj => ?_, fun j hj => ?_⟩
  · have := h.bits a j ha (by omega)
    unfold bitX at this
    rwa [show j / 64 = 0 by omega, show j % 64 = j by omega] at this
  · have := h.bits a (64 + j) ha (by omega)
    unfold bitX at this
    rwa [show (64 + j) / 64 = 1 by omega, show (64 + j) % 64 = j by omega] at this
/-- a relation with one row put anew -/
def rowM (T : Mx) (a : Nat) (t : Nat → Bool) : Mx := fun i j => if i = a then t j else T i j
theorem Sup.row {n : Nat} {T : Mx} (h : Sup n T) {a : Nat} (ha : a < n) {t : Nat → Bool} (ht : ∀ j, t j = true → j < n) : Sup n (rowM T a t) := fun i j e => by
  unfold rowM at e
  split at e
  · exact ⟨by omega, ht j e⟩
  · exact h i j e
theorem RX.row {X : List Nat} {n : Nat} {T : Mx} (h : RX X n T) {a p q : Nat} {t : Nat → Bool} (ha : a < n) (ht : ∀ j, t j = true → j < n) (k : RowW p q t) : RX ((X.set (a * 2) p).set (a * 2 + 1) q) n (rowM T a t) := by
  have hn := h.most
  have g : ∀ i, ((X.set (a * 2) p).set (a * 2 + 1) q).getD i 0 = if a * 2 + 1 = i then q else if a * 2 = i then p else X.getD i 0 := fun i => by
    rw [getD_set _ _ _ _ (by simp [h.len]; omega), getD_set _ _ _ _ (by rw [h.len]; omega)]
  refine ⟨by simp [h.len], fun i => ?_, hn, h.sup.row ha ht, fun i j hi hj => ?_⟩
  · rw [g]
    split
    · exact k.b1
    · split
      · exact k.b0
      · exact h.bd i
  · unfold bitX rowM
    rw [g]
    by_cases c : i = a
    · subst c
      rw [if_pos rfl]
      by_cases c2 : j < 64
      · rw [show j / 64 = 0 by omega, show j % 64 = j by omega, if_neg (by omega), if_pos (by omega), k.t0 j c2]
      · rw [show j / 64 = 1 by omega, if_pos (by omega), show j % 64 = j - 64 by omega, k.t1 _ (by omega), show 64 + (j - 64) = j by omega]
    · rw [if_neg c, if_neg (by omega), if_neg (by omega)]
      exact h.bits i j hi hj
theorem relC_row (n : Nat) (X : List Nat) (i p q : Nat) : ((relC n X).set (1 + i) (.int .u64 (p : Nat))).set (1 + i + 1) (.int .u64 (q : Nat)) = relC n ((X.set i p).set (i + 1) q) := by
  unfold relC
  rw [show 1 + i = i + 1 by omega, List.set_cons_succ, List.set_cons_succ, ← List.map_set, ← List.map_set]
end GrR
namespace Go.Proofs.Ytjgfnemdklljmaa
open Go.RowKit GrR

/-- all blocks but one are as they were -/
structure OnlyB (B : Nat) (w w' : World) : Prop where
  os : w'.os = w.os
  tape : w'.tape = w.tape
  output : w'.output = w.output
  size : w.heap.size ≤ w'.heap.size
  block : ∀ k, k < w.heap.size → k ≠ B → w'.heap[k]? = w.heap[k]?
theorem OnlyB.refl (B : Nat) (w : World) : OnlyB B w w := ⟨rfl, rfl, rfl, Nat.le_refl _, fun _ _ _ => rfl⟩
theorem OnlyB.trans {B : Nat} {a b c : World} (h : OnlyB B a b) (k : OnlyB B b c) : OnlyB B a c :=
  ⟨k.os.trans h.os, k.tape.trans h.tape, k.output.trans h.output, Nat.le_trans h.size k.size, fun i hi hn => (k.block i (by have := h.size; omega) hn).trans (h.block i hi hn)⟩
theorem OnlyB.of_below {B : Nat} {w w' : World} (h : Below w.heap.size w w') : OnlyB B w w' := ⟨h.os, h.tape, h.output, h.size, fun k hk _ => h.block k hk⟩
theorem OnlyB.set {B i : Nat} (w : World) (v : Value) : OnlyB B w (w.setCell ⟨B, i, none⟩ v) := by
  have h := (Below.refl 0 w).setCell (p := ⟨B, i, none⟩) (Nat.zero_le _) v
  exact ⟨h.os, h.tape, h.output, h.size, fun k _ hn => Below.heap_setCell _ _ _ _ hn⟩
theorem OnlyB.drew {B : Nat} {w w' : World} (h : OnlyB B w w') : OnlyB B w w'.drew := ⟨h.os, h.tape, h.output, h.size, h.block⟩
theorem OnlyB.below {B b : Nat} {w w' : World} (h : OnlyB B w w') (h1 : b ≤ B) (h2 : b ≤ w.heap.size) : Below b w w' := ⟨h.os, h.tape, h.output, h.size, fun k hk => h.block k (by omega) (by omega)⟩
theorem RelAt.other {w w' : World} {B C n : Nat} {T : Mx} (h : RelAt w B n T) (b : OnlyB C w w') (hn : B ≠ C) : RelAt w' B n T := by
  obtain ⟨X, h1, h2⟩ := h
  exact ⟨X, (b.block B h1.lt hn).trans h1, h2⟩
theorem RelAt.drew {w : World} {B n : Nat} {T : Mx} (h : RelAt w B n T) : RelAt w.drew B n T := by
  obtain ⟨X, h1, h2⟩ := h
  exact ⟨X, h1.drew, h2⟩
theorem RelAt.eqT {w : World} {B n : Nat} {T U : Mx} (h : RelAt w B n T) (e : ∀ i j, T i j = U i j) : RelAt w B n U := by
  have : T = U := by funext i j; exact e i j
  exact this ▸ h

set_option maxHeartbeats 800000 in
theorem bit_any (B n : Nat) (T : Mx) (a b : Nat) (w : World) (h : RelAt w B n T) (ha : a < 128) (hb : b < 128) :
    Calls Try.prog 51 #[.pointer (some ⟨B, 1 + a * 2, none⟩), .int .i64 (b : Int)] w fun e w' => e = .returned (.bool (T a b)) ∧ w = w' := by
  obtain ⟨X, h1, h2⟩ := h
  rw [← h2.bits a b ha hb]
  exact has_any B (1 + a * 2) b _ w hb (h2.bd _) (by rw [Nat.add_assoc]; exact relC_word w h1 h2.len _ (by omega))
theorem put_any (B n : Nat) (T : Mx) (a b : Nat) (w : World) (h : RelAt w B n T) (ha : a < n) (hb : b < n) :
    Calls Try.prog 48 #[.pointer (some ⟨B, 1 + a * 2, none⟩), .int .i64 (b : Int)] w fun e w' => e = .returned (.tuple #[]) ∧ RelAt w' B n (addM T a b) ∧ OnlyB B w w' := by
  obtain ⟨X, h1, h2⟩ := h
  have hn := h2.most
  refine (set_any B (1 + a * 2) b _ w (by omega) (h2.bd (a * 2 + b / 64)) (by rw [Nat.add_assoc]; exact relC_word w h1 h2.len _ (by omega)) (h1.free _)).mono ?_
  rintro e w' ⟨rfl, rfl⟩
  refine ⟨rfl, ?_, (OnlyB.set w _).drew⟩
  refine RelAt.drew ⟨_, ?_, h2.add ha hb⟩
  rw [← relC_set, ← Nat.add_assoc]
  exact h1.set _ _

def AddPost (B n : Nat) (T : Mx) (a b : Int) (w : World) (e : Ending) (w' : World) : Prop :=
  if (thingB n a && thingB n b) = true then e = .returned (.int .i64 0) ∧ RelAt w' B n (addM T a.toNat b.toNat) ∧ OnlyB B w w' else e = .returned (.int .i64 1) ∧ w = w'
set_option maxRecDepth 100000 in
set_option maxHeartbeats 1600000 in
theorem add_any (B n : Nat) (T : Mx) (a b : Int) (w : World) (h : RelAt w B n T) :
    Calls Try.prog 26 #[.pointer (some ⟨B, 0, none⟩), .int .i64 a, .int .i64 b] w (AddPost B n T a b w) := by
  have TH := Lib.hid (fun a => thing_any B n T a w h)
  have M := h.most
  have H := Lib.hid h
  clear h
  cases c1 : thingB n a with
  | false =>
    go_enter Try.func26, Try.ntmps26
    go_wp2_with (go_at_call 50; refine (TH.out _).mono ?_; rintro e w1 ⟨rfl, rfl⟩)
    go_ret
    unfold AddPost
    rw [if_neg (by simp [c1])]
    exact ⟨rfl, rfl⟩
  | true =>
    cases c2 : thingB n b with
    | false =>
      go_enter Try.func26, Try.ntmps26
      go_wp2_with (go_at_call 50; refine (TH.out _).mono ?_; rintro e w1 ⟨rfl, rfl⟩)
      go_ret
      unfold AddPost
      rw [if_neg (by simp [c2])]
      exact ⟨rfl, rfl⟩
    | true =>
      have d1 : 0 ≤ a ∧ a < (n : Int) := of_decide_eq_true c1
      have d2 : 0 ≤ b ∧ b < (n : Int) := of_decide_eq_true c2
      obtain ⟨a, rfl⟩ := Int.eq_ofNat_of_zero_le d1.1
      obtain ⟨b, rfl⟩ := Int.eq_ofNat_of_zero_le d2.1
      have a1 : a < 128 := by omega
      have b1 : b < 128 := by omega
      have PA := Lib.hid (put_any B n T a b w H.out (by omega) (by omega))
      have CC := Lib.hid (show (thingB n (a : Int) && thingB n (b : Int)) = true by rw [c1, c2]; rfl)
      clear d1 d2
      go_enter Try.func26, Try.ntmps26
      go_wp2_with (first | (go_at_call 50; refine (TH.out _).mono ?_; rintro e w1 ⟨rfl, rfl⟩) | (go_at_call 48; refine PA.out.mono ?_; rintro e w1 ⟨rfl, g1, g2⟩))
      have G1 := Lib.hid g1
      have G2 := Lib.hid g2
      go_ret
      unfold AddPost
      rw [if_pos CC.out]
      exact ⟨rfl, G1.out, G2.out⟩

theorem sizeR : (Try.prog.info? 67).map (·.size) = some 257 := by kernel_rfl
theorem zeroSize : (Try.zeroCells67 : Array Value).size = 257 := by kernel_rfl
theorem relC_one (n : Nat) (X : List Nat) : (relC n X).toArray.all (·.oneCell') = true := by
  rw [Array.all_eq_true_iff_forall_mem]
  intro v hv
  simp [relC] at hv
  rcases hv with rfl | ⟨a, _, rfl⟩ <;> rfl
set_option maxRecDepth 100000 in
set_option maxHeartbeats 1600000 in
theorem copy_any (B n : Nat) (T : Mx) (w : World) (h : RelAt w B n T) :
    Calls Try.prog 23 #[.pointer (some ⟨B, 0, none⟩)] w fun e w' => e = .returned (.pointer (some ⟨w.heap.size, 0, none⟩)) ∧ RelAt w' w.heap.size n T ∧ Below w.heap.size w w' := by
  obtain ⟨X, h1, h2⟩ := h
  have H2 := Lib.hid h2
  obtain ⟨C, hC⟩ : ∃ C, C = relC n X := ⟨_, rfl⟩
  rw [← hC] at h1
  have h6 := Lib.hid (show w.heap[B]? = some (.cells C.toArray 67 (0, 0)) from h1)
  have h7 := Lib.hid (show (w.alloc (.cells Try.zeroCells67 67)).heap[B]? = some (.cells C.toArray 67 (0, 0)) from h1.old _)
  have z1 := Lib.hid (show (Try.prog.info? 67).map (·.size) = some C.toArray.size by rw [sizeR, hC]; simp [relC, h2.len])
  have z2 := Lib.hid (show (Try.zeroCells67 : Array Value).size = C.toArray.size by rw [zeroSize, hC]; simp [relC, h2.len])
  have z3 := Lib.hid (show C.toArray.all (·.oneCell') = true by rw [hC]; exact relC_one _ _)
  have HC := Lib.hid hC
  clear h1 h2 hC
  go_enter Try.func23, Try.ntmps23
  go_wp2_with (first | (with_reducible refine wpList_load_row rfl 67 (.tmp 7) rfl B rfl 67 C.toArray (0, 0) _ h6.out Try.underlying67 rfl z1.out ?_) | (with_reducible refine wpList_store_row rfl 67 (.tmp 3) (.tmp 8) rfl w.heap.size C.toArray rfl rfl 67 _ (heap_alloc_new _ _) z1.out z2.out z3.out ?_))
  go_ret
  refine ⟨rfl, ⟨X, ?_, H2.out⟩, below_setRow (KB.alloc (Below.refl _ _) _) (Nat.le_refl _) _⟩
  rw [← HC.out]
  exact setRow_heap _ _ _ _ _ _ (heap_alloc_new _ _)
end Go.Proofs.Ytjgfnemdklljmaa
