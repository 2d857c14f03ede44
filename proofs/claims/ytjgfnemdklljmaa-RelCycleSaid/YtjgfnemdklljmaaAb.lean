/-
  Layer 1, the walks: a relation in a block; New, Size, thing, Has, Add, Copy.
-/
import Derived.Test.YtjgfnemdklljmaaBx
import Derived.Test.YtjgfnemdklljmaaRw
import Derived.Test.YtjgfnemdklljmaaAa
set_option linter.unusedSimpArgs false
set_option linter.unusedVariables false
namespace GrR
open Go
/-- the cells of a relation -/
def relC (n : Nat) (X : List Nat) : List Value := .int .i64 n :: X.map (fun x : Nat => Value.int .u64 (x : Int))
def bitX (X : List Nat) (a b : Nat) : Bool := (X.getD (a * 2 + b / 64) 0).testBit (b % 64)
/-- the words X hold the pairs T over n things -/
structure RX (X : List Nat) (n : Nat) (T : Mx) : Prop where
  len : X.length = 256
  bd : ∀ i, X.getD i 0 < 18446744073709551616
  most : n ≤ 128
  sup : Sup n T
  bits : ∀ a b, a < 128 → b < 128 → bitX X a b = T a b
def addM (T : Mx) (a b : Nat) : Mx := fun i j => T i j || (i == a && j == b)
def thingB (n : Nat) (a : Int) : Bool := decide (0 ≤ a ∧ a < (n : Int))
def hasZ (n : Nat) (T : Mx) (a b : Int) : Bool := thingB n a && thingB n b && T a.toNat b.toNat
theorem hasZ_nat {n : Nat} {T : Mx} (s : Sup n T) (a b : Nat) : hasZ n T a b = T a b := by
  unfold hasZ thingB
  cases h : T a b with
  | true =>
    have := s a b h
    simp [h]; omega
  | false => simp [h]
theorem Sup.add {n : Nat} {T : Mx} (h : Sup n T) {a b : Nat} (ha : a < n) (hb : b < n) : Sup n (addM T a b) := fun i j e => by
  simp only [addM, Bool.or_eq_true, Bool.and_eq_true, beq_iff_eq] at e
  rcases e with e | ⟨rfl, rfl⟩
  · exact h i j e
  · exact ⟨ha, hb⟩
theorem getD_set (X : List Nat) (i k v : Nat) (hi : i < X.length) : (X.set i v).getD k 0 = if i = k then v else X.getD k 0 := by
  simp only [List.getD_eq_getElem?_getD, List.getElem?_set]
  by_cases h : i = k
  · subst h; simp [hi]
  · simp [h]
theorem RX.add {X : List Nat} {n : Nat} {T : Mx} (h : RX X n T) {a b : Nat} (ha : a < n) (hb : b < n) : RX (X.set (a * 2 + b / 64) (X.getD (a * 2 + b / 64) 0 ||| 2 ^ (b % 64))) n (addM T a b) := by
  have hn := h.most
  have hl : a * 2 + b / 64 < X.length := by rw [h.len]; omega
  refine ⟨by simp [h.len], fun i => ?_, hn, h.sup.add ha hb, fun i j hi hj => ?_⟩
  · rw [getD_set _ _ _ _ hl]
    split
    · exact Nat.or_lt_two_pow (n := 64) (h.bd _) (Nat.pow_lt_pow_right (by decide) (by omega))
    · exact h.bd i
  · unfold bitX
    rw [getD_set _ _ _ _ hl]
    have e := h.bits i j hi hj
    unfold bitX at e
    unfold addM
    by_cases c : a * 2 + b / 64 = i * 2 + j / 64
    · have c1 : a = i := by omega
      rw [if_pos c, Nat.testBit_or, c, e, Nat.testBit_two_pow]
      by_cases c2 : b = j
      · subst c1; subst c2; simp
      · have : ¬ (b % 64 = j % 64) := by omega
        simp [this, c1]
        intro; omega
    · rw [if_neg c, e]
      by_cases c1 : i = a
      · have : j ≠ b := fun h => c (by rw [c1, h])
        simp [this]
      · simp [c1]
theorem RX.empty (n : Nat) (hn : n ≤ 128) : RX (List.replicate 256 0) n emptyM := by
  have e : ∀ i, (List.replicate 256 0).getD i 0 = 0 := fun i => by
    rw [List.getD_eq_getElem?_getD, List.getElem?_replicate]
    split <;> rfl
  refine ⟨List.length_replicate, fun i => by rw [e]; omega, hn, Sup.empty n, fun i j _ _ => ?_⟩
  unfold bitX
  rw [e]
  simp [emptyM]
end GrR
namespace Go.Proofs.Ytjgfnemdklljmaa
open Go.RowKit GrR

/-- a relation lies in a block -/
def RelAt (w : World) (B n : Nat) (T : Mx) : Prop := ∃ X, Row w B (relC n X) 67 ∧ RX X n T
theorem RelAt.below {V U : World} {B n : Nat} {T : Mx} (h : RelAt V B n T) (k : Below V.heap.size V U) : RelAt U B n T := by
  obtain ⟨X, h1, h2⟩ := h
  exact ⟨X, h1.below k, h2⟩
theorem RelAt.upto {V U : World} {B n m : Nat} {T : Mx} (h : RelAt V B n T) (k : Below m V U) (hm : B < m) : RelAt U B n T := by
  obtain ⟨X, h1, h2⟩ := h
  exact ⟨X, h1.upto k hm, h2⟩
theorem RelAt.lt {V : World} {B n : Nat} {T : Mx} (h : RelAt V B n T) : B < V.heap.size := by
  obtain ⟨X, h1, _⟩ := h
  exact h1.lt
theorem RelAt.most {V : World} {B n : Nat} {T : Mx} (h : RelAt V B n T) : n ≤ 128 := by
  obtain ⟨X, _, h⟩ := h
  exact h.most
theorem RelAt.sup {V : World} {B n : Nat} {T : Mx} (h : RelAt V B n T) : Sup n T := by
  obtain ⟨X, _, h⟩ := h
  exact h.sup
theorem relC_word (w : World) {B n : Nat} {X : List Nat} (h : Row w B (relC n X) 67) (hl : X.length = 256) (i : Nat) (hi : i < 256) : w.cell? ⟨B, 1 + i, none⟩ = some (.int .u64 (X.getD i 0 : Nat)) := by
  rw [h.cell, relC, Nat.add_comm, List.getElem?_cons_succ, List.getElem?_map, List.getElem?_eq_getElem (by omega), List.getD_eq_getElem?_getD, List.getElem?_eq_getElem (by omega)]
  rfl
theorem RelAt.size {w : World} {B n : Nat} {T : Mx} (h : RelAt w B n T) : w.cell? ⟨B, 0, none⟩ = some (.int .i64 n) := by
  obtain ⟨X, h1, _⟩ := h
  rw [h1.cell]
  rfl
theorem relC_set (n : Nat) (X : List Nat) (i v : Nat) : (relC n X).set (1 + i) (.int .u64 (v : Nat)) = relC n (X.set i v) := by
  unfold relC
  rw [Nat.add_comm, List.set_cons_succ, List.map_set]
theorem zeroC : (Try.zeroCells67 : Array Value) = (relC 0 (List.replicate 256 0)).toArray := by kernel_rfl
theorem zeroC_n (n : Nat) : (Try.zeroCells67 : Array Value).setIfInBounds 0 (.int .i64 n) = (relC n (List.replicate 256 0)).toArray := by
  rw [zeroC]
  simp only [List.setIfInBounds_toArray]
  rfl
theorem RelAt.new (w : World) (n : Nat) (hn : n ≤ 128) : RelAt (w.alloc (.cells ((Try.zeroCells67 : Array Value).setIfInBounds 0 (.int .i64 n)) 67)) w.heap.size n emptyM := by
  rw [zeroC_n]
  exact ⟨_, Row.new w _ _, RX.empty n hn⟩

theorem retB {a b : Bool} (h : a = b) : Ending.returned (.bool a) = .returned (.bool b) := by rw [h]

set_option maxRecDepth 100000 in
set_option maxHeartbeats 1600000 in
theorem new_any (n : Nat) (w : World) (hn : n ≤ 128) :
    Calls Try.prog 16 #[.int .i64 n] w fun e w' => e = .returned (.tuple #[.pointer (some ⟨w.heap.size, 0, none⟩), .int .i64 0]) ∧ RelAt w' w.heap.size n emptyM ∧ Below w.heap.size w w' := by
  have c1 : decide ((n : Int) < 0) = false := by simp
  have c2 : decide ((n : Int) > 128) = false := by simp; omega
  go_enter Try.func16, Try.ntmps16
  go_wp2
  exact bodyPost_ret (v := .tuple #[.pointer (some ⟨w.heap.size, 0, none⟩), .int .i64 0]) (by simp [results, Try.results16, go_sem]) rfl ⟨rfl, RelAt.new w n hn, (Below.refl _ _).alloc (Nat.le_refl _) _⟩
set_option maxRecDepth 100000 in
set_option maxHeartbeats 1600000 in
theorem new_no (n : Int) (w : World) (hn : n < 0 ∨ 128 < n) :
    Calls Try.prog 16 #[.int .i64 n] w fun e w' => e = .returned (.tuple #[.pointer none, .int .i64 10]) ∧ w = w' := by
  by_cases c : n < 0
  · have c1 : decide (n < 0) = true := by simpa using c
    clear hn
    go_enter Try.func16, Try.ntmps16
    go_wp2
    exact bodyPost_ret (v := .tuple #[.pointer none, .int .i64 10]) (by simp [results, Try.results16, go_sem]) rfl ⟨rfl, rfl⟩
  · have c1 : decide (n < 0) = false := by simpa using c
    have c2 : decide (n > 128) = true := by simp; omega
    clear hn
    go_enter Try.func16, Try.ntmps16
    go_wp2
    exact bodyPost_ret (v := .tuple #[.pointer none, .int .i64 10]) (by simp [results, Try.results16, go_sem]) rfl ⟨rfl, rfl⟩

set_option maxHeartbeats 800000 in
theorem size_any (B n : Nat) (T : Mx) (w : World) (h : RelAt w B n T) :
    Calls Try.prog 19 #[.pointer (some ⟨B, 0, none⟩)] w fun e w' => e = .returned (.int .i64 n) ∧ w = w' := by
  have hc := h.size
  clear h
  go_enter Try.func19, Try.ntmps19
  go_wp2
  go_ret
  exact ⟨rfl, rfl⟩
set_option maxHeartbeats 800000 in
theorem thing_any (B n : Nat) (T : Mx) (a : Int) (w : World) (h : RelAt w B n T) :
    Calls Try.prog 50 #[.pointer (some ⟨B, 0, none⟩), .int .i64 a] w fun e w' => e = .returned (.bool (thingB n a)) ∧ w = w' := by
  have hc := h.size
  clear h
  by_cases c : 0 ≤ a
  · have c1 : decide (a ≥ 0) = true := by simpa using c
    have E := Lib.hid (show decide (a < (n : Int)) = thingB n a by simp [thingB, c])
    go_enter Try.func50, Try.ntmps50
    go_wp2
    go_ret
    exact ⟨retB E.out, rfl⟩
  · have c1 : decide (a ≥ 0) = false := by simpa using c
    have E := Lib.hid (show false = thingB n a by simp [thingB, c])
    go_enter Try.func50, Try.ntmps50
    go_wp2
    go_ret
    first | exact ⟨retB E.out, rfl⟩ | exact ⟨rfl, rfl⟩

set_option maxRecDepth 100000 in
set_option maxHeartbeats 1600000 in
theorem relhas_any (B n : Nat) (T : Mx) (a b : Int) (w : World) (h : RelAt w B n T) :
    Calls Try.prog 20 #[.pointer (some ⟨B, 0, none⟩), .int .i64 a, .int .i64 b] w fun e w' => e = .returned (.bool (hasZ n T a b)) ∧ w = w' := by
  have TH := Lib.hid (fun a => thing_any B n T a w h)
  have M := h.most
  obtain ⟨X, h1, h2⟩ := h
  cases c1 : thingB n a with
  | false =>
    have E := Lib.hid (show false = hasZ n T a b by unfold hasZ; rw [c1]; simp)
    clear h1 h2
    go_enter Try.func20, Try.ntmps20
    go_wp2_with (go_at_call 50; refine (TH.out _).mono ?_; rintro e w1 ⟨rfl, rfl⟩)
    go_ret
    exact ⟨retB E.out, rfl⟩
  | true =>
    cases c2 : thingB n b with
    | false =>
      have E := Lib.hid (show false = hasZ n T a b by unfold hasZ; rw [c2]; simp)
      clear h1 h2
      go_enter Try.func20, Try.ntmps20
      go_wp2_with (go_at_call 50; refine (TH.out _).mono ?_; rintro e w1 ⟨rfl, rfl⟩)
      go_ret
      exact ⟨retB E.out, rfl⟩
    | true =>
      have d1 : 0 ≤ a ∧ a < (n : Int) := of_decide_eq_true c1
      have d2 : 0 ≤ b ∧ b < (n : Int) := of_decide_eq_true c2
      obtain ⟨a, rfl⟩ := Int.eq_ofNat_of_zero_le d1.1
      obtain ⟨b, rfl⟩ := Int.eq_ofNat_of_zero_le d2.1
      have a1 : a < 128 := by omega
      have b1 : b < 128 := by omega
      have E := Lib.hid (show bitX X a b = hasZ n T a b by rw [h2.bits a b a1 b1]; exact (hasZ_nat h2.sup a b).symm)
      have HB := Lib.hid (show Calls Try.prog 51 #[.pointer (some ⟨B, 1 + a * 2, none⟩), .int .i64 (b : Int)] w fun e w' => e = .returned (.bool (bitX X a b)) ∧ w = w' from has_any B (1 + a * 2) b (X.getD (a * 2 + b / 64) 0) w b1 (h2.bd _) (by rw [Nat.add_assoc]; exact relC_word w h1 h2.len _ (by omega)))
      clear h1 h2 d1 d2
      go_enter Try.func20, Try.ntmps20
      go_wp2_with (first | (go_at_call 50; refine (TH.out _).mono ?_; rintro e w1 ⟨rfl, rfl⟩) | (go_at_call 51; refine HB.out.mono ?_; rintro e w1 ⟨rfl, rfl⟩))
      go_ret
      exact ⟨retB E.out, rfl⟩
end Go.Proofs.Ytjgfnemdklljmaa
