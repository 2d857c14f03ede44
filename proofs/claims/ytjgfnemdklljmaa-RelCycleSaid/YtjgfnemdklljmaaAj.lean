/-
  Layer 1, the walks: the page's Closure, Acyclic, Of, Has.
-/
import Derived.Test.YtjgfnemdklljmaaAi
set_option linter.unusedSimpArgs false
set_option linter.unusedVariables false
namespace GrR
open Go
theorem eqT_lt {n : Nat} {C : Mx} (h : eqT n (nextM n C) C = false) : cntM n C < cntM n (nextM n C) := by
  refine cntM_lt ?_
  apply Classical.byContradiction
  intro no
  have : eqT n (nextM n C) C = true := eqT_iff.2 fun i hi j hj => Classical.byContradiction fun e => no ⟨i, j, hi, hj, e⟩
  rw [this] at h
  cases h
/-- the page's closure is what can be reached -/
structure ClM (n : Nat) (T C : Mx) : Prop where
  inn : ∀ a b, a < n → b < n → T a b = true → C a b = true
  re : ∀ a b, a < n → b < n → C a b = true → Re T a b
theorem ClM.next {n : Nat} {T C : Mx} (h : ClM n T C) : ClM n T (nextM n C) := by
  refine ⟨fun a b ha hb e => by simp [nextM, unionM, h.inn a b ha hb e], fun a b ha hb e => ?_⟩
  simp only [nextM, unionM, Bool.or_eq_true] at e
  rcases e with e | e
  · exact h.re a b ha hb e
  · obtain ⟨k, hk, e1, e2⟩ := thenM_iff.1 e
    exact (h.re a k ha hk e1).trans (h.re k b hk hb e2)
theorem ClM.fix {n : Nat} {T C : Mx} (s : Sup n T) (h : ClM n T C) (f : eqT n (nextM n C) C = true) (a b : Nat) (ha : a < n) (hb : b < n) : C a b = wars T n a b := by
  rw [Bool.eq_iff_iff, wars_iff s]
  refine ⟨h.re a b ha hb, fun k => ?_⟩
  induction k with
  | one k => exact h.inn _ _ ha hb k
  | @more a b c k l ih =>
    have hb' := (s _ _ k).2
    rw [← eqT_iff.1 f _ ha _ hb]
    simp only [nextM, unionM, Bool.or_eq_true]
    exact Or.inr (thenM_iff.2 ⟨b, hb', h.inn _ _ ha hb' k, ih hb' hb⟩)
def acyc (n : Nat) (T : Mx) : Bool := (List.range n).all fun i => !wars T n i i
theorem acyc_iff {n : Nat} {T : Mx} : acyc n T = true ↔ ∀ i, i < n → wars T n i i = false := by
  simp [acyc]
end GrR
namespace Go.Proofs.Ytjgfnemdklljmaa
open Go.RowKit GrR

set_option maxRecDepth 100000 in
set_option maxHeartbeats 6400000 in
theorem rclosure_any (A n : Nat) (T : Mx) (w : World) (hn : n ≤ 1000) (s : Sup n T) (hA : TabAt w A n T) :
    Calls Try.prog 37 #[.slice (some ⟨A, 0, none⟩) n n] w fun e w' => ∃ O, w.heap.size ≤ O ∧ e = .returned (.slice (some ⟨O, 0, none⟩) n n) ∧ TabAt w' O n (wars T n) ∧ Below w.heap.size w w' := by
  have EM := Lib.hid (empty_any n w hn)
  have HA := Lib.hid hA
  have HN := Lib.hid hn
  have SU := Lib.hid s
  clear hA hn s
  go_enter Try.func37, Try.ntmps37
  go_wp2_with fail
  refine EM.out.mono ?_
  rintro e w1 ⟨rfl, h1, h2⟩
  have R0 := Lib.hid h1
  have B0 := Lib.hid h2
  have UN := Lib.hid (runion_any A w.heap.size n T emptyM w1 HN.out (HA.out.below h2) h1)
  clear h1 h2 EM
  go_wp2_with fail
  refine UN.out.mono ?_
  rintro e w2 ⟨rfl, h1, h2⟩
  have R1 := Lib.hid h1
  have B1 := Lib.hid (B0.out.trans (h2.mono B0.out.size))
  have W1 := Lib.hid B0.out.size
  clear h1 h2 UN R0 B0
  go_wp2_with fail
  go_loopg [3] (n * n - cntM n (unionM T emptyM)) (fun g v wr => ∃ (O : Nat) (C : Mx), v = .slice (some ⟨O, 0, none⟩) n n ∧ w.heap.size ≤ O ∧ TabAt wr O n C ∧ ClM n T C ∧ Below w.heap.size w wr ∧ g = n * n - cntM n C)
  case atStart => exact ⟨_, _, rfl, W1.out, R1.out, ⟨fun a b _ _ e => by simp [unionM, e], fun a b _ _ e => by simp [unionM, emptyM] at e; exact .one e⟩, B1.out, rfl⟩
  case round =>
    clear R1 B1 W1
    obtain ⟨O, C, rfl, ho, hr, hc, hb, rfl⟩ := hrel
    have HO := Lib.hid ho
    have HR := Lib.hid hr
    have HC := Lib.hid hc
    have HW := Lib.hid hb
    clear ho hr hc hb
    go_wp2_with fail
    refine (rthen_any O O n C C wr HN.out HR.out HR.out).mono ?_
    rintro e w2 ⟨rfl, h1, h2⟩
    have R1 := Lib.hid h1
    have R2 := Lib.hid (HR.out.below h2)
    have B1 := Lib.hid (HW.out.trans (h2.mono HW.out.size))
    clear h1 h2
    go_wp2_with fail
    refine (runion_any O wr.heap.size n C (thenM n C C) w2 HN.out R2.out R1.out).mono ?_
    rintro e w3 ⟨rfl, h1, h2⟩
    have R3 := Lib.hid (show TabAt w3 w2.heap.size n (nextM n C) from h1)
    have R4 := Lib.hid (R2.out.below h2)
    have B2 := Lib.hid (B1.out.trans (h2.mono B1.out.size))
    have W2 := Lib.hid B1.out.size
    clear h1 h2 R1 R2
    go_wp2_with fail
    refine (rsame_any w2.heap.size O n (nextM n C) C w3 HN.out R3.out R4.out).mono ?_
    rintro e w4 ⟨rfl, h2⟩
    have R5 := Lib.hid (R3.out.below h2)
    have R6 := Lib.hid (R4.out.below h2)
    have B3 := Lib.hid (B2.out.trans (h2.mono B2.out.size))
    clear h2 R3 R4
    cases c : eqT n (nextM n C) C with
    | true =>
      have FX := Lib.hid (HC.out.fix SU.out c)
      go_wp2
      go_ret
      exact ⟨O, HO.out, rfl, R6.out.eqT (fun i j hi hj => FX.out i j hi hj), B3.out⟩
    | false =>
      have LT := Lib.hid (eqT_lt c)
      have LE := Lib.hid (cntM_le n (nextM n C))
      go_wp2_with fail
      go_roundg (n * n - cntM n (nextM n C))
      case measure => have := LT.out; have := LE.out; omega
      case rel => exact ⟨_, _, rfl, W2.out, R5.out, HC.out.next, B3.out, rfl⟩

set_option maxRecDepth 100000 in
set_option maxHeartbeats 3200000 in
theorem racyc_any (A n : Nat) (T : Mx) (w : World) (hn : n ≤ 1000) (s : Sup n T) (hA : TabAt w A n T) :
    Calls Try.prog 39 #[.slice (some ⟨A, 0, none⟩) n n] w fun e w' => e = .returned (.bool (acyc n T)) ∧ Below w.heap.size w w' := by
  have CL := Lib.hid (rclosure_any A n T w hn s hA)
  have HN := Lib.hid hn
  clear hA hn s
  go_enter Try.func39, Try.ntmps39
  go_wp2_with fail
  refine CL.out.mono ?_
  rintro e w1 ⟨O, ho, rfl, h1, h2⟩
  have R0 := Lib.hid h1
  have B0 := Lib.hid h2
  clear ho h1 h2 CL
  go_wp2_with fail
  go_loop [4] (fun i => ∃ k : Nat, k ≤ n ∧ i = .int .i64 (k : Int) ∧ ∀ i, i < k → wars T n i i = false) (fun i => n - (intOf i).toNat)
  case atStart => exact ⟨0, by omega, rfl, fun i hi => absurd hi (by omega)⟩
  case round =>
    obtain ⟨k, hk, rfl, ht⟩ := hrel
    have HT := Lib.hid ht
    clear ht
    by_cases ck : k < n
    · have k1 : (k : Int) < (n : Int) := by omega
      have k0 : (0 : Int) ≤ (k : Int) := by omega
      have k2 : (k : Int) ≤ 1000 := by have := HN.out; omega
      have a0 := R0.out.row k ck w1 (Below.refl _ _)
      have a1 := R0.out.bit k k ck ck w1 (Below.refl _ _)
      cases c : wars T n k k with
      | false =>
        rw [c] at a1
        go_wp2_with fail
        clear a0 a1
        go_round
        case rel => exact ⟨k + 1, by omega, by go_num, fun i hi => by
          by_cases e : i = k
          · rw [e]; exact c
          · exact HT.out i (by omega)⟩
        case measure => simp [intOf]; omega
      | true =>
        rw [c] at a1
        have D := Lib.hid (show acyc n T = false by
          cases q : acyc n T with
          | false => rfl
          | true => have := acyc_iff.1 q k ck; rw [c] at this; cases this)
        go_wp2
        go_ret
        exact ⟨(by rw [D.out]; rfl), B0.out⟩
    · obtain rfl : k = n := by omega
      have i2 : ¬ (k : Int) < (k : Int) := by omega
      have D := Lib.hid (acyc_iff.2 HT.out)
      go_wp2
      go_ret
      exact ⟨(by rw [D.out]; rfl), B0.out⟩

set_option maxRecDepth 100000 in
set_option maxHeartbeats 3200000 in
theorem loose_any (A n : Nat) (T : Mx) (w : World) (hn : n ≤ 1000) (hA : TabAt w A n T) :
    Calls Try.prog 42 #[.slice (some ⟨A, 0, none⟩) n n] w fun e w' => e = .returned (.bool (decide (∀ i, i < n → T i i = false))) ∧ w = w' := by
  have HN := Lib.hid hn
  have R0 := Lib.hid hA
  clear hA hn
  go_enter Try.func42, Try.ntmps42
  go_wp2_with fail
  go_loop [3] (fun i => ∃ k : Nat, k ≤ n ∧ i = .int .i64 (k : Int) ∧ ∀ i, i < k → T i i = false) (fun i => n - (intOf i).toNat)
  case atStart => exact ⟨0, by omega, rfl, fun i hi => absurd hi (by omega)⟩
  case round =>
    obtain ⟨k, hk, rfl, ht⟩ := hrel
    have HT := Lib.hid ht
    clear ht
    by_cases ck : k < n
    · have k1 : (k : Int) < (n : Int) := by omega
      have k0 : (0 : Int) ≤ (k : Int) := by omega
      have k2 : (k : Int) ≤ 1000 := by have := HN.out; omega
      have a0 := R0.out.row k ck w (Below.refl _ _)
      have a1 := R0.out.bit k k ck ck w (Below.refl _ _)
      cases c : T k k with
      | false =>
        rw [c] at a1
        go_wp2_with fail
        clear a0 a1
        go_round
        case rel => exact ⟨k + 1, by omega, by go_num, fun i hi => by
          by_cases e : i = k
          · rw [e]; exact c
          · exact HT.out i (by omega)⟩
        case measure => simp [intOf]; omega
      | true =>
        rw [c] at a1
        have D := Lib.hid (show decide (∀ i, i < n → T i i = false) = false from decide_eq_false fun h => by have := h k ck; rw [c] at this; cases this)
        go_wp2
        go_ret
        exact ⟨(by rw [D.out]; rfl), rfl⟩
    · obtain rfl : k = n := by omega
      have i2 : ¬ (k : Int) < (k : Int) := by omega
      have D := Lib.hid (decide_eq_true HT.out)
      go_wp2
      go_ret
      exact ⟨(by rw [D.out]; rfl), rfl⟩

set_option maxRecDepth 100000 in
set_option maxHeartbeats 3200000 in
theorem rhas_any (O n : Nat) (T : Mx) (a b : Int) (w : World) (hn : n ≤ 1000) (hA : TabAt w O n T) :
    Calls Try.prog 24 #[.slice (some ⟨O, 0, none⟩) n n, .int .i64 a, .int .i64 b] w fun e w' => e = .returned (.bool (hasZ n T a b)) ∧ w = w' := by
  have HN := Lib.hid hn
  have R0 := Lib.hid hA
  clear hA hn
  cases c1 : thingB n a with
  | false =>
    have E := Lib.hid (show hasZ n T a b = false by unfold hasZ; rw [c1]; rfl)
    have c1' : ¬ (0 ≤ a ∧ a < (n : Int)) := of_decide_eq_false c1
    have b0 : decide (b ≥ 0) = true ∨ decide (b ≥ 0) = false := by cases decide (b ≥ 0) <;> simp
    by_cases d1 : 0 ≤ a
    · have d2 : decide (a ≥ 0) = true := by simpa using d1
      have d3 : decide (a < (n : Int)) = false := by simp; omega
      clear c1 c1'
      rcases b0 with b0 | b0
      all_goals
        go_enter Try.func24, Try.ntmps24
        go_wp2
        go_ret
        exact ⟨(by rw [E.out]; rfl), rfl⟩
    · have d2 : decide (a ≥ 0) = false := by simpa using d1
      clear c1 c1' b0
      go_enter Try.func24, Try.ntmps24
      go_wp2
      go_ret
      exact ⟨(by rw [E.out]; rfl), rfl⟩
  | true =>
    have c1' : (0 ≤ a ∧ a < (n : Int)) := of_decide_eq_true c1
    have d2 : decide (a ≥ 0) = true := by simpa using c1'.1
    have d3 : decide (a < (n : Int)) = true := by simpa using c1'.2
    cases c2 : thingB n b with
    | false =>
      have E := Lib.hid (show hasZ n T a b = false by unfold hasZ; rw [c2]; simp)
      have c2' : ¬ (0 ≤ b ∧ b < (n : Int)) := of_decide_eq_false c2
      by_cases d1 : 0 ≤ b
      · have d4 : decide (b ≥ 0) = true := by simpa using d1
        have d5 : decide (b < (n : Int)) = false := by simp; omega
        clear c1 c1' c2 c2'
        go_enter Try.func24, Try.ntmps24
        go_wp2
        go_ret
        exact ⟨(by rw [E.out]; rfl), rfl⟩
      · have d4 : decide (b ≥ 0) = false := by simpa using d1
        clear c1 c1' c2 c2'
        go_enter Try.func24, Try.ntmps24
        go_wp2
        go_ret
        exact ⟨(by rw [E.out]; rfl), rfl⟩
    | true =>
      have c2' : (0 ≤ b ∧ b < (n : Int)) := of_decide_eq_true c2
      have E := Lib.hid (show hasZ n T a b = T a.toNat b.toNat by unfold hasZ; rw [c1, c2]; rfl)
      obtain ⟨a, rfl⟩ := Int.eq_ofNat_of_zero_le c1'.1
      obtain ⟨b, rfl⟩ := Int.eq_ofNat_of_zero_le c2'.1
      have d4 : decide ((b : Int) ≥ 0) = true := by simp
      have d5 : decide ((b : Int) < (n : Int)) = true := by simpa using c2'.2
      have a0 := R0.out.row a (by omega) w (Below.refl _ _)
      have a1 := R0.out.bit a b (by omega) (by omega) w (Below.refl _ _)
      have e1 : (a : Int) < (n : Int) := c1'.2
      have e2 : (b : Int) < (n : Int) := c2'.2
      have e3 : (0 : Int) ≤ (a : Int) := by omega
      have e4 : (0 : Int) ≤ (b : Int) := by omega
      have n9 : (n : Int) ≤ 1000 := by have := HN.out; omega
      clear c1 c1' c2 c2'
      simp only [Int.toNat_natCast] at E
      obtain ⟨t, ht⟩ : ∃ t, t = T a b := ⟨_, rfl⟩
      rw [← ht] at a1 E
      clear ht
      go_enter Try.func24, Try.ntmps24
      go_wp2
      go_ret
      exact ⟨(by rw [E.out]; rfl), rfl⟩
end Go.Proofs.Ytjgfnemdklljmaa
