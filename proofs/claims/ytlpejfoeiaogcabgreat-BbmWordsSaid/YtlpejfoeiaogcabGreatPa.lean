/-
  Layer 22, the walks: Valid, Entry, the page's Entry; the law BbmWords.
-/
import Derived.Test.YtlpejfoeiaogcabGreatFx
import Derived.Test.YtlpejfoeiaogcabGreatSl
import Derived.Test.YtlpejfoeiaogcabGreatPz
import Derived.LoopTactic
set_option linter.unusedSimpArgs false
set_option linter.unusedVariables false
namespace GrB
def has (zs : List Int) (x : Int) : Bool := zs.any fun z => x == z
theorem has_at {zs : List Int} {x : Int} {k : Nat} (h : k < zs.length) (e : x = zs[k]) : has zs x = true := List.any_eq_true.2 ⟨zs[k], List.getElem_mem h, by simpa using e⟩
theorem has_no {zs : List Int} {x : Int} (h : ∀ j (hj : j < zs.length), x ≠ zs[j]) : has zs x = false := by
  cases e : has zs x with
  | false => rfl
  | true =>
    obtain ⟨z, hz, hx⟩ := List.any_eq_true.1 e
    obtain ⟨j, hj, rfl⟩ := List.getElem_of_mem hz
    exact absurd (by simpa using hx) (h j hj)
theorem bit0 (x : Int) (h0 : 0 ≤ x) : GrF.bitB x 0 = (x % 2 == 1) := by
  have : GrF.get x 0 0 = x % 2 := by
    unfold GrF.get
    rw [if_pos (by decide), GrF.getN_eq]
    simp
    omega
  unfold GrF.bitB
  rw [this]
theorem down12 (x : Int) (h0 : 0 ≤ x) (h1 : x < 18446744073709551616) : GrF.down x 12 = x - x % 4096 := by
  have key : GrF.downN x.toNat 12 = 4096 * (x.toNat / 4096) := by
    apply Nat.eq_of_testBit_eq
    intro i
    rw [GrF.downN, GrF.num_testBit, show (4096 : Nat) = 2 ^ 12 by rfl, Nat.testBit_two_pow_mul, Nat.testBit_div_two_pow]
    by_cases hi : 12 ≤ i
    · by_cases h6 : i < 64
      · simp [hi, h6, show i - 12 + 12 = i by omega, show ¬ i < 12 by omega]
      · have := GrF.tb64 (x := x.toNat) (by omega) (i := i) (by omega)
        simp [h6, hi, this, show i - 12 + 12 = i by omega]
    · simp [hi, show i < 12 by omega]
  unfold GrF.down
  rw [key]
  omega
end GrB
namespace Go.Proofs.YtlpejfoeiaogcabGreat
open Go.RowKit GrB

theorem below_drewN {B : Nat} {a w : World} (h : Below B a w) (n : Nat) : Below B a (w.drewN n) := ⟨h.os, h.tape, h.output, h.size, h.block⟩
theorem ints_at {W : World} {a : Addr} {n c : Nat} {zs : List Int} {k : IntKind} (h : SlAt W (.slice (some a) n c) 1 n (zs.map (Value.int k))) (j : Nat) (hj : j < zs.length) : W.cell? (a.add j) = some (.int k zs[j]) := by
  obtain ⟨_, ⟨e, _⟩ | ⟨b, cap, e, _, _, hx⟩⟩ := h
  · cases e
  · injection e with e1 e2 e3
    injection e1 with e1
    subst e1
    exact hx j _ (by simp [hj])
theorem ints_addr {W : World} {p : Option Addr} {n c : Nat} {xs : List Value} (h : SlAt W (.slice p n c) 1 n xs) (hn : 0 < n) : ∃ a, p = some a := by
  obtain ⟨_, ⟨e, h0⟩ | ⟨a, cp, e, _⟩⟩ := h
  · injection e with e1 e2 e3
    omega
  · injection e with e1 e2 e3
    exact ⟨a, e1⟩

set_option maxRecDepth 100000 in
set_option maxHeartbeats 3200000 in
theorem valid_any (x : Int) (w : World) (h0 : 0 ≤ x) (h1 : x < 18446744073709551616) : Calls Tryz.prog 5 #[.int .u64 x] w fun e w' => e = .returned (.bool (x % 2 == 1)) ∧ Below w.heap.size w w' := by
  have BT := Lib.hid (fun w => bit_any x 0 w h0 h1)
  have B0 := Lib.hid (bit0 x h0)
  obtain ⟨b, hb⟩ : ∃ b, b = GrF.bitB x 0 := ⟨_, rfl⟩
  rw [← hb] at BT B0
  clear hb
  go_enter Tryz.func5, Tryz.ntmps5
  go_wp2_with (go_at_call 12; refine (BT.out _).mono ?_; rintro e w1 ⟨rfl, d⟩; obtain ⟨m, rfl⟩ := d)
  refine bodyPost_ret (v := .bool b) (by simp [results, Tryz.results5, go_sem, *]) rfl ⟨by rw [B0.out], below_drewN (Below.refl _ _) m⟩

set_option maxRecDepth 100000 in
set_option maxHeartbeats 3200000 in
theorem entry_any (p : Option Addr) (n c : Nat) (zs : List Int) (a : Int) (w : World) (h : SlAt w (.slice p n c) 1 n (zs.map (Value.int .u64))) (hn : n ≤ 100) (h0 : 0 ≤ a) (h1 : a < 18446744073709551616) :
    Calls Tryz.prog 6 #[.slice p n c, .int .u64 a] w fun e w' => e = .returned (.bool (has zs (GrF.down a 12))) ∧ w = w' := by
  have PG := Lib.hid (fun w => page_any a w h0 h1)
  have E := Lib.hid (show zs.length = n by have := h.len; simpa using this)
  have H := Lib.hid h
  obtain ⟨x, hx⟩ : ∃ x, x = GrF.down a 12 := ⟨_, rfl⟩
  rw [← hx] at PG ⊢
  clear h hx h0 h1
  have n0 : (0 : Int) ≤ (n : Int) := by omega
  have n1 : (n : Int) ≤ 100 := by omega
  clear hn
  go_enter Tryz.func6, Tryz.ntmps6
  go_wp2_with fail
  go_loopw [9] (fun i wr => ∃ k : Nat, k ≤ n ∧ i = .int .i64 (k : Int) ∧ (∀ j (hj : j < zs.length), j < k → x ≠ zs[j]) ∧ w = wr) (fun i _ => n - (intOf i).toNat)
  case atStart => exact ⟨0, by omega, rfl, fun j hj h => by omega, rfl⟩
  case round =>
    obtain ⟨k, hk, rfl, ho, rfl⟩ := hrel
    have HO := Lib.hid ho
    clear ho
    have k0 : (0 : Int) ≤ (k : Int) := by omega
    by_cases ck : k < n
    · have lk : k < zs.length := by have := E.out; omega
      obtain ⟨ad, rfl⟩ := ints_addr H.out (by omega)
      have x0 := ints_at H.out k lk
      have HI := Lib.hid (show k + 1 ≤ n by omega)
      have k1 : (k : Int) < (n : Int) := by omega
      have k9 : (k : Int) ≤ 100 := by omega
      by_cases cq : x = zs[k]
      · have HA := Lib.hid (has_at lk cq)
        obtain ⟨u, hu⟩ : ∃ u, u = zs[k] := ⟨_, rfl⟩
        rw [← hu] at x0 cq
        subst cq
        clear hu lk ck hk
        go_wp2_with (go_at_call 13; refine (PG.out _).mono ?_; rintro e w9 ⟨rfl, rfl⟩)
        go_ret
        exact ⟨by rw [HA.out]; rfl, rfl⟩
      · have HA := Lib.hid (show ∀ j (hj : j < zs.length), j < k + 1 → x ≠ zs[j] from fun j hj h => by
          by_cases e : j = k
          · subst e; exact cq
          · exact HO.out j hj (by omega))
        obtain ⟨u, hu⟩ : ∃ u, u = zs[k] := ⟨_, rfl⟩
        rw [← hu] at x0 cq
        have c1 : (x == u) = false := by simpa using cq
        clear hu lk ck hk
        go_wp2_with (go_at_call 13; refine (PG.out _).mono ?_; rintro e w9 ⟨rfl, rfl⟩)
        go_roundw
        case rel => exact ⟨k + 1, HI.out, by go_num, HA.out, trivial⟩
        case measure => have := HI.out; simp [intOf] <;> omega
    · have hkn : k = n := by omega
      subst hkn
      have HF := Lib.hid (has_no (zs := zs) (x := x) fun j hj => HO.out j hj (by have := E.out; omega))
      clear ck hk
      go_wp2_with fail
      go_ret
      exact ⟨by rw [HF.out]; rfl, rfl⟩

set_option maxRecDepth 100000 in
set_option maxHeartbeats 3200000 in
theorem rentry_any (p : Option Addr) (n c : Nat) (zs : List Int) (a : Int) (w : World) (h : SlAt w (.slice p n c) 1 n (zs.map (Value.int .u64))) (hn : n ≤ 100) (h0 : 0 ≤ a) (h1 : a < 18446744073709551616) :
    Calls Tryz.prog 7 #[.slice p n c, .int .u64 a] w fun e w' => e = .returned (.bool (has zs (a - a % 4096))) ∧ w = w' := by
  obtain ⟨m, hm⟩ : ∃ m, m = a % 4096 := ⟨_, rfl⟩
  have tm : Int.tmod a 4096 = m := by rw [Int.tmod_eq_emod_of_nonneg h0, hm]
  have m0 : 0 ≤ m := by omega
  have m1 : m ≤ a := by omega
  have E := Lib.hid (show zs.length = n by have := h.len; simpa using this)
  have H := Lib.hid h
  rw [← hm]
  obtain ⟨x, hx⟩ : ∃ x, x = a - m := ⟨_, rfl⟩
  have x0 : 0 ≤ x := by omega
  have x1 : x < 18446744073709551616 := by omega
  have hx' : a - m = x := hx.symm
  rw [← hx]
  clear h hx hm
  have n0 : (0 : Int) ≤ (n : Int) := by omega
  have n1 : (n : Int) ≤ 100 := by omega
  clear hn
  go_enter Tryz.func7, Tryz.ntmps7
  go_wp2_with fail
  go_loopw [5] (fun i wr => ∃ k : Nat, k ≤ n ∧ i = .int .i64 (k : Int) ∧ (∀ j (hj : j < zs.length), j < k → x ≠ zs[j]) ∧ w = wr) (fun i _ => n - (intOf i).toNat)
  case atStart => exact ⟨0, by omega, rfl, fun j hj h => by omega, rfl⟩
  case round =>
    obtain ⟨k, hk, rfl, ho, rfl⟩ := hrel
    have HO := Lib.hid ho
    clear ho
    have k0 : (0 : Int) ≤ (k : Int) := by omega
    by_cases ck : k < n
    · have lk : k < zs.length := by have := E.out; omega
      obtain ⟨ad, rfl⟩ := ints_addr H.out (by omega)
      have z0 := ints_at H.out k lk
      have HI := Lib.hid (show k + 1 ≤ n by omega)
      have k1 : (k : Int) < (n : Int) := by omega
      have k9 : (k : Int) ≤ 100 := by omega
      by_cases cq : x = zs[k]
      · have HA := Lib.hid (has_at lk cq)
        obtain ⟨u, hu⟩ : ∃ u, u = zs[k] := ⟨_, rfl⟩
        rw [← hu] at z0 cq
        rw [← cq] at z0
        clear cq
        clear hu lk ck hk
        go_wp2_with fail
        go_ret
        exact ⟨by rw [HA.out]; rfl, rfl⟩
      · have HA := Lib.hid (show ∀ j (hj : j < zs.length), j < k + 1 → x ≠ zs[j] from fun j hj h => by
          by_cases e : j = k
          · subst e; exact cq
          · exact HO.out j hj (by omega))
        obtain ⟨u, hu⟩ : ∃ u, u = zs[k] := ⟨_, rfl⟩
        rw [← hu] at z0 cq
        have c1 : (x == u) = false := by simpa using cq
        clear hu lk ck hk
        go_wp2_with fail
        go_roundw
        case rel => exact ⟨k + 1, HI.out, by go_num, HA.out, trivial⟩
        case measure => have := HI.out; simp [intOf] <;> omega
    · have hkn : k = n := by omega
      subst hkn
      have HF := Lib.hid (has_no (zs := zs) (x := x) fun j hj => HO.out j hj (by have := E.out; omega))
      clear ck hk
      go_wp2_with fail
      go_ret
      exact ⟨by rw [HF.out]; rfl, rfl⟩

set_option maxRecDepth 100000 in
set_option maxHeartbeats 3200000 in
theorem bbmWords_walk (v a : Int) (p : Option Addr) (n c : Nat) (zs : List Int) (w : World) (h : SlAt w (.slice p n c) 1 n (zs.map (Value.int .u64))) (v0 : 0 ≤ v) (v1 : v < 18446744073709551616) (h0 : 0 ≤ a) (h1 : a < 18446744073709551616) :
    Calls Tryz.prog 3 #[.int .u64 v, .int .u64 a, .slice p n c] w fun e w' => e = .returned (.bool true) ∧ Below w.heap.size w w' := by
  have AW := Lib.hid (GrG.awake_any w)
  have VA := Lib.hid (fun w => valid_any v w v0 v1)
  have ML := Lib.hid h
  obtain ⟨r, hr⟩ : ∃ r, r = v % 2 := ⟨_, rfl⟩
  have tr : Int.tmod v 2 = r := by rw [Int.tmod_eq_emod_of_nonneg v0, hr]
  rw [← hr] at VA
  have r0 : 0 ≤ r := by omega
  have r1 : r ≤ 1 := by omega
  clear hr
  by_cases hn : n ≤ 100
  · have EN := Lib.hid (fun (x : Wb w) => entry_any p n c zs a x.at (ML.out.below x.bel) hn h0 h1)
    have RN := Lib.hid (fun (x : Wb w) => rentry_any p n c zs a x.at (ML.out.below x.bel) hn h0 h1)
    obtain ⟨b, hb⟩ : ∃ b, b = has zs (a - a % 4096) := ⟨_, rfl⟩
    rw [down12 a h0 h1, ← hb] at EN
    rw [← hb] at RN
    have n1 : ¬ (100 : Int) < (n : Int) := by omega
    clear h hn hb
    go_enter Tryz.func3, Tryz.ntmps3
    go_upto_region 3 with (go_at_call 4; refine AW.out.mono ?_; rintro e w1 ⟨rfl, d⟩; obtain ⟨x1, rfl⟩ := Wb.start d; clear d)
    rcases (show r = 0 ∨ r = 1 by omega) with e0 | e0
    all_goals
      rw [e0] at VA tr
      clear e0 r0 r1
      cases b <;> (
        go_wp2_with (first
          | (go_at_call 5; refine (VA.out _).mono ?_; rintro e w1 ⟨rfl, d⟩; obtain ⟨x2, rfl⟩ := Wb.next d; clear d)
          | (go_at_call 6; refine (EN.out _).mono ?_; rintro e w1 ⟨rfl, rfl⟩)
          | (go_at_call 7; refine (RN.out _).mono ?_; rintro e w1 ⟨rfl, rfl⟩))
        go_ret
        exact ⟨rfl, x2.bel⟩)
  · have n1 : (100 : Int) < (n : Int) := by omega
    clear h hn
    go_enter Tryz.func3, Tryz.ntmps3
    go_upto_region 3 with (go_at_call 4; refine AW.out.mono ?_; rintro e w1 ⟨rfl, d⟩; obtain ⟨x1, rfl⟩ := Wb.start d; clear d)
    go_wp2_with fail
    go_ret
    exact ⟨rfl, x1.bel⟩

theorem bbmWords_call (v a : Int) (vv : Value) (n : Nat) (zs : List Int) (w : World) (h : SlAt w vv 1 n (zs.map (Value.int .u64))) (v0 : 0 ≤ v) (v1 : v < 18446744073709551616) (h0 : 0 ≤ a) (h1 : a < 18446744073709551616) :
    Calls Tryz.prog 3 #[.int .u64 v, .int .u64 a, vv] w fun e w' => e = .returned (.bool true) ∧ Below w.heap.size w w' := by
  obtain ⟨p, m, c, rfl⟩ := h.form
  have e : m = n := by
    obtain ⟨_, ⟨e, h0⟩ | ⟨b, cap, e, _⟩⟩ := h
    · injection e with e1 e2 e3
      omega
    · injection e with e1 e2 e3
  subst e
  exact bbmWords_walk v a p m c zs w h v0 v1 h0 h1
end Go.Proofs.YtlpejfoeiaogcabGreat
