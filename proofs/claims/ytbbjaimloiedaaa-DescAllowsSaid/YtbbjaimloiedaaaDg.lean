/-
  Layer 7, the walks: Encode, Address; the page's own Right, Word, Address.
-/
import Derived.Test.YtbbjaimloiedaaaDf
import Derived.Test.YtbbjaimloiedaaaFs
namespace Go.Proofs.Ytbbjaimloiedaaa
open Go.RowKit

set_option maxHeartbeats 800000 in
theorem encode_no (d : GrD.D) (l : Int) (w : World) (h0 : 0 ≤ d.out) (h1 : d.out < 18446744073709551616) (hr : GrD.rightB d l = false) :
    Calls Try.prog 15 #[dv d, .int .i64 l] w fun e w' => e = .returned (.tuple #[.int .u64 0, .int .i64 70]) ∧ Below w.heap.size w w' := by
  have ck := fun w => check_any d l w h0 h1
  rw [hr, GrD.err_f] at ck
  have CK := Lib.hid ck
  clear ck hr h0 h1
  obtain ⟨v, t, o, u, r, s, q⟩ := d
  obtain ⟨k0, k1, k2, k3, k4, k5, k6, kb⟩ := box7 w v t o u r s q _ rfl
  have KB := Lib.hid kb
  clear kb
  unfold dv at CK ⊢
  go_enter Try.func15, Try.ntmps15
  go_wp2_with fail
  refine (CK.out _).mono ?_
  rintro e w1 ⟨rfl, d1⟩
  obtain ⟨x, rfl⟩ := Wb.start d1
  go_wp2
  go_ret2
  exact ⟨rfl, KB.out x⟩

set_option maxHeartbeats 3200000 in
theorem encode_yes (d : GrD.D) (l : Int) (c1 : Bool) (w : World) (h0 : 0 ≤ d.out) (h1 : d.out < 18446744073709551616) (hr : GrD.rightB d l = true) (hc : c1 = (d.valid && (d.table || decide (l = 2))))
    (hk : (d.valid = false ∧ c1 = false) ∨ (d.valid = true ∧ d.table = true ∧ c1 = true) ∨ (d.valid = true ∧ d.table = false ∧ c1 = true ∧ l = 2) ∨ (d.valid = true ∧ d.table = false ∧ c1 = false ∧ l = 1)) :
    Calls Try.prog 15 #[dv d, .int .i64 l] w fun e w' => e = .returned (.tuple #[.int .u64 (GrD.word d l), .int .i64 0]) ∧ Below w.heap.size w w' := by
  rw [← GrD.coded_eq d l h0 hr]
  unfold GrD.coded
  rw [← hc]
  have ck := fun w => check_any d l w h0 h1
  rw [hr, GrD.err_t] at ck
  have CK := Lib.hid ck
  obtain ⟨v, t, o, u, r, s, q⟩ := d
  simp only at hk h0 h1 ⊢
  have b0 := mk1_bd o 0 v h0 h1
  have b1 := mk1_bd _ 1 c1 b0.1 b0.2
  have b2 := mk1_bd _ 6 s b1.1 b1.2
  have b3 := mk1_bd _ 7 r b2.1 b2.2
  have b4 := mk1_bd _ 10 u b3.1 b3.2
  have B := Lib.hid (And.intro h1 (And.intro b0 (And.intro b1 (And.intro b2 (And.intro b3 b4)))))
  clear ck hr hc h1 b0 b1 b2 b3 b4
  obtain ⟨k0, k1, k2, k3, k4, k5, k6, kb⟩ := box7 w v t o u r s q _ rfl
  have KB := Lib.hid kb
  clear kb
  unfold dv at CK ⊢
  rcases hk with ⟨rfl, rfl⟩ | ⟨rfl, rfl, rfl⟩ | ⟨rfl, rfl, rfl, rfl⟩ | ⟨rfl, rfl, rfl, rfl⟩
  all_goals
    go_enter Try.func15, Try.ntmps15
    go_wp2_with fail
    refine (CK.out _).mono ?_
    rintro e w1 ⟨rfl, d1⟩
    obtain ⟨x0, rfl⟩ := Wb.start d1
    clear d1
    go_wp2_with fail
    refine (marked_any o 0 _ _ h0 B.out.1).mono ?_
    rintro e w1 ⟨rfl, d1⟩
    obtain ⟨x1, rfl⟩ := Wb.next d1
    clear d1
    go_wp2_with fail
    refine (marked_any _ 1 _ _ B.out.2.1.1 B.out.2.1.2).mono ?_
    rintro e w1 ⟨rfl, d1⟩
    obtain ⟨x2, rfl⟩ := Wb.next d1
    clear d1
    go_wp2_with fail
    refine (marked_any _ 6 _ _ B.out.2.2.1.1 B.out.2.2.1.2).mono ?_
    rintro e w1 ⟨rfl, d1⟩
    obtain ⟨x3, rfl⟩ := Wb.next d1
    clear d1
    go_wp2_with fail
    refine (marked_any _ 7 _ _ B.out.2.2.2.1.1 B.out.2.2.2.1.2).mono ?_
    rintro e w1 ⟨rfl, d1⟩
    obtain ⟨x4, rfl⟩ := Wb.next d1
    clear d1
    go_wp2_with fail
    refine (marked_any _ 10 _ _ B.out.2.2.2.2.1.1 B.out.2.2.2.2.1.2).mono ?_
    rintro e w1 ⟨rfl, d1⟩
    obtain ⟨x5, rfl⟩ := Wb.next d1
    clear d1
    go_wp2_with fail
    refine (marked_any _ 11 _ _ B.out.2.2.2.2.2.1 B.out.2.2.2.2.2.2).mono ?_
    rintro e w1 ⟨rfl, d1⟩
    obtain ⟨x6, rfl⟩ := Wb.next d1
    clear d1
    go_wp2
    go_ret2
    exact ⟨rfl, KB.out x6⟩

theorem encode_any (d : GrD.D) (l : Int) (w : World) (h0 : 0 ≤ d.out) (h1 : d.out < 18446744073709551616) (hr : GrD.rightB d l = true) :
    Calls Try.prog 15 #[dv d, .int .i64 l] w fun e w' => e = .returned (.tuple #[.int .u64 (GrD.word d l), .int .i64 0]) ∧ Below w.heap.size w w' := by
  refine encode_yes d l _ w h0 h1 hr rfl ?_
  by_cases hv : d.valid = true
  · have hl : l = 1 ∨ l = 2 := by
      rw [GrD.rightB, if_pos hv] at hr
      simp only [Bool.and_eq_true, Bool.or_eq_true, decide_eq_true_eq] at hr
      exact hr.1.1
    rw [hv]
    cases ht : d.table with
    | true => simp
    | false =>
      rcases hl with rfl | rfl
      · simp
      · simp
  · have hv' : d.valid = false := by simpa using hv
    simp [hv']

/-! ### Address -/
theorem low_put (x v : Int) (k : Int) (h0 : 0 ≤ x) (h1 : x < 18446744073709551616) (h2 : 0 ≤ v) (hk : k = 12 ∨ k = 21) : GrF.put x (k - 1) 0 v = if k = 21 then x - x % 2097152 + v % 2097152 else x - x % 4096 + v % 4096 := by
  rcases hk with rfl | rfl
  · exact GrD.put_low x v 11 (by omega) h0 h1 h2
  · exact GrD.put_low x v 20 (by omega) h0 h1 h2

set_option maxHeartbeats 1600000 in
theorem address_any (d : GrD.D) (l va : Int) (w : World) (h0 : 0 ≤ d.out) (h1 : d.out < 18446744073709551616) (a0 : 0 ≤ va) :
    Calls Try.prog 19 #[dv d, .int .i64 l, .int .u64 va] w fun e w' => e = .returned (.int .u64 (GrD.address d l va)) ∧ Below w.heap.size w w' := by
  obtain ⟨v, t, o, u, r, s, q⟩ := d
  have lo := fun w => low_below v t o u r s q l w
  obtain ⟨k, hk⟩ : ∃ k, k = GrD.low t l := ⟨_, rfl⟩
  have hk2 : k = 12 ∨ k = 21 := by rw [hk, GrD.low]; split <;> simp
  rw [← hk] at lo
  have E : GrF.put o (k - 1) 0 va = GrD.address ⟨v, t, o, u, r, s, q⟩ l va := by
    rw [low_put o va k h0 h1 a0 hk2, GrD.address, hk, GrD.low]
    by_cases c : l = 1 ∧ t = false
    · rw [if_pos c, if_pos c, if_pos rfl]
    · rw [if_neg c, if_neg c, if_neg (by decide)]
  have pt := fun w => (put_any o (k - 1) 0 va w h0 h1 a0).mono fun e w' (h : _ ∧ Drew w w') => (⟨h.1, h.2.below w.heap.size⟩ : _ ∧ Below w.heap.size w w')
  rw [E] at pt
  have LO := Lib.hid lo
  have PT := Lib.hid pt
  obtain ⟨k0, k1, k2, k3, k4, k5, k6, kb⟩ := box7 w v t o u r s q _ rfl
  have KB := Lib.hid kb
  clear kb lo pt E hk h0 h1 a0
  unfold dv
  rcases hk2 with rfl | rfl
  all_goals
    go_enter Try.func19, Try.ntmps19
    go_wp2_with fail
    refine wp_region_wb (by kernel_rfl) (by kernel_rfl) ?_
    repeat (go_big_quiet_step (first | (go_at_call 47; exact Calls.wb (LO.out _)) | (go_at_call 52; exact Calls.wb (PT.out _))))
    refine wpQuiet_nil ?_
    rintro _ ⟨x, rfl⟩
    go_wp2
    go_ret
    exact ⟨rfl, KB.out x⟩
end Go.Proofs.Ytbbjaimloiedaaa
