/-
  Layer 4, the walks: signs, registers' names, the code's and the page's; NumberOf.
-/
import Derived.Test.YtgpngjgilcbigaaDoorHe
import Derived.Test.YtgpngjgilcbigaaDoorVd
set_option linter.unusedSimpArgs false
set_option linter.unusedVariables false
namespace GrA
theorem signB_nat (c : UInt8) : signB c = (decide (c.toNat = 44) || decide (c.toNat = 91) || decide (c.toNat = 93)) := by
  have e (k : UInt8) : (c == k) = decide (c.toNat = k.toNat) := by
    by_cases h : c = k
    · subst h; simp
    · have : ¬ c.toNat = k.toNat := fun e => h (UInt8.toNat_inj.1 e)
      simp [h, this]
  unfold signB
  rw [e 44, e 91, e 93]
  rfl
theorem reg_lt {n : Int} (h : 0 ≤ n ∧ n < 31) : reg n = 88 :: Go.Lib.itoa n := by rw [reg, if_pos h]
theorem reg_31 : reg 31 = XZR := by decide
theorem reg_out {n : Int} (h : n < 0 ∨ 31 < n) : reg n = [] := by rw [reg, if_neg (by omega), if_neg (by omega)]
theorem itoa_len {n : Int} (h : 0 ≤ n ∧ n < 31) : (Go.Lib.itoa n).length ≤ 64 := by
  obtain ⟨u, rfl⟩ := Int.eq_ofNat_of_zero_le h.1
  rw [Go.Lib.itoa, if_neg (by omega), ← GrP.digs_dec]
  have := GrP.digs_len64 (b := 10) (by omega) u (by omega)
  rw [GrP.strL_size] at this
  simpa using this
theorem numberOf_some {w : Tx} {k : Nat} (hk : k < 32) (h : reg k = w) (h2 : ∀ m : Nat, m < k → ¬ reg m = w) : numberOf w = some k := by
  unfold numberOf
  rw [List.find?_range_eq_some]
  refine ⟨by simp [h], List.mem_range.2 hk, fun m hm => by have := h2 m hm; simpa using this⟩
theorem numberOf_none {w : Tx} (h2 : ∀ m : Nat, m < 32 → ¬ reg m = w) : numberOf w = none := by
  unfold numberOf
  rw [List.find?_eq_none]
  intro m hm
  have := h2 m (List.mem_range.1 hm)
  simpa using this
end GrA
namespace Go.Proofs.YtgpngjgilcbigaaDoor
open Go.RowKit GrP GrA

set_option maxRecDepth 100000 in
set_option maxHeartbeats 1600000 in
theorem reg_any (n : Int) (w : World) (ht : TB w) (h0 : -9223372036854775808 ≤ n) (h1 : n ≤ 9223372036854775807) : Calls Tryd.prog 28 #[.int .i64 n] w fun e w' => e = .returned (.string (strL (reg n))) ∧ Below w.heap.size w w' := by
  by_cases a : 0 ≤ n
  · by_cases b : n < 31
    · have FI := Lib.hid (int_any n w h0 h1 ht)
      have SA := Lib.hid (show strL [88] ++ intS n = strL (reg n) by rw [reg_lt ⟨a, b⟩, intS, strL_app]; rfl)
      have NS : ¬ 9223372036854775807 < 1 + (intS n).size := by rw [intS, strL_size]; have := itoa_len ⟨a, b⟩; omega
      have a2 : decide (0 ≤ n) = true := by simpa using a
      have b2 : decide (n < 31) = true := by simpa using b
      clear ht h0 h1
      go_enter Tryd.func28, Tryd.ntmps28
      go_wp2_with fail
      refine FI.out.mono ?_
      rintro e w2 ⟨rfl, hb⟩
      have K2 := Lib.hid hb
      clear hb
      go_wp2
      go_ret
      first
        | exact ⟨(by rw [← SA.out]; rfl), K2.out⟩
        | exact ⟨rfl, K2.out⟩
    · by_cases c : n = 31
      · subst c
        go_enter Tryd.func28, Tryd.ntmps28
        go_wp2
        go_ret
        exact ⟨by rw [reg_31]; rfl, Below.refl _ _⟩
      · have E := Lib.hid (reg_out (n := n) (by omega))
        have a2 : decide (0 ≤ n) = true := by simpa using a
        have b2 : decide (n < 31) = false := by simpa using b
        have c2 : (n == 31) = false := by simpa using c
        clear ht h0 h1
        go_enter Tryd.func28, Tryd.ntmps28
        go_wp2
        go_ret
        exact ⟨by rw [E.out]; rfl, Below.refl _ _⟩
  · have E := Lib.hid (reg_out (n := n) (by omega))
    have a2 : decide (0 ≤ n) = false := by simpa using a
    have c2 : (n == 31) = false := by simp; omega
    have c3 : ¬ n = 31 := by omega
    clear ht h0 h1
    go_enter Tryd.func28, Tryd.ntmps28
    go_wp2
    go_ret
    exact ⟨by rw [E.out]; rfl, Below.refl _ _⟩

set_option maxRecDepth 100000 in
set_option maxHeartbeats 1600000 in
theorem rreg_any (n : Int) (w : World) (h0 : -9223372036854775808 ≤ n) (h1 : n ≤ 9223372036854775807) : Calls Tryd.prog 33 #[.int .i64 n] w fun e w' => e = .returned (.string (strL (reg n))) ∧ Below w.heap.size w w' := by
  by_cases c : n = 31
  · subst c
    go_enter Tryd.func33, Tryd.ntmps33
    go_wp2
    go_ret
    exact ⟨by rw [reg_31]; rfl, Below.refl _ _⟩
  · have c2 : (n == 31) = false := by simpa using c
    by_cases a : n < 0
    · have E := Lib.hid (reg_out (n := n) (by omega))
      have a2 : decide (n < 0) = true := by simpa using a
      clear h0 h1
      go_enter Tryd.func33, Tryd.ntmps33
      go_wp2
      go_ret
      exact ⟨by rw [E.out]; rfl, Below.refl _ _⟩
    · have a2 : decide (n < 0) = false := by simpa using a
      by_cases b : 30 < n
      · have E := Lib.hid (reg_out (n := n) (by omega))
        have b2 : decide (30 < n) = true := by simpa using b
        clear h0 h1
        go_enter Tryd.func33, Tryd.ntmps33
        go_wp2
        go_ret
        exact ⟨by rw [E.out]; rfl, Below.refl _ _⟩
      · have b2 : decide (30 < n) = false := by simpa using b
        have FI := Lib.hid (rint_any n w h0 h1)
        have SA := Lib.hid (show strL [88] ++ intS n = strL (reg n) by rw [reg_lt ⟨by omega, by omega⟩, intS, strL_app]; rfl)
        have NS : ¬ 9223372036854775807 < 1 + (intS n).size := by rw [intS, strL_size]; have := itoa_len (n := n) ⟨by omega, by omega⟩; omega
        clear h0 h1
        go_enter Tryd.func33, Tryd.ntmps33
        go_wp2_with fail
        refine FI.out.mono ?_
        rintro e w2 ⟨rfl, hb⟩
        have K2 := Lib.hid hb
        clear hb
        go_wp2
        go_ret
        first
          | exact ⟨(by rw [← SA.out]; rfl), K2.out⟩
          | exact ⟨rfl, K2.out⟩
end Go.Proofs.YtgpngjgilcbigaaDoor
