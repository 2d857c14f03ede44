/-
  Layer 10, the walks: letters, the code's and the page's First.
-/
import Derived.Test.YtlpejfoeiaogcaaGreatDoorEb
import Derived.Test.YtlpejfoeiaogcaaGreatDoorKs
set_option linter.unusedSimpArgs false
set_option linter.unusedVariables false
namespace Go.Proofs.YtlpejfoeiaogcaaGreatDoor
open Go.RowKit GrP GrL

theorem run_is {l : Tx} {i : Nat} (hi : i ≤ l.length) (h1 : ∀ j (h : j < l.length), j < i → letterB l[j] = true) (h2 : ∀ h : i < l.length, letterB l[i] = false) : run l = i := tw_at hi h1 h2

set_option maxRecDepth 100000 in
set_option maxHeartbeats 1600000 in
theorem letters_any (l : Tx) (w : World) (hl : l.length ≤ 9223372036854775800) : Calls Tryz.prog 39 #[.string (strL l)] w fun e w' => e = .returned (.int .i64 ((run l : Nat) : Int)) ∧ w = w' := by
  obtain ⟨n, hn⟩ : ∃ n, n = l.length := ⟨_, rfl⟩
  have hsz : (strL l).size = n := by rw [strL_size, hn]
  have HN := Lib.hid hn
  have n0 : (0 : Int) ≤ (n : Int) := by omega
  have n1 : (n : Int) ≤ 9223372036854775800 := by omega
  clear hl hn
  go_enter Tryz.func39, Tryz.ntmps39
  go_wp2_with fail
  go_loopw [3] (fun iv wr => ∃ i : Nat, i ≤ n ∧ iv = .int .i64 (i : Int) ∧ (∀ j (h : j < l.length), j < i → letterB l[j] = true) ∧ w = wr) (fun iv _ => n - (intOf iv).toNat)
  case atStart => exact ⟨0, by omega, rfl, fun j h h2 => by omega, rfl⟩
  case round =>
    obtain ⟨i, hi, rfl, hall, rfl⟩ := hrel
    have HA := Lib.hid hall
    have i0 : (0 : Int) ≤ (i : Int) := by omega
    by_cases c : i < n
    · have c1 : (i : Int) < (n : Int) := by omega
      have hil : i < l.length := by have := HN.out; omega
      have HI := Lib.hid (show i + 1 ≤ n by omega)
      have hix := fun w => s_idx l i hil w
      have LT := Lib.hid (fun w => lletter_any l[i].toNat w)
      have LB := Lib.hid (letter_nat l[i])
      cases hb : letterN l[i].toNat with
      | true =>
        rw [hb] at LT
        have HB := Lib.hid (show ∀ h : i < l.length, letterB (l[i]'h) = true from fun _ => by rw [LB.out]; exact hb)
        obtain ⟨x, hx⟩ : ∃ x, x = l[i].toNat := ⟨_, rfl⟩
        rw [← hx] at LT hix
        clear hb LB hx hil c hi hall
        go_wp2_with (go_at_call 61; refine (LT.out _).mono ?_; rintro e w9 ⟨rfl, rfl⟩)
        go_roundw
        case rel => exact ⟨i + 1, HI.out, by go_num, fun j hj h2 => by
          by_cases e : j = i
          · subst e; exact HB.out hj
          · exact HA.out j hj (by omega), trivial⟩
        case measure => have := HI.out; simp [intOf] <;> omega
      | false =>
        rw [hb] at LT
        have E := Lib.hid (run_is (by omega) HA.out (fun _ => by rw [LB.out]; exact hb))
        obtain ⟨x, hx⟩ : ∃ x, x = l[i].toNat := ⟨_, rfl⟩
        rw [← hx] at LT hix
        clear hb LB hx hil c hi hall
        go_wp2_with (go_at_call 61; refine (LT.out _).mono ?_; rintro e w9 ⟨rfl, rfl⟩)
        go_ret
        exact ⟨by rw [E.out]; rfl, rfl⟩
    · have hin : i = n := by omega
      have c1 : ¬ (i : Int) < (n : Int) := by omega
      have E := Lib.hid (run_is (l := l) (i := i) (by have := HN.out; omega) HA.out (fun h => by have := HN.out; omega))
      clear hin hi c hall
      go_wp2
      go_ret
      exact ⟨by rw [E.out]; rfl, rfl⟩

end Go.Proofs.YtlpejfoeiaogcaaGreatDoor