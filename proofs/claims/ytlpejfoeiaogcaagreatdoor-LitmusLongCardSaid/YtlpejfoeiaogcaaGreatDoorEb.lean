/-
  Layer 10, the walks: bytes.
-/
import Derived.Test.YtlpejfoeiaogcaaGreatDoorPv
import Derived.Test.YtlpejfoeiaogcaaGreatDoorEa
import Derived.Test.YtlpejfoeiaogcaaGreatDoorSl
import Derived.LoopTactic
set_option linter.unusedSimpArgs false
set_option linter.unusedVariables false
namespace GrL
open Go GrP
def blankN (n : Nat) : Bool := decide (n = 32) || decide (n = 9) || decide (n = 13)
def digitN (n : Nat) : Bool := decide (48 ≤ n) && decide (n ≤ 57)
def letterN (n : Nat) : Bool := (decide (97 ≤ n) && decide (n ≤ 122)) || (decide (65 ≤ n) && decide (n ≤ 90)) || (decide (48 ≤ n) && decide (n ≤ 57)) || decide (n = 95)
theorem beq_nat (c k : UInt8) : (c == k) = decide (c.toNat = k.toNat) := by
  by_cases h : c = k
  · subst h; simp
  · have : ¬ c.toNat = k.toNat := fun e => h (UInt8.toNat_inj.1 e)
    simp [h, this]
theorem blank_nat (c : UInt8) : blankB c = blankN c.toNat := by
  unfold blankB
  rw [beq_nat c 32, beq_nat c 9, beq_nat c 13]
  rfl
theorem letter_nat (c : UInt8) : letterB c = letterN c.toNat := by
  unfold letterB
  rw [beq_nat c 95]
  rfl
theorem letter_cases (n : Nat) : ((n < 48) ∧ letterN n = false ∧ digitN n = false) ∨ ((48 ≤ n ∧ n ≤ 57) ∧ letterN n = true ∧ digitN n = true) ∨ ((57 < n ∧ n < 65) ∧ letterN n = false ∧ digitN n = false) ∨ ((65 ≤ n ∧ n ≤ 90) ∧ letterN n = true ∧ digitN n = false) ∨ ((90 < n ∧ n < 95) ∧ letterN n = false ∧ digitN n = false) ∨ ((n = 95) ∧ letterN n = true ∧ digitN n = false) ∨ ((n = 96) ∧ letterN n = false ∧ digitN n = false) ∨ ((97 ≤ n ∧ n ≤ 122) ∧ letterN n = true ∧ digitN n = false) ∨ ((122 < n) ∧ letterN n = false ∧ digitN n = false) := by
  have h : (n < 48) ∨ (48 ≤ n ∧ n ≤ 57) ∨ (57 < n ∧ n < 65) ∨ (65 ≤ n ∧ n ≤ 90) ∨ (90 < n ∧ n < 95) ∨ (n = 95) ∨ (n = 96) ∨ (97 ≤ n ∧ n ≤ 122) ∨ (122 < n) := by omega
  rcases h with h | h | h | h | h | h | h | h | h
  · exact .inl ⟨h, by simp [letterN]; omega, by simp [digitN]; omega⟩
  · exact .inr (.inl ⟨h, by simp [letterN]; omega, by simp [digitN]; omega⟩)
  · exact .inr (.inr (.inl ⟨h, by simp [letterN]; omega, by simp [digitN]; omega⟩))
  · exact .inr (.inr (.inr (.inl ⟨h, by simp [letterN]; omega, by simp [digitN]; omega⟩)))
  · exact .inr (.inr (.inr (.inr (.inl ⟨h, by simp [letterN]; omega, by simp [digitN]; omega⟩))))
  · exact .inr (.inr (.inr (.inr (.inr (.inl ⟨h, by simp [letterN]; omega, by simp [digitN]; omega⟩)))))
  · exact .inr (.inr (.inr (.inr (.inr (.inr (.inl ⟨h, by simp [letterN]; omega, by simp [digitN]; omega⟩))))))
  · exact .inr (.inr (.inr (.inr (.inr (.inr (.inr (.inl ⟨h, by simp [letterN]; omega, by simp [digitN]; omega⟩)))))))
  · exact .inr (.inr (.inr (.inr (.inr (.inr (.inr (.inr (⟨h, by simp [letterN]; omega, by simp [digitN]; omega⟩))))))))
theorem strL_extract (l : Tx) (a b : Nat) : (strL l).extract a b = strL ((l.drop a).take (b - a)) := by
  apply ByteArray.ext
  apply Array.ext'
  rw [Go.Lib.extract_data]
  rfl
theorem strL_get (l : Tx) (i : Nat) (h : i < l.length) (h2 : i < (strL l).size) : (strL l)[i]'h2 = l[i] := rfl
def sv (t : Tx) : Value := .string (strL t)
end GrL
namespace Go.Proofs.YtlpejfoeiaogcaaGreatDoor
open Go.RowKit GrP GrL

theorem s_idx (l : Tx) (i : Nat) (h : i < l.length) (w : World) : (Instr.index 9 (.string (strL l)) (.int .i64 (i : Int))).run Tryz.prog w = .ok (.int .u8 (l[i].toNat : Int)) w := by
  have hs : i < (strL l).size := by rw [strL_size]; exact h
  rw [run_index_string w 9 _ .i64 _ Tryz.underlying9, dif_pos ⟨by omega, by omega⟩]
  simp only [Int.toNat_natCast, strL_get l i h hs]
  rfl
theorem s_cut (l : Tx) (a b : Nat) (h : a ≤ b) (h2 : b ≤ l.length) (w : World) : (Instr.slice 9 (.string (strL l)) (some (.int .i64 (a : Int))) (some (.int .i64 (b : Int))) none).run Tryz.prog w = .ok (.string (strL ((l.drop a).take (b - a)))) w := by
  rw [run_slice_string w 9 _ .i64 .i64 _ _ Tryz.underlying9 (by omega) (by omega) (by rw [strL_size]; omega), Int.toNat_natCast, Int.toNat_natCast, strL_extract]

theorem s_to (l : Tx) (b : Nat) (h2 : b ≤ l.length) (w : World) : (Instr.slice 9 (.string (strL l)) none (some (.int .i64 (b : Int))) none).run Tryz.prog w = .ok (.string (strL (l.take b))) w := by
  rw [run_slice_string_to_if w 9 _ .i64 _ Tryz.underlying9, if_pos ⟨by omega, by rw [strL_size]; omega⟩, Int.toNat_natCast, strL_extract]
  rfl
theorem s_from (l : Tx) (a : Nat) (h2 : a ≤ l.length) (w : World) : (Instr.slice 9 (.string (strL l)) (some (.int .i64 (a : Int))) none none).run Tryz.prog w = .ok (.string (strL (l.drop a))) w := by
  rw [run_slice_string_from_if w 9 _ .i64 _ Tryz.underlying9, if_pos ⟨by omega, by rw [strL_size]; omega⟩, Int.toNat_natCast, strL_size, strL_extract, List.take_of_length_le (by rw [List.length_drop]; omega)]

theorem lblank_any (n : Nat) (w : World) : Calls Tryz.prog 11 #[.int .u8 (n : Int)] w fun e w' => e = .returned (.bool (blankN n)) ∧ w = w' := by
  have h : n = 32 ∨ n = 9 ∨ n = 13 ∨ (n ≠ 32 ∧ n ≠ 9 ∧ n ≠ 13) := by omega
  rcases h with rfl | rfl | rfl | ⟨h1, h2, h3⟩
  · go_enter Tryz.func11, Tryz.ntmps11
    go_wp2
    go_ret
    exact ⟨rfl, rfl⟩
  · go_enter Tryz.func11, Tryz.ntmps11
    go_wp2
    go_ret
    exact ⟨rfl, rfl⟩
  · go_enter Tryz.func11, Tryz.ntmps11
    go_wp2
    go_ret
    exact ⟨rfl, rfl⟩
  · have E := Lib.hid (show blankN n = false by simp [blankN, h1, h2, h3])
    have a' : ¬ (n : Int) = 32 := by omega
    have b' : ¬ (n : Int) = 9 := by omega
    have d' : ¬ (n : Int) = 13 := by omega
    have a2 : ((n : Int) == 32) = false := by simp; omega
    have b2 : ((n : Int) == 9) = false := by simp; omega
    have d2 : ((n : Int) == 13) = false := by simp; omega
    clear h1 h2 h3
    go_enter Tryz.func11, Tryz.ntmps11
    go_wp2
    go_ret
    first | exact ⟨by rw [E.out]; rfl, rfl⟩ | exact ⟨by rw [E.out]; simp; omega, rfl⟩ | exact ⟨by rw [E.out]; simp [*], rfl⟩

theorem rblank_any (n : Nat) (w : World) : Calls Tryz.prog 7 #[.int .u8 (n : Int)] w fun e w' => e = .returned (.bool (blankN n)) ∧ w = w' := by
  have h : n = 32 ∨ n = 9 ∨ n = 13 ∨ (n ≠ 32 ∧ n ≠ 9 ∧ n ≠ 13) := by omega
  rcases h with rfl | rfl | rfl | ⟨h1, h2, h3⟩
  · go_enter Tryz.func7, Tryz.ntmps7
    go_wp2
    go_ret
    exact ⟨rfl, rfl⟩
  · go_enter Tryz.func7, Tryz.ntmps7
    go_wp2
    go_ret
    exact ⟨rfl, rfl⟩
  · go_enter Tryz.func7, Tryz.ntmps7
    go_wp2
    go_ret
    exact ⟨rfl, rfl⟩
  · have E := Lib.hid (show blankN n = false by simp [blankN, h1, h2, h3])
    have a' : ¬ (n : Int) = 32 := by omega
    have b' : ¬ (n : Int) = 9 := by omega
    have d' : ¬ (n : Int) = 13 := by omega
    have a2 : ((n : Int) == 32) = false := by simp; omega
    have b2 : ((n : Int) == 9) = false := by simp; omega
    have d2 : ((n : Int) == 13) = false := by simp; omega
    clear h1 h2 h3
    go_enter Tryz.func7, Tryz.ntmps7
    go_wp2
    go_ret
    first | exact ⟨by rw [E.out]; rfl, rfl⟩ | exact ⟨by rw [E.out]; simp; omega, rfl⟩ | exact ⟨by rw [E.out]; simp [*], rfl⟩

theorem ldigit_any (n : Nat) (w : World) : Calls Tryz.prog 76 #[.int .u8 (n : Int)] w fun e w' => e = .returned (.bool (digitN n)) ∧ w = w' := by
  by_cases a1 : 48 ≤ n
  · by_cases a2 : n ≤ 57
    · have E := Lib.hid (show digitN n = true by simp [digitN, a1, a2])
      go_enter Tryz.func76, Tryz.ntmps76
      go_wp2
      go_ret
      first | exact ⟨by rw [E.out]; rfl, rfl⟩ | exact ⟨by rw [E.out]; simp; omega, rfl⟩ | exact ⟨by rw [E.out]; simp [*], rfl⟩
    · have E := Lib.hid (show digitN n = false by simp [digitN, a2])
      go_enter Tryz.func76, Tryz.ntmps76
      go_wp2
      go_ret
      first | exact ⟨by rw [E.out]; rfl, rfl⟩ | exact ⟨by rw [E.out]; simp; omega, rfl⟩ | exact ⟨by rw [E.out]; simp [*], rfl⟩
  · have E := Lib.hid (show digitN n = false by simp [digitN, a1])
    go_enter Tryz.func76, Tryz.ntmps76
    go_wp2
    go_ret
    first | exact ⟨by rw [E.out]; rfl, rfl⟩ | exact ⟨by rw [E.out]; simp; omega, rfl⟩ | exact ⟨by rw [E.out]; simp [*], rfl⟩

theorem lletter_any (n : Nat) (w : World) : Calls Tryz.prog 61 #[.int .u8 (n : Int)] w fun e w' => e = .returned (.bool (letterN n)) ∧ w = w' := by
  have h := letter_cases n
  have DG := Lib.hid (fun w => ldigit_any n w)
  rcases h with ⟨h, EL, ED⟩ | ⟨h, EL, ED⟩ | ⟨h, EL, ED⟩ | ⟨h, EL, ED⟩ | ⟨h, EL, ED⟩ | ⟨h, EL, ED⟩ | ⟨h, EL, ED⟩ | ⟨h, EL, ED⟩ | ⟨h, EL, ED⟩
  all_goals
    (first | (have a1 : 97 ≤ n := by omega) | (have a1 : ¬ 97 ≤ n := by omega))
    (first | (have a2 : n ≤ 122 := by omega) | (have a2 : ¬ n ≤ 122 := by omega))
    (first | (have b1 : 65 ≤ n := by omega) | (have b1 : ¬ 65 ≤ n := by omega))
    (first | (have b2 : n ≤ 90 := by omega) | (have b2 : ¬ n ≤ 90 := by omega))
    (first | (have d1 : 48 ≤ n := by omega) | (have d1 : ¬ 48 ≤ n := by omega))
    (first | (have d2 : n ≤ 57 := by omega) | (have d2 : ¬ n ≤ 57 := by omega))
    have E := Lib.hid EL
    rw [ED] at DG
    (first | (have e1 : ¬ (n : Int) = 95 := by omega) | skip)
    (first | (have e2 : ((n : Int) == 95) = false := by simp; omega) | skip)
    clear EL ED
    (first | (subst h) | (clear h))
    go_enter Tryz.func61, Tryz.ntmps61
    go_wp2_with (go_at_call 76; refine (DG.out _).mono ?_; rintro e w' ⟨rfl, rfl⟩)
    go_ret
    first | exact ⟨by rw [E.out]; rfl, rfl⟩ | exact ⟨by rw [E.out]; simp; omega, rfl⟩ | exact ⟨by rw [E.out]; simp [*], rfl⟩

end Go.Proofs.YtlpejfoeiaogcaaGreatDoor