/-
  Layer 2, the walks of Parse: the code's and the page's.
  Layer 2: Parse of the code, walked.
-/
import Derived.Test.YtlpejfoeiaogcaaGreatDoorFs
import Derived.Test.YtlpejfoeiaogcaaGreatDoorHa
import Derived.Shelf.Bits.Mul64
import Derived.Deep.DeepCutAuto
set_option linter.unusedSimpArgs false
set_option linter.unusedVariables false
namespace Go.Proofs.YtlpejfoeiaogcaaGreatDoor
open Go.RowKit

/-! ### math/bits -/
def ren : Go.Shelf.Ren := ⟨fun _ => 107, fun n => if n = 53 then 27 else 133, fun x => x⟩
theorem layMul : Go.Proofs.Lays.n264 Tryz.prog ren := ⟨by kernel_rfl, by kernel_rfl, by kernel_rfl, fun _ => by kernel_rfl, fun _ => by kernel_rfl, fun _ => by kernel_rfl, by kernel_rfl, fun _ => by kernel_rfl, fun _ => by kernel_rfl, fun _ => by kernel_rfl⟩
theorem mul_any (x y : Nat) (w : World) (hx : x < 18446744073709551616) (hy : y < 18446744073709551616) :
    Calls Tryz.prog 107 #[.int .u64 (x : Int), .int .u64 (y : Int)] w fun e w' => e = .returned (.tuple #[.int .u64 ((GrP.high (x * y) : Nat) : Int), .int .u64 ((GrP.low (x * y) : Nat) : Int)]) ∧ w = w' :=
  (Any.bits_Mul64 layMul x y hx hy w).mono fun _ _ h => ⟨h.1, h.2.symm⟩

theorem add_run (x y : Nat) (w : World) :
    (callFunc 108 #[.int .u64 (x : Int), .int .u64 (y : Int), .int .u64 0]).run Tryz.prog w =
      .ok (.value (.tuple #[.int .u64 ((GrP.low (x + y) : Nat) : Int), .int .u64 ((GrP.high (x + y) : Nat) : Int)])) w := by
  rw [run_callFunc_extern (fn := Tryz.f108) (by kernel_rfl) (by kernel_rfl) (by kernel_rfl) (by kernel_rfl) (e := add64Entry) (by kernel_rfl), run_add64 x y 0 (by omega) (by omega) (by omega) (by omega)]
  simp only [Result.andThen, GrP.low, GrP.high]
  congr 5 <;> omega

/-! ### a digit -/
set_option maxHeartbeats 400000 in
theorem digit_any (c : Nat) (w : World) (h : c ≤ 255) :
    Calls Tryz.prog 106 #[.int .u8 (c : Int)] w fun e w' => e = .returned (.int .u64 ((GrP.digit c : Nat) : Int)) ∧ w = w' := by
  by_cases a1 : 48 ≤ c
  · by_cases a2 : c ≤ 57
    · have E : ((GrP.digit c : Nat) : Int) = (c : Int) - 48 := by rw [GrP.digit, if_pos ⟨a1, a2⟩]; omega
      rw [E]; clear E
      go_enter Tryz.func106, Tryz.ntmps106
      go_wp2
      go_ret
      exact ⟨rfl, rfl⟩
    · by_cases b1 : 97 ≤ c
      · by_cases b2 : c ≤ 102
        · have E : ((GrP.digit c : Nat) : Int) = (c : Int) - 97 + 10 := by rw [GrP.digit, if_neg (by omega), if_pos ⟨b1, b2⟩]; omega
          rw [E]; clear E
          go_enter Tryz.func106, Tryz.ntmps106
          go_wp2
          go_ret
          exact ⟨rfl, rfl⟩
        · have E : ((GrP.digit c : Nat) : Int) = 99 := by rw [GrP.digit, if_neg (by omega), if_neg (by omega), if_neg (by omega)]; rfl
          rw [E]; clear E
          go_enter Tryz.func106, Tryz.ntmps106
          go_wp2
          go_ret
          exact ⟨rfl, rfl⟩
      · by_cases d1 : 65 ≤ c
        · by_cases d2 : c ≤ 70
          · have E : ((GrP.digit c : Nat) : Int) = (c : Int) - 65 + 10 := by rw [GrP.digit, if_neg (by omega), if_neg (by omega), if_pos ⟨d1, d2⟩]; omega
            rw [E]; clear E
            go_enter Tryz.func106, Tryz.ntmps106
            go_wp2
            go_ret
            exact ⟨rfl, rfl⟩
          · have E : ((GrP.digit c : Nat) : Int) = 99 := by rw [GrP.digit, if_neg (by omega), if_neg (by omega), if_neg (by omega)]; rfl
            rw [E]; clear E
            go_enter Tryz.func106, Tryz.ntmps106
            go_wp2
            go_ret
            exact ⟨rfl, rfl⟩
        · have E : ((GrP.digit c : Nat) : Int) = 99 := by rw [GrP.digit, if_neg (by omega), if_neg (by omega), if_neg (by omega)]; rfl
          rw [E]; clear E
          go_enter Tryz.func106, Tryz.ntmps106
          go_wp2
          go_ret
          exact ⟨rfl, rfl⟩
  · have E : ((GrP.digit c : Nat) : Int) = 99 := by rw [GrP.digit, if_neg (by omega), if_neg (by omega), if_neg (by omega)]; rfl
    rw [E]; clear E
    go_enter Tryz.func106, Tryz.ntmps106
    go_wp2
    go_ret
    exact ⟨rfl, rfl⟩

end Go.Proofs.YtlpejfoeiaogcaaGreatDoor

namespace Go.Proofs.YtlpejfoeiaogcaaGreatDoor
open Go.RowKit

/-- behind the prefix: what is left of the text, and its base -/
def Mid (s : ByteArray) (w : World) (s0 s4 : Value) (wx : World) : Prop :=
  ∃ (u : ByteArray) (B : Nat), s0 = .string u ∧ s4 = .int .u64 (B : Int) ∧ 10 ≤ B ∧ B ≤ 16 ∧ u.size ≤ 9223372036854775807 ∧ GrP.parse s = GrP.body B u.data.toList ∧ Drew w wx

/-- the loop's relation -/
def Rel (u : ByteArray) (B : Nat) (v5 v6 v27 : Value) : Prop :=
  ∃ k : Nat, k ≤ u.size ∧ v27 = .int .i64 (k : Int) ∧ GrP.bad B (u.data.toList.take k) = false ∧ v5 = .int .u64 ((GrP.low (GrP.val B (u.data.toList.take k)) : Nat) : Int) ∧ v6 = .bool (decide (18446744073709551616 ≤ GrP.val B (u.data.toList.take k)))

theorem extract_le (s : ByteArray) (n : Nat) (h : s.size ≤ n) : (s.extract 2 s.size).size ≤ n := by
  rw [ByteArray.size_extract]; omega

theorem size_of_empty {u : ByteArray} : u.toList.isEmpty = true ↔ u.size = 0 := by
  rw [List.isEmpty_iff, ByteArray.toList_eq]
  constructor
  · intro h
    have := congrArg List.length h
    simpa using this
  · intro h
    apply List.eq_nil_of_length_eq_zero
    simpa using h
theorem nil_of {u : ByteArray} (h : u.toList.isEmpty = true) : u.data.toList = [] := by
  have := size_of_empty.1 h
  apply List.eq_nil_of_length_eq_zero
  simpa using this
theorem ne_nil_of {u : ByteArray} (h : u.toList.isEmpty = false) : u.data.toList ≠ [] := by
  intro h2
  have h3 : u.size = 0 := by
    have := congrArg List.length h2
    simpa using this
  have := size_of_empty.2 h3
  rw [h] at this
  cases this

theorem body_bad {u : ByteArray} {B k : Nat} (h : u.data.toList ≠ []) (hk : k < u.size) (hd : B ≤ GrP.digit u[k].toNat) : GrP.body B u.data.toList = (0, 20) := by
  rw [GrP.body, if_neg h, if_pos]
  unfold GrP.bad
  rw [List.any_eq_true]
  exact ⟨u[k], by simp [ByteArray.getElem_eq_getElem_data], by simpa using hd⟩
theorem bad_next {u : ByteArray} {B k : Nat} (hk : k < u.size) (h : GrP.bad B (u.data.toList.take k) = false) (hd : ¬ B ≤ GrP.digit u[k].toNat) : GrP.bad B (u.data.toList.take (k + 1)) = false := by
  rw [GrP.take_snoc u k hk, GrP.bad_snoc, h]
  simpa using hd
theorem low_next {u : ByteArray} {B k d : Nat} (hk : k < u.size) (hd : d = GrP.digit u[k].toNat) :
    GrP.low (GrP.low (GrP.low (GrP.val B (u.data.toList.take k)) * B) + d) = GrP.low (GrP.val B (u.data.toList.take (k + 1))) := by
  rw [GrP.take_snoc u k hk, GrP.val_snoc, GrP.step_low, hd]
theorem big_next {u : ByteArray} {B k d : Nat} (hk : k < u.size) (hd : d = GrP.digit u[k].toNat) (hB : 1 ≤ B) :
    (decide (18446744073709551616 ≤ GrP.val B (u.data.toList.take k)) || decide (0 < GrP.high (GrP.low (GrP.val B (u.data.toList.take k)) * B)) || decide (0 < GrP.high (GrP.low (GrP.low (GrP.val B (u.data.toList.take k)) * B) + d))) = decide (18446744073709551616 ≤ GrP.val B (u.data.toList.take (k + 1))) := by
  rw [GrP.take_snoc u k hk, GrP.val_snoc, ← hd]
  exact GrP.step_big _ _ _ hB _ rfl
theorem body_end {u s : ByteArray} {B k : Nat} (h : u.data.toList ≠ []) (hk : u.size ≤ k) (hb : GrP.bad B (u.data.toList.take k) = false) (hp : GrP.parse s = GrP.body B u.data.toList) :
    GrP.parse s = if 18446744073709551616 ≤ GrP.val B u.data.toList then (0, 21) else (GrP.val B u.data.toList, 0) := by
  rw [List.take_of_length_le (by simpa using hk)] at hb
  rw [hp, GrP.body, if_neg h, if_neg (by simp [hb])]

set_option maxHeartbeats 1600000 in
theorem parse_any (s : ByteArray) (w : World) (hs : s.size ≤ maxLen) :
    Calls Tryz.prog 77 #[.string s] w fun e w' => e = .returned (.tuple #[.int .u64 (((GrP.parse s).1 : Nat) : Int), .int .i64 (((GrP.parse s).2 : Nat) : Int)]) ∧ Drew w w' := by
  unfold maxLen at hs
  go_enter Tryz.func77, Tryz.ntmps77
  go_upto_region 2 with fail
  go_cut [20] (fun s20 wx => s20 = .bool (GrP.hexB s) ∧ w = wx)
  case first =>
    by_cases h2 : 2 ≤ s.size
    · by_cases hx : ((s.extract 0 2).toList == [48, 120]) = true
      · have E2 := Lib.hid (show GrP.hexB s = true by rw [GrP.hexB, decide_eq_true h2, hx]; rfl)
        go_wp2
        go_meet
        case rel => exact ⟨by rw [E2.out], rfl⟩
      · have hx' : ((s.extract 0 2).toList == [48, 120]) = false := by simpa using hx
        clear hx
        have E2 := Lib.hid (show GrP.hexB s = false by rw [GrP.hexB, hx']; simp)
        go_wp2
        go_meet
        case rel => exact ⟨by rw [E2.out], rfl⟩
    · have E2 := Lib.hid (show GrP.hexB s = false by rw [GrP.hexB, decide_eq_false h2]; simp)
      go_wp2
      go_meet
      case rel => exact ⟨by rw [E2.out], rfl⟩
  case rest =>
  obtain ⟨rfl, rfl⟩ := hcut
  go_upto_if 20 with fail
  go_cut [0, 4] (fun s0 s4 wx => Mid s w s0 s4 wx)
  case first =>
    by_cases hx : GrP.hexB s = true
    · have h2' : (2 : Int) ≤ s.size := by
        simp only [GrP.hexB, Bool.and_eq_true, decide_eq_true_eq] at hx
        omega
      have hl := Lib.hid (extract_le s 9223372036854775807 hs)
      have E2 := Lib.hid (show GrP.parse s = GrP.body 16 (s.extract 2 s.size).data.toList by rw [GrP.parse, if_pos hx])
      rw [hx]
      clear hx
      go_wp2_with fail
      go_quiet (fail)
      go_wp2
      go_meet
      case rel => exact ⟨_, 16, rfl, rfl, by omega, by omega, hl.out, E2.out, ⟨_, rfl⟩⟩
    · have hx' : GrP.hexB s = false := by simpa using hx
      clear hx
      have E2 := Lib.hid (show GrP.parse s = GrP.body 10 s.data.toList by rw [GrP.parse, if_neg (by simp [hx'])])
      rw [hx']
      clear hx'
      go_wp2
      go_meet
      case rel => exact ⟨_, 10, rfl, rfl, by omega, by omega, hs, E2.out, ⟨0, rfl⟩⟩
  case rest =>
    obtain ⟨u, B, rfl, rfl, hB1, hB2, hu, hE, hD⟩ := hcut
    have HE := Lib.hid hE
    have HD := Lib.hid hD
    clear hE hD
    by_cases he : u.toList.isEmpty = true
    · have E2 := Lib.hid (show GrP.parse s = (0, 20) by rw [HE.out, GrP.body, if_pos (nil_of he)])
      go_wp2
      go_ret2
      exact ⟨by rw [E2.out]; rfl, HD.out⟩
    · have he' : u.toList.isEmpty = false := by simpa using he
      have hne := Lib.hid (ne_nil_of he')
      clear he
      go_wp2_with fail
      go_loop [5, 6, 27] (fun v5 v6 v27 => Rel u B v5 v6 v27) (fun _ _ i => u.size - (intOf i).toNat)
      case atStart => exact ⟨0, by omega, rfl, rfl, rfl, rfl⟩
      case round =>
        obtain ⟨k, hk, rfl, hbad, rfl, rfl⟩ := hrel
        have HB := Lib.hid hbad
        clear hbad
        by_cases hlt : k < u.size
        · have hc : u[k].toNat ≤ 255 := by have := u[k].toNat_lt; omega
          have hadd := add_run
          have T := Lib.hid (GrP.take_snoc u k hlt)
          have hdl := GrP.digit_le u[k].toNat
          have hll := GrP.low_lt (GrP.val B (u.data.toList.take k))
          obtain ⟨d, hdd⟩ : ∃ d, d = GrP.digit u[k].toNat := ⟨_, rfl⟩
          rw [← hdd] at hdl
          have HDD := Lib.hid hdd
          clear hdd
          by_cases hd : B ≤ d
          · have E2 := Lib.hid (show GrP.parse s = (0, 20) by rw [HE.out]; exact body_bad hne.out hlt (by rw [← HDD.out]; exact hd))
            go_wp2_with fail
            refine (digit_any _ _ hc).mono ?_
            rintro e w' ⟨rfl, rfl⟩
            rw [← HDD.out]
            go_wp2
            go_ret2
            exact ⟨by rw [E2.out]; rfl, HD.out⟩
          · have N1 := Lib.hid (bad_next hlt HB.out (by rw [← HDD.out]; exact hd))
            have N2 := Lib.hid (low_next (B := B) hlt HDD.out)
            have N3 := Lib.hid (big_next (B := B) hlt HDD.out (by omega))
            generalize GrP.val B (u.data.toList.take k) = V at hll N2 N3 ⊢
            obtain ⟨b, hb⟩ : ∃ b, b = decide (18446744073709551616 ≤ V) := ⟨_, rfl⟩
            rw [← hb] at N3
            rw [← hb]
            clear hb
            generalize hlv : GrP.low V = X at hll N2 N3 ⊢
            clear hlv
            go_wp2_with fail
            refine (digit_any _ _ hc).mono ?_
            rintro e w' ⟨rfl, rfl⟩
            rw [← HDD.out]
            go_wp2_with fail
            refine (mul_any X B _ hll (by omega)).mono ?_
            rintro e w' ⟨rfl, rfl⟩
            clear hll
            generalize GrP.high (X * B) = Y at N3 ⊢
            generalize GrP.low (X * B) = Z at N2 N3 ⊢
            cases b with
            | true =>
              go_wp2
              go_round
              case rel => exact ⟨k + 1, by omega, by go_num, N1.out, by rw [N2.out], by rw [← N3.out]; simp⟩
              case measure => simp [intOf]; omega
            | false =>
              by_cases hy : 0 < Y
              · have hy' : (0 : Int) < (Y : Int) := by omega
                go_wp2
                go_round
                case rel => exact ⟨k + 1, by omega, by go_num, N1.out, by rw [N2.out], by rw [← N3.out]; simp [hy]⟩
                case measure => simp [intOf]; omega
              · have hy' : ¬ (0 : Int) < (Y : Int) := by omega
                go_wp2
                go_round
                case rel => exact ⟨k + 1, by omega, by go_num, N1.out, by rw [N2.out], by rw [← N3.out]; simp [hy]⟩
                case measure => simp [intOf]; omega
        · have E1 := Lib.hid (body_end hne.out (by omega) HB.out HE.out)
          rw [show u.data.toList.take k = u.data.toList by rw [List.take_of_length_le]; simp; omega]
          generalize GrP.val B u.data.toList = V at E1 ⊢
          by_cases hv : 18446744073709551616 ≤ V
          · rw [decide_eq_true hv]
            have E2 := Lib.hid (E1.out.trans (if_pos hv))
            clear hv
            go_wp2
            go_ret2
            exact ⟨by rw [E2.out]; rfl, HD.out⟩
          · rw [decide_eq_false hv, GrP.low, Nat.mod_eq_of_lt (by omega)]
            have E2 := Lib.hid (E1.out.trans (if_neg hv))
            clear hv
            go_wp2
            go_ret2
            exact ⟨by rw [E2.out]; rfl, HD.out⟩
end Go.Proofs.YtlpejfoeiaogcaaGreatDoor
