/-
  Layer 2: Parse of the page's own answers, walked.
-/
import Derived.Test.YtagbhhfflgikkaaDoorPv
set_option linter.unusedSimpArgs false
set_option linter.unusedVariables false
namespace Go.Proofs.YtagbhhfflgikkaaDoor
open Go.RowKit

theorem two_bytes {s : ByteArray} (h : s.size = 2) (hx : ((s.extract 0 2).toList == [48, 120]) = true) : GrP.parse s = GrP.body 10 s.data.toList := by
  have e1 : s.data.toList = [48, 120] := by
    have h2 := eq_of_beq hx
    rw [ByteArray.toList_eq] at h2
    have h3 : s.extract 0 2 = s := by
      rw [← h]; exact ByteArray.extract_zero_size
    rw [h3] at h2
    exact h2
  have e2 : (s.extract 2 s.size).data.toList = [] := by
    have : (s.extract 2 s.size).size = 0 := by rw [ByteArray.size_extract]; omega
    apply List.eq_nil_of_length_eq_zero
    simpa using this
  have e3 : GrP.hexB s = true := by rw [GrP.hexB, decide_eq_true (by omega), hx]; rfl
  rw [GrP.parse, if_pos e3, e2, e1]
  decide +kernel

theorem fold_le {B : Nat} (hB : 1 ≤ B) (m : List UInt8) : ∀ a : Nat, a ≤ m.foldl (fun a c => a * B + GrP.digit c.toNat) a := by
  induction m with
  | nil => intro a; exact Nat.le_refl _
  | cons c m ih =>
    intro a
    have h1 : a * 1 ≤ a * B := Nat.mul_le_mul_left _ hB
    have h2 : a ≤ a * B + GrP.digit c.toNat := by omega
    exact Nat.le_trans h2 (ih _)
theorem val_take_le {B : Nat} (hB : 1 ≤ B) (l : List UInt8) (k : Nat) : GrP.val B (l.take k) ≤ GrP.val B l := by
  have e : GrP.val B l = (l.drop k).foldl (fun a c => a * B + GrP.digit c.toNat) (GrP.val B (l.take k)) := by
    conv => lhs; rw [← List.take_append_drop k l]
    unfold GrP.val
    rw [List.foldl_append]
  rw [e]
  exact fold_le hB _ _

/-- the two halves, a digit more -/
theorem halves (V B d : Nat) (hV : V < 18446744073709551616) (hB : B ≤ 16) (hd : d ≤ 99) :
    V % 4294967296 * B + d < 18446744073709551616 ∧ V / 4294967296 * B + (V % 4294967296 * B + d) / 4294967296 < 18446744073709551616 ∧
    (V * B + d) / 4294967296 = V / 4294967296 * B + (V % 4294967296 * B + d) / 4294967296 ∧ (V * B + d) % 4294967296 = (V % 4294967296 * B + d) % 4294967296 := by
  have e : V * B = V / 4294967296 * B * 4294967296 + V % 4294967296 * B := by
    conv => lhs; rw [← Nat.div_add_mod V 4294967296]
    rw [Nat.add_mul, Nat.mul_comm 4294967296, Nat.mul_right_comm]
  have h1 : V % 4294967296 * B ≤ 4294967295 * 16 := Nat.mul_le_mul (by omega) hB
  have h2 : V / 4294967296 * B ≤ 4294967295 * 16 := Nat.mul_le_mul (by omega) hB
  rw [e]
  generalize V / 4294967296 * B = p at *
  generalize V % 4294967296 * B = q at *
  omega

/-- behind the prefix: what is left of the text, and its base (an int here) -/
def RMid (s : ByteArray) (s0 s4 : Value) : Prop :=
  ∃ (u : ByteArray) (B : Nat), s0 = .string u ∧ s4 = .int .i64 (B : Int) ∧ 10 ≤ B ∧ B ≤ 16 ∧ u.size ≤ 9223372036854775807 ∧ GrP.parse s = GrP.body B u.data.toList

def RRel (u : ByteArray) (B : Nat) (v6 v7 v8 : Value) : Prop :=
  ∃ k V : Nat, k ≤ u.size ∧ v8 = .int .i64 (k : Int) ∧ V = GrP.val B (u.data.toList.take k) ∧ V < 18446744073709551616 ∧ v6 = .int .u64 ((V / 4294967296 : Nat) : Int) ∧ v7 = .int .u64 ((V % 4294967296 : Nat) : Int)

def longB (s : ByteArray) : Bool := decide (2 < s.size) && ((s.extract 0 2).toList == [48, 120])

theorem ret_two {a b c d : Int} (h : a = c) (k : b = d) : Ending.returned (.tuple #[.int .u64 a, .int .i64 b]) = .returned (.tuple #[.int .u64 c, .int .i64 d]) := by rw [h, k]

set_option maxHeartbeats 1600000 in
theorem rparse_any (s : ByteArray) (w : World) (hs : s.size ≤ maxLen) :
    Calls Tryd.prog 27 #[.string s] w fun e w' => e = .returned (.tuple #[.int .u64 (((GrP.parse s).1 : Nat) : Int), .int .i64 (((GrP.parse s).2 : Nat) : Int)]) ∧ w = w' := by
  unfold maxLen at hs
  go_enter Tryd.func27, Tryd.ntmps27
  go_upto_region 2 with fail
  go_cut [16] (fun s16 wx => s16 = .bool (longB s) ∧ w = wx)
  case first =>
    by_cases h2 : 2 < s.size
    · by_cases hx : ((s.extract 0 2).toList == [48, 120]) = true
      · have E2 := Lib.hid (show longB s = true by rw [longB, decide_eq_true h2, hx]; rfl)
        go_wp2
        go_meet
        case rel => exact ⟨by rw [E2.out], rfl⟩
      · have hx' : ((s.extract 0 2).toList == [48, 120]) = false := by simpa using hx
        clear hx
        have E2 := Lib.hid (show longB s = false by rw [longB, hx']; simp)
        go_wp2
        go_meet
        case rel => exact ⟨by rw [E2.out], rfl⟩
    · have E2 := Lib.hid (show longB s = false by rw [longB, decide_eq_false h2]; simp)
      go_wp2
      go_meet
      case rel => exact ⟨by rw [E2.out], rfl⟩
  case rest =>
  obtain ⟨rfl, rfl⟩ := hcut
  go_upto_if 16 with fail
  go_cut [0, 4] (fun s0 s4 wx => RMid s s0 s4 ∧ w = wx)
  case first =>
    by_cases hx : longB s = true
    · have h2 : 2 < s.size := by
        simp only [longB, Bool.and_eq_true, decide_eq_true_eq] at hx
        exact hx.1
      have hl := Lib.hid (extract_le s 9223372036854775807 hs)
      have E2 := Lib.hid (show GrP.parse s = GrP.body 16 (s.extract 2 s.size).data.toList by
        simp only [longB, Bool.and_eq_true, decide_eq_true_eq] at hx
        rw [GrP.parse, if_pos]
        rw [GrP.hexB, decide_eq_true (by omega), hx.2]; rfl)
      have h2' : (2 : Int) ≤ s.size := by omega
      rw [hx]
      clear hx
      go_wp2
      go_meet
      case rel => exact ⟨⟨_, 16, rfl, rfl, by omega, by omega, hl.out, E2.out⟩, rfl⟩
    · have hx' : longB s = false := by simpa using hx
      clear hx
      have E2 := Lib.hid (show GrP.parse s = GrP.body 10 s.data.toList by
        by_cases h2 : s.size = 2
        · by_cases hy : ((s.extract 0 2).toList == [48, 120]) = true
          · exact two_bytes h2 hy
          · rw [GrP.parse, if_neg]
            rw [GrP.hexB]; simp only [Bool.not_eq_true] at hy; rw [hy]; simp
        · rw [GrP.parse, if_neg]
          intro h3
          simp only [GrP.hexB, Bool.and_eq_true, decide_eq_true_eq] at h3
          rw [longB, decide_eq_true (by omega), h3.2] at hx'
          cases hx')
      rw [hx']
      clear hx'
      go_wp2
      go_meet
      case rel => exact ⟨⟨_, 10, rfl, rfl, by omega, by omega, hs, E2.out⟩, rfl⟩
  case rest =>
    obtain ⟨⟨u, B, rfl, rfl, hB1, hB2, hu, hE⟩, rfl⟩ := hcut
    have HE := Lib.hid hE
    clear hE
    by_cases he : u.size = 0
    · have E2 := Lib.hid (show GrP.parse s = (0, 20) by rw [HE.out, GrP.body, if_pos (nil_of (size_of_empty.2 he))])
      have he' : ((u.size : Int) == 0) = true := by simp [he]
      clear he
      go_wp2
      go_ret2
      exact ⟨by rw [E2.out]; rfl, rfl⟩
    · have he' : ((u.size : Int) == 0) = false := by simp [he]
      have hne := Lib.hid (show u.data.toList ≠ [] by intro h; apply he; have := congrArg List.length h; simpa using this)
      clear he
      go_wp2_with fail
      go_loop [5] (fun v5 => ∃ k : Nat, k ≤ u.size ∧ v5 = .int .i64 (k : Int) ∧ Hid (GrP.bad B (u.data.toList.take k) = false)) (fun i => u.size - (intOf i).toNat)
      case atStart => exact ⟨0, by omega, rfl, rfl⟩
      case round =>
        obtain ⟨k, hk, rfl, hbad⟩ := hrel
        by_cases hlt : k < u.size
        · have hc : u[k].toNat ≤ 255 := by have := u[k].toNat_lt; omega
          obtain ⟨d, hdd⟩ : ∃ d, d = GrP.digit u[k].toNat := ⟨_, rfl⟩
          have hdl := GrP.digit_le u[k].toNat
          rw [← hdd] at hdl
          have HDD := Lib.hid hdd
          clear hdd
          by_cases hd : B ≤ d
          · have E2 := Lib.hid (show GrP.parse s = (0, 20) by rw [HE.out]; exact body_bad hne.out hlt (by rw [← HDD.out]; exact hd))
            go_wp2_with fail
            refine (value_any _ _ hc).mono ?_
            rintro e w' ⟨rfl, rfl⟩
            rw [← HDD.out]
            go_wp2
            go_ret2
            exact ⟨by rw [E2.out]; rfl, rfl⟩
          · have N1 := Lib.hid (bad_next hlt hbad.out (by rw [← HDD.out]; exact hd))
            clear hbad
            go_wp2_with fail
            refine (value_any _ _ hc).mono ?_
            rintro e w' ⟨rfl, rfl⟩
            rw [← HDD.out]
            go_wp2
            go_round
            case rel => exact ⟨k + 1, by omega, by go_num, N1⟩
            case measure => simp [intOf]; omega
        · have E1 := Lib.hid (body_end hne.out (by omega) hbad.out HE.out)
          have hks : k = u.size := by omega
          subst hks
          clear hbad hlt
          go_wp2_with fail
          go_loop [6, 7, 8] (fun v6 v7 v8 => RRel u B v6 v7 v8) (fun _ _ i => u.size - (intOf i).toNat)
          case atStart => exact ⟨0, 0, by omega, rfl, rfl, by decide, rfl, rfl⟩
          case round =>
            obtain ⟨k, V, hk, rfl, hV, hVlt, rfl, rfl⟩ := hrel
            by_cases hlt : k < u.size
            · have hc : u[k].toNat ≤ 255 := by have := u[k].toNat_lt; omega
              obtain ⟨d, hdd⟩ : ∃ d, d = GrP.digit u[k].toNat := ⟨_, rfl⟩
              have hdl := GrP.digit_le u[k].toNat
              rw [← hdd] at hdl
              have NV := Lib.hid (show GrP.val B (u.data.toList.take (k + 1)) = V * B + d by rw [GrP.take_snoc u k hlt, GrP.val_snoc, ← hV, hdd])
              have LE := Lib.hid (val_take_le (show 1 ≤ B by omega) u.data.toList (k + 1))
              have HQ := Lib.hid (halves V B d hVlt hB2 hdl)
              have HDD := Lib.hid hdd
              clear hdd hV
              obtain ⟨X, hX⟩ : ∃ X : Nat, X = V / 4294967296 := ⟨_, rfl⟩
              obtain ⟨Y, hY⟩ : ∃ Y : Nat, Y = V % 4294967296 := ⟨_, rfl⟩
              have hx1 : X ≤ 4294967295 := by omega
              have hy1 : Y ≤ 4294967295 := by omega
              rw [← hX, ← hY] at HQ
              rw [← hX, ← hY]
              clear hX hY hVlt
              obtain ⟨p, hp⟩ : ∃ p : Nat, p = Y * B := ⟨_, rfl⟩
              obtain ⟨q, hq⟩ : ∃ q : Nat, q = X * B := ⟨_, rfl⟩
              have hp1 : p ≤ 68719476720 := by rw [hp]; exact Nat.mul_le_mul hy1 hB2
              have hq1 : q ≤ 68719476720 := by rw [hq]; exact Nat.mul_le_mul hx1 hB2
              have ep : IntKind.u64.wrap ((Y : Int) * (B : Int)) = (p : Int) := by
                rw [IntKind.wrap_u64, ← Int.natCast_mul, ← hp]; omega
              have eq : IntKind.u64.wrap ((X : Int) * (B : Int)) = (q : Int) := by
                rw [IntKind.wrap_u64, ← Int.natCast_mul, ← hq]; omega
              rw [← hp, ← hq] at HQ
              clear hp hq
              go_wp2_with fail
              refine (value_any _ _ hc).mono ?_
              rintro e w' ⟨rfl, rfl⟩
              rw [← HDD.out]
              go_upto_region 19 with fail
              obtain ⟨r, hr⟩ : ∃ r : Nat, r = (p + d) / 4294967296 := ⟨_, rfl⟩
              obtain ⟨t, ht⟩ : ∃ t : Nat, t = (p + d) % 4294967296 := ⟨_, rfl⟩
              rw [show ((p : Int) + (d : Int)) / 4294967296 = (r : Int) by omega, show ((p : Int) + (d : Int)) % 4294967296 = (t : Int) by omega]
              rw [← hr, ← ht] at HQ
              have hr1 : r ≤ 17 := by omega
              clear hr ht ep eq hp1
              rw [show (q : Int) + (r : Int) = ((q + r : Nat) : Int) by omega]
              obtain ⟨z, hz⟩ : ∃ z : Nat, z = q + r := ⟨_, rfl⟩
              have hz1 : z ≤ 68719476740 := by omega
              rw [← hz]
              rw [← hz] at HQ
              clear hz hr1 hq1 hx1 hy1
              by_cases ho : 4294967296 ≤ z
              · have E2 := Lib.hid (show GrP.parse s = (0, 21) by
                  rw [E1.out, if_pos]
                  have h1 := LE.out
                  rw [NV.out] at h1
                  have h2 := HQ.out.2.2.1
                  omega)
                have ho' : (4294967296 : Int) ≤ (z : Int) := by omega
                clear hz1 ho
                go_wp2
                go_ret2
                exact ⟨by rw [E2.out]; rfl, rfl⟩
              · have ho' : ¬ (4294967296 : Int) ≤ (z : Int) := by omega
                have NN := Lib.hid (show V * B + d < 18446744073709551616 ∧ (V * B + d) / 4294967296 = z ∧ (V * B + d) % 4294967296 = t by
                  obtain ⟨_, _, h3, h4⟩ := HQ.out
                  refine ⟨by omega, h3, h4⟩)
                clear hz1 ho
                go_wp2
                go_round
                case rel => exact ⟨k + 1, V * B + d, by omega, by go_num, NV.out.symm, NN.out.1, by rw [NN.out.2.1], by rw [NN.out.2.2]⟩
                case measure => simp [intOf]; omega
            · have hks : k = u.size := by omega
              rw [hks] at hV
              rw [List.take_of_length_le (by simp)] at hV
              have E2 := Lib.hid (show GrP.parse s = (V, 0) by rw [E1.out, ← hV, if_neg (by omega)])
              have HS := Lib.hid (Nat.div_add_mod V 4294967296)
              obtain ⟨X, hX⟩ : ∃ X : Nat, X = V / 4294967296 := ⟨_, rfl⟩
              obtain ⟨Y, hY⟩ : ∃ Y : Nat, Y = V % 4294967296 := ⟨_, rfl⟩
              have hx1 : X ≤ 4294967295 := by omega
              have hy1 : Y ≤ 4294967295 := by omega
              rw [← hX, ← hY] at HS
              rw [← hX, ← hY]
              clear hX hY hVlt hV hks
              go_wp2
              go_ret2
              refine ⟨?_, rfl⟩
              rw [E2.out, ← HS.out]
              exact ret_two (by omega) rfl
end Go.Proofs.YtagbhhfflgikkaaDoor
