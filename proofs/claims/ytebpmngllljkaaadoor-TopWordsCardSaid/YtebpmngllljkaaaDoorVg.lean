/-
  Layer 4, the walks: NumberOf; a text's words, the code's.
  Layer 4, the walks: where a branch leads and the cell of an access, as texts; CutPrefix.
-/
import Derived.Test.YtebpmngllljkaaaDoorVb
import Derived.Test.YtebpmngllljkaaaDoorSl
import Derived.Deep.AppendLies
import Derived.LoopTactic
import Derived.Laws.AppendOwn
import Derived.Shelf.Small.Wraps
set_option linter.unusedSimpArgs false
set_option linter.unusedVariables false
namespace Go.Proofs.YtebpmngllljkaaaDoor
open Go.RowKit GrP GrA

theorem str_eq {a b : Tx} : (strL a).toList = (strL b).toList ↔ a = b := by rw [strL_toList, strL_toList]

set_option maxRecDepth 100000 in
set_option maxHeartbeats 1600000 in
theorem numberOf_any (s : Tx) (w : World) (ht : TB w) : Calls Tryd.prog 16 #[.string (strL s)] w fun e w' => e = .returned (.tuple #[.int .i64 (((numberOf s).getD 0 : Nat) : Int), .bool (numberOf s).isSome]) ∧ Below w.heap.size w w' := by
  have TH := Lib.hid ht
  clear ht
  go_enter Tryd.func16, Tryd.ntmps16
  go_wp2_with fail
  go_loopw [4, 5] (fun _ i wr => ∃ k : Nat, k ≤ 32 ∧ i = .int .i64 (k : Int) ∧ (∀ m : Nat, m < k → ¬ reg m = s) ∧ Below w.heap.size w wr) (fun _ i _ => 32 - (intOf i).toNat)
  case atStart => exact ⟨0, by omega, rfl, fun m h => absurd h (by omega), Below.refl _ _⟩
  case round =>
    obtain ⟨k, hk, rfl, hno, hbel⟩ := hrel
    have NO := Lib.hid hno
    have KB1 := Lib.hid hbel
    have k0 : (0 : Int) ≤ (k : Int) := by omega
    have k1 : (k : Int) ≤ 32 := by omega
    by_cases c : k < 32
    · have RG := Lib.hid (reg_any (k : Int) wr (TH.out.below KB1.out) (by omega) (by omega))
      have c2 : decide ((k : Int) < 32) = true := by simp; omega
      obtain ⟨r, hr⟩ : ∃ r, r = reg (k : Int) := ⟨_, rfl⟩
      rw [← hr] at RG
      by_cases e : r = s
      · have EN := Lib.hid (numberOf_some c (by rw [← hr]; exact e) hno)
        clear hno hbel hr hk c
        subst e
        go_wp2_with fail
        refine RG.out.mono ?_
        rintro e w2 ⟨rfl, hb⟩
        have K2 := Lib.hid (KB1.out.trans (hb.mono KB1.out.size))
        clear hb
        go_wp2
        exact bodyPost_ret (v := .tuple #[.int .i64 (k : Int), .bool true]) (by simp [results, Tryd.results16, go_sem, *]) rfl ⟨by rw [EN.out]; rfl, K2.out⟩
      · have NE : ((strL r).toList == (strL s).toList) = false := by rw [beq_eq_false_iff_ne, ne_eq, str_eq]; exact e
        have N2 := Lib.hid (show ∀ m : Nat, m < k + 1 → ¬ reg m = s from fun m hm => by
          by_cases h : m < k
          · exact hno m h
          · rw [show m = k by omega, ← hr]; exact e)
        clear hno hbel hr hk e
        go_wp2_with fail
        refine RG.out.mono ?_
        rintro e w2 ⟨rfl, hb⟩
        have K2 := Lib.hid (KB1.out.trans (hb.mono KB1.out.size))
        clear hb
        go_wp2
        go_roundw
        case rel => exact ⟨k + 1, by omega, by go_num, N2.out, K2.out⟩
        case measure => simp [intOf]; omega
    · obtain rfl : k = 32 := by omega
      have EN := Lib.hid (numberOf_none hno)
      clear hno hbel hk c
      go_wp2
      exact bodyPost_ret (v := .tuple #[.int .i64 0, .bool false]) (by simp [results, Tryd.results16, go_sem, *]) rfl ⟨by rw [EN.out]; rfl, KB1.out⟩
end Go.Proofs.YtebpmngllljkaaaDoor

namespace Go.Proofs
def Tryd.laysC_ren : Go.Shelf.Ren := ⟨fun | 103 => 62 | 210 => 68 | 206 => 81 | n => n, fun | 9 => 9 | 4 => 4 | 24 => 83 | 3 => 3 | n => n, fun | n => n⟩
theorem Tryd.laysC : Go.Proofs.Lays.n103 Tryd.prog Tryd.laysC_ren := {
  mixed := by kernel_rfl
  f103 := Tryd.func62.trans (congrArg some (by kernel_rfl))
  f206 := Tryd.func81.trans (congrArg some (by kernel_rfl))
  f210 := Tryd.func68.trans (congrArg some (by kernel_rfl))
  t3 := Tryd.underlying3
  a3 := Tryd.isAgg3
  z3 := Tryd.sizeOf3
  v3 := Tryd.zeroValue3
  t4 := Tryd.underlying4
  a4 := Tryd.isAgg4
  z4 := Tryd.sizeOf4
  v4 := Tryd.zeroValue4
  t9 := Tryd.underlying9
  a9 := Tryd.isAgg9
  z9 := Tryd.sizeOf9
  v9 := Tryd.zeroValue9
  t24 := Tryd.underlying83
  a24 := Tryd.isAgg83
  z24 := Tryd.sizeOf83
  v24 := Tryd.zeroValue83 }
end Go.Proofs

namespace GrA
theorem itoa_len64 {n : Int} (h0 : -9223372036854775808 ≤ n) (h1 : n ≤ 9223372036854775807) : (Go.Lib.itoa n).length ≤ 65 := by
  have := GrP.digs_len64 (b := 10) (by omega) n.natAbs (by omega)
  rw [GrP.strL_size, GrP.digs_dec] at this
  rw [Go.Lib.itoa]
  split
  · simp; omega
  · rw [show n.toNat = n.natAbs by omega]; omega
theorem reg_len (n : Int) : (reg n).length ≤ 65 := by
  by_cases h : 0 ≤ n ∧ n < 31
  · rw [reg_lt h]
    have := itoa_len h
    simp; omega
  · rw [reg, if_neg h]
    split <;> simp
end GrA
namespace Go.Proofs.YtebpmngllljkaaaDoor
open Go.RowKit GrP GrA Go.Shelf

theorem cut_any (a p : Tx) (w : World) : Calls Tryd.prog 62 #[.string (strL a), .string (strL p)] w fun e w' => e = .returned (.tuple #[.string (strL (Lib.trimPrefix a p)), .bool (Lib.hasPrefix a p)]) ∧ w = w' :=
  (Any.strings_CutPrefix Tryd.laysC (strL a) (strL p) w).mono fun _ _ h => ⟨h.1, h.2.symm⟩

set_option maxRecDepth 100000 in
set_option maxHeartbeats 1600000 in
theorem to_any (n : Int) (w : World) (ht : TB w) (h0 : -9223372036854775808 ≤ n) (h1 : n ≤ 9223372036854775807) : Calls Tryd.prog 25 #[.int .i64 n] w fun e w' => e = .returned (.string (strL (toT n))) ∧ Below w.heap.size w w' := by
  have FI := Lib.hid (int_any n w h0 h1 ht)
  have LN := itoa_len64 h0 h1
  by_cases c : n < 0
  · have SA := Lib.hid (show strL [46] ++ intS n = strL (toT n) by rw [toT, if_pos c, intS, strL_app]; rfl)
    have NS : ¬ 9223372036854775807 < 1 + (intS n).size := by rw [intS, strL_size]; omega
    clear ht h0 h1 LN
    go_enter Tryd.func25, Tryd.ntmps25
    go_wp2_with fail
    refine FI.out.mono ?_
    rintro e w2 ⟨rfl, hb⟩
    have K2 := Lib.hid hb
    clear hb
    go_wp2
    go_ret
    first
      | exact ⟨(by rw [← SA.out]; rfl), K2.out⟩
      | exact ⟨rfl, K2.out⟩
  · have SA := Lib.hid (show strL [46, 43] ++ intS n = strL (toT n) by rw [toT, if_neg c, intS, strL_app]; rfl)
    have NS : ¬ 9223372036854775807 < 2 + (intS n).size := by rw [intS, strL_size]; omega
    clear ht h0 h1 LN
    go_enter Tryd.func25, Tryd.ntmps25
    go_wp2_with fail
    refine FI.out.mono ?_
    rintro e w2 ⟨rfl, hb⟩
    have K2 := Lib.hid hb
    clear hb
    go_wp2
    go_ret
    first
      | exact ⟨(by rw [← SA.out]; rfl), K2.out⟩
      | exact ⟨rfl, K2.out⟩

set_option maxRecDepth 100000 in
set_option maxHeartbeats 1600000 in
theorem at_any (r n : Int) (w : World) (ht : TB w) (g0 : -9223372036854775808 ≤ r) (g1 : r ≤ 9223372036854775807) (h0 : -9223372036854775808 ≤ n) (h1 : n ≤ 9223372036854775807) : Calls Tryd.prog 22 #[.int .i64 r, .int .i64 n] w fun e w' => e = .returned (.string (strL (cellT r n))) ∧ Below w.heap.size w w' := by
  have RG := Lib.hid (reg_any r w ht g0 g1)
  have LR := reg_len r
  by_cases c : n = 0
  · subst c
    have S1 := Lib.hid (show strL [91] ++ strL (reg r) = strL (91 :: reg r) by rw [strL_app]; rfl)
    have S2 := Lib.hid (show strL (91 :: reg r) ++ strL [93] = strL (cellT r 0) by rw [cellT, if_pos rfl, strL_app]; first | done | rfl)
    obtain ⟨m, hm⟩ : ∃ m, m = (strL (reg r)).size := ⟨_, rfl⟩
    have z1 : (strL (reg r)).size = m := hm.symm
    have m1 : m ≤ 65 := by rw [hm, strL_size]; exact LR
    have N1 : ¬ 9223372036854775807 < 1 + m := by omega
    have N2 : ¬ 9223372036854775807 < 1 + m + 1 := by omega
    clear hm
    clear ht g0 g1 LR h0 h1
    go_enter Tryd.func22, Tryd.ntmps22
    go_wp2_with fail
    refine RG.out.mono ?_
    rintro e w2 ⟨rfl, hb⟩
    have K2 := Lib.hid hb
    clear hb
    go_wp2
    go_ret
    exact ⟨(by rw [← S2.out, ← S1.out]; rfl), K2.out⟩
  · have IN := Lib.hid (fun w2 h => int_any n w2 h0 h1 (ht.below h))
    have LN := itoa_len64 h0 h1
    have S1 := Lib.hid (show strL [91] ++ strL (reg r) ++ strL [44, 35] ++ intS n ++ strL [93] = strL (cellT r n) by rw [cellT, if_neg c, intS, strL_app, strL_app, strL_app, strL_app]; congr 1; simp [num])
    obtain ⟨m, hm⟩ : ∃ m, m = (strL (reg r)).size := ⟨_, rfl⟩
    obtain ⟨k, hk⟩ : ∃ k, k = (intS n).size := ⟨_, rfl⟩
    have z1 : (strL (reg r)).size = m := hm.symm
    have z2 : (intS n).size = k := hk.symm
    have m1 : m ≤ 65 := by rw [hm, strL_size]; exact LR
    have k1 : k ≤ 65 := by rw [hk, intS, strL_size]; exact LN
    have N1 : ¬ 9223372036854775807 < 1 + m := by omega
    have N2 : ¬ 9223372036854775807 < 1 + m + 2 := by omega
    have N3 : ¬ 9223372036854775807 < 1 + m + 2 + k := by omega
    have N4 : ¬ 9223372036854775807 < 1 + m + 2 + k + 1 := by omega
    clear hm hk
    have c2 : (n == 0) = false := by simpa using c
    clear ht g0 g1 LR LN h0 h1
    go_enter Tryd.func22, Tryd.ntmps22
    go_wp2_with fail
    refine RG.out.mono ?_
    rintro e w2 ⟨rfl, hb⟩
    have K2 := Lib.hid hb
    have IN := Lib.hid (IN.out w2 hb)
    clear hb
    go_wp2_with fail
    refine IN.out.mono ?_
    rintro e w3 ⟨rfl, hb⟩
    have K3 := Lib.hid (K2.out.trans (hb.mono K2.out.size))
    clear hb
    go_wp2
    go_ret
    exact ⟨(by rw [← S1.out]; rfl), K3.out⟩
end Go.Proofs.YtebpmngllljkaaaDoor
