/-
  Layer 4, the walks: NumberOf; a text's words, the code's.
  Layer 4, the walks: where a branch leads and the cell of an access, as texts; CutPrefix.
-/
import Derived.Test.YtgpngjgilcbigaaDoorVb
import Derived.Test.YtgpngjgilcbigaaDoorSl
import Derived.Deep.AppendLies
import Derived.LoopTactic
import Derived.Laws.AppendOwn
import Derived.Shelf.Small.Wraps
set_option linter.unusedSimpArgs false
set_option linter.unusedVariables false
namespace Go.Proofs.YtgpngjgilcbigaaDoor
open Go.RowKit GrP GrA

theorem str_eq {a b : Tx} : (strL a).toList = (strL b).toList ↔ a = b := by rw [strL_toList, strL_toList]

set_option maxRecDepth 100000 in
set_option maxHeartbeats 1600000 in
theorem numberOf_any (s : Tx) (w : World) (ht : TB w) : Calls Tryd.prog 88 #[.string (strL s)] w fun e w' => e = .returned (.tuple #[.int .i64 (((numberOf s).getD 0 : Nat) : Int), .bool (numberOf s).isSome]) ∧ Below w.heap.size w w' := by
  have TH := Lib.hid ht
  clear ht
  go_enter Tryd.func88, Tryd.ntmps88
  go_wp2_with fail
  go_loopw [4, 5] (fun _ i wr => ∃ k : Nat, k ≤ 32 ∧ i = .int .i64 (k : Int) ∧ (∀ m : Nat, m < k → ¬ reg m = s) ∧ Below w.heap.size w wr) (fun _ i _ => 32 - (intOf i).toNat)
  case atStart => exact ⟨0, by omega, rfl, fun m h => absurd h (by omega), Below.refl _ _⟩
  case round =>
    obtain ⟨k, hk, rfl, hno, hbel⟩ := hrel
    have NO := Lib.hid hno
    have KB1 := Lib.hid hbel
    have k0 : (0 : Int) ≤ (k : Int) := by omega
    have k1 : (k : Int) ≤ 32 := by omega
    by_cases c : k < 32
    · have RG := Lib.hid (reg_any (k : Int) wr (TH.out.below KB1.out) (by omega) (by omega))
      have c2 : decide ((k : Int) < 32) = true := by simp; omega
      obtain ⟨r, hr⟩ : ∃ r, r = reg (k : Int) := ⟨_, rfl⟩
      rw [← hr] at RG
      by_cases e : r = s
      · have EN := Lib.hid (numberOf_some c (by rw [← hr]; exact e) hno)
        clear hno hbel hr hk c
        subst e
        go_wp2_with fail
        refine RG.out.mono ?_
        rintro e w2 ⟨rfl, hb⟩
        have K2 := Lib.hid (KB1.out.trans (hb.mono KB1.out.size))
        clear hb
        go_wp2
        exact bodyPost_ret (v := .tuple #[.int .i64 (k : Int), .bool true]) (by simp [results, Tryd.results88, go_sem, *]) rfl ⟨by rw [EN.out]; rfl, K2.out⟩
      · have NE : ((strL r).toList == (strL s).toList) = false := by rw [beq_eq_false_iff_ne, ne_eq, str_eq]; exact e
        have N2 := Lib.hid (show ∀ m : Nat, m < k + 1 → ¬ reg m = s from fun m hm => by
          by_cases h : m < k
          · exact hno m h
          · rw [show m = k by omega, ← hr]; exact e)
        clear hno hbel hr hk e
        go_wp2_with fail
        refine RG.out.mono ?_
        rintro e w2 ⟨rfl, hb⟩
        have K2 := Lib.hid (KB1.out.trans (hb.mono KB1.out.size))
        clear hb
        go_wp2
        go_roundw
        case rel => exact ⟨k + 1, by omega, by go_num, N2.out, K2.out⟩
        case measure => simp [intOf]; omega
    · obtain rfl : k = 32 := by omega
      have EN := Lib.hid (numberOf_none hno)
      clear hno hbel hk c
      go_wp2
      exact bodyPost_ret (v := .tuple #[.int .i64 0, .bool false]) (by simp [results, Tryd.results88, go_sem, *]) rfl ⟨by rw [EN.out]; rfl, KB1.out⟩
end Go.Proofs.YtgpngjgilcbigaaDoor

namespace Go.Proofs
end Go.Proofs

namespace GrA
theorem itoa_len64 {n : Int} (h0 : -9223372036854775808 ≤ n) (h1 : n ≤ 9223372036854775807) : (Go.Lib.itoa n).length ≤ 65 := by
  have := GrP.digs_len64 (b := 10) (by omega) n.natAbs (by omega)
  rw [GrP.strL_size, GrP.digs_dec] at this
  rw [Go.Lib.itoa]
  split
  · simp; omega
  · rw [show n.toNat = n.natAbs by omega]; omega
theorem reg_len (n : Int) : (reg n).length ≤ 65 := by
  by_cases h : 0 ≤ n ∧ n < 31
  · rw [reg_lt h]
    have := itoa_len h
    simp; omega
  · rw [reg, if_neg h]
    split <;> simp
end GrA
namespace Go.Proofs.YtgpngjgilcbigaaDoor
open Go.RowKit GrP GrA Go.Shelf

end Go.Proofs.YtgpngjgilcbigaaDoor