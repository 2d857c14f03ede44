/-
  Layer 4, the laws: AsmRegs.
-/
import Derived.Test.YtebpmngllljkaaaDoorV6
set_option linter.unusedSimpArgs false
set_option linter.unusedVariables false
namespace GrA
theorem reg_find {j : Nat} (h : j < 32) {s : Tx} (e : reg (j : Int) = s) : numberOf s = some j := by
  have := (regs_all ⟨j, h⟩).2.2.1
  simp only at this
  rw [← e]
  exact this
def WantIs (s : Tx) (k : Nat) (w : Int) : Prop := (w = -1 ∧ ∀ j : Nat, j < k → ¬ reg (j : Int) = s) ∨ (∃ j : Nat, j < k ∧ w = (j : Int) ∧ reg (j : Int) = s)
theorem WantIs.start (s : Tx) : WantIs s 0 (-1) := .inl ⟨rfl, fun j h => absurd h (by omega)⟩
theorem WantIs.hit {s : Tx} {k : Nat} {w : Int} (_ : WantIs s k w) (e : reg (k : Int) = s) : WantIs s (k + 1) (k : Int) := .inr ⟨k, by omega, rfl, e⟩
theorem WantIs.miss {s : Tx} {k : Nat} {w : Int} (h : WantIs s k w) (e : ¬ reg (k : Int) = s) : WantIs s (k + 1) w := by
  rcases h with ⟨h1, h2⟩ | ⟨j, h1, h2, h3⟩
  · refine .inl ⟨h1, fun j hj => ?_⟩
    by_cases c : j = k
    · rw [c]; exact e
    · exact h2 j (by omega)
  · exact .inr ⟨j, by omega, h2, h3⟩
end GrA
namespace Go.Proofs.YtebpmngllljkaaaDoor
open Go.RowKit GrP GrA

set_option maxRecDepth 100000 in
set_option maxHeartbeats 6400000 in
theorem asmRegs_walk (n : Int) (b : ByteArray) (w : World) (ht : Tab w) (h0 : -9223372036854775808 ≤ n) (h1 : n ≤ 9223372036854775807) : Calls Tryd.prog 6 #[.int .i64 n, .string b] w fun e w' => e = .returned (.bool true) ∧ Below w.heap.size w w' := by
  obtain ⟨s, rfl⟩ : ∃ s : Tx, b = strL s := ⟨b.data.toList, rfl⟩
  have TH := Lib.hid ht
  have NO := Lib.hid (fun w2 (t2 : Tab w2) => numberOf_any s w2 t2.tb)
  have R1 := Lib.hid (fun w2 (t2 : Tab w2) => reg_any n w2 t2.tb h0 h1)
  have R2 := Lib.hid (fun w2 => rreg_any n w2 h0 h1)
  obtain ⟨rn, hrn⟩ : ∃ r, r = reg n := ⟨_, rfl⟩
  rw [← hrn] at R1 R2
  obtain ⟨N, hN⟩ : ∃ N, N = numberOf s := ⟨_, rfl⟩
  rw [← hN] at NO
  have HN := Lib.hid hN
  clear ht hrn hN h0 h1
  go_enter Tryd.func6, Tryd.ntmps6
  go_wp2_with fail
  refine (aawake_any _ TH.out).mono ?_
  rintro e w1 ⟨rfl, g1⟩
  have K1 := Lib.hid g1
  clear g1
  go_wp2_with fail
  refine (NO.out _ (TH.out.below K1.out)).mono ?_
  rintro e w2 ⟨rfl, g2⟩
  have K2 := Lib.hid (K1.out.trans (g2.mono K1.out.size))
  clear g2
  go_wp2_with fail
  go_loopw [7, 8] (fun wv iv wr => ∃ (k : Nat) (wt : Int), k ≤ 32 ∧ iv = .int .i64 (k : Int) ∧ wv = .int .i64 wt ∧ WantIs s k wt ∧ Below w.heap.size w wr) (fun _ iv _ => 32 - (intOf iv).toNat)
  case atStart => exact ⟨0, -1, by omega, rfl, rfl, WantIs.start s, K2.out⟩
  case round =>
    obtain ⟨k, wt, hk, rfl, rfl, hw, hbel⟩ := hrel
    have HB := Lib.hid hbel
    have HW := Lib.hid hw
    have k0 : (0 : Int) ≤ (k : Int) := by omega
    clear hbel hw
    by_cases c : k < 32
    · have c1 : (k : Int) ≤ 31 := by omega
      have RK := Lib.hid (rreg_any (k : Int) wr (by omega) (by omega))
      have HI := Lib.hid (show k + 1 ≤ 32 by omega)
      obtain ⟨r, hr⟩ : ∃ r, r = reg (k : Int) := ⟨_, rfl⟩
      rw [← hr] at RK
      by_cases e : r = s
      · have N2 := Lib.hid (HW.out.hit (by rw [← hr]; exact e))
        clear hr hk c
        subst e
        go_wp2_with fail
        refine RK.out.mono ?_
        rintro e w3 ⟨rfl, g3⟩
        have K3 := Lib.hid (HB.out.trans (g3.mono HB.out.size))
        clear g3
        go_wp2
        go_roundw
        case rel => exact ⟨k + 1, k, HI.out, by go_num, rfl, N2.out, K3.out⟩
        case measure => have := HI.out; simp [intOf] <;> omega
      · have NE : ((strL r).toList == (strL s).toList) = false := by rw [beq_eq_false_iff_ne, ne_eq, str_eq]; exact e
        have N2 := Lib.hid (HW.out.miss (by rw [← hr]; exact e))
        clear hr hk c e
        go_wp2_with fail
        refine RK.out.mono ?_
        rintro e w3 ⟨rfl, g3⟩
        have K3 := Lib.hid (HB.out.trans (g3.mono HB.out.size))
        clear g3
        go_wp2
        go_roundw
        case rel => exact ⟨k + 1, wt, HI.out, by go_num, rfl, N2.out, K3.out⟩
        case measure => have := HI.out; simp [intOf] <;> omega
    · obtain rfl : k = 32 := by omega
      have key : (N = none ∧ wt = -1) ∨ (∃ j : Nat, j < 32 ∧ N = some j ∧ wt = (j : Int)) := by
        rcases HW.out with ⟨h1, h2⟩ | ⟨j, h1, h2, h3⟩
        · exact .inl ⟨by rw [HN.out]; exact numberOf_none h2, h1⟩
        · exact .inr ⟨j, h1, by rw [HN.out]; exact reg_find h1 h3, h2⟩
      clear hk c k0
      rcases key with ⟨rfl, rfl⟩ | ⟨j, hj, rfl, rfl⟩
      · go_wp2_with fail
        refine (R1.out _ (TH.out.below HB.out)).mono ?_
        rintro e w3 ⟨rfl, g3⟩
        have K3 := Lib.hid (HB.out.trans (g3.mono HB.out.size))
        clear g3
        go_wp2_with fail
        refine (R2.out _).mono ?_
        rintro e w4 ⟨rfl, g4⟩
        have K4 := Lib.hid (K3.out.trans (g4.mono K3.out.size))
        clear g4
        go_wp2
        go_ret
        exact ⟨rfl, K4.out⟩
      · have j0 : (0 : Int) ≤ (j : Int) := by omega
        have j1 : decide ((0 : Int) ≤ (j : Int)) = true := by simp
        clear hj
        go_wp2_with fail
        refine (R1.out _ (TH.out.below HB.out)).mono ?_
        rintro e w3 ⟨rfl, g3⟩
        have K3 := Lib.hid (HB.out.trans (g3.mono HB.out.size))
        clear g3
        go_wp2_with fail
        refine (R2.out _).mono ?_
        rintro e w4 ⟨rfl, g4⟩
        have K4 := Lib.hid (K3.out.trans (g4.mono K3.out.size))
        clear g4
        go_wp2
        go_ret
        exact ⟨rfl, K4.out⟩
end Go.Proofs.YtebpmngllljkaaaDoor
