/-
  Layer 8, the walks: FaultOf.
-/
import Derived.Test.YtnpgpbcpgniloaaWi
set_option linter.unusedSimpArgs false
set_option linter.unusedVariables false
namespace GrW
open Go
def NoF (W : Int) (b : Bool) (k l : Nat) : Prop := ∀ k' l' : Int, VF k' l' → (k' < k ∨ (k' = k ∧ l' < l)) → ¬ syn k' l' b = W
theorem NoF.start (W : Int) (b : Bool) : NoF W b 1 0 := fun k' l' h h2 => by unfold VF at h; omega
theorem NoF.next {W : Int} {b : Bool} {k l : Nat} (h : NoF W b k l) (h2 : VF k l → ¬ syn k l b = W) : NoF W b k (l + 1) := fun k' l' hv hl => by
  by_cases c : k' = k ∧ l' = l
  · obtain ⟨rfl, rfl⟩ := c
    exact h2 hv
  · exact h k' l' hv (by omega)
theorem NoF.up {W : Int} {b : Bool} {k : Nat} (h : NoF W b k 3) : NoF W b (k + 1) 0 := fun k' l' hv hl => h k' l' hv (by unfold VF at hv; omega)
theorem VF_of {k l : Nat} (h1 : 1 ≤ k) (h2 : k ≤ 5) (h3 : l < 3) (h4 : k ≤ 2 ↔ l = 0) : VF k l := by unfold VF; omega
theorem VF_no {k l : Nat} (h4 : ¬ (k ≤ 2 ↔ l = 0)) : ¬ VF k l := by unfold VF; omega
end GrW
namespace Go.Proofs.Ytnpgpbcpgniloaa
open Go.RowKit

theorem bit_below (x n : Int) (w : World) (h0 : 0 ≤ x) (h1 : x < 18446744073709551616) :
    Calls Try.prog 42 #[.int .u64 x, .int .i64 n] w fun e w' => e = .returned (.bool (GrF.bitB x n)) ∧ Below w.heap.size w w' :=
  (bit_any x n w h0 h1).mono fun _ _ h => ⟨h.1, h.2.below _⟩

set_option maxRecDepth 100000 in
set_option maxHeartbeats 12800000 in
theorem faultOf_any (W : Int) (w : World) (h0 : 0 ≤ W) (h1 : W < 18446744073709551616) :
    Calls Try.prog 12 #[.int .u64 W] w fun e w' => ∃ k l c ok, e = .returned (.tuple #[.agg #[.int .i64 k, .int .i64 l, .bool c], .bool ok]) ∧ GrW.FOut W (GrF.bitB W 6) k l c ok ∧ Below w.heap.size w w' := by
  have BI := Lib.hid (fun w => bit_below W 6 w h0 h1)
  obtain ⟨b, hb⟩ : ∃ b, b = GrF.bitB W 6 := ⟨_, rfl⟩
  rw [← hb] at BI ⊢
  clear hb h0 h1
  go_enter Try.func12, Try.ntmps12
  go_upto_region 1 with fail
  have R0 := Lib.hid (Row.new w [.int .i64 0, .int .i64 0, .bool false] 28)
  have B0 := Lib.hid (KB.alloc (Below.refl w.heap.size w) (.cells #[.int .i64 0, .int .i64 0, .bool false] 28))
  go_wp2_with fail
  go_loopw [4] (fun i wr => ∃ k : Nat, 1 ≤ k ∧ k ≤ 6 ∧ i = .int .i64 (k : Int) ∧ Row wr w.heap.size [.int .i64 0, .int .i64 0, .bool false] 28 ∧ GrW.NoF W b k 0 ∧ Below w.heap.size w wr) (fun i _ => 6 - (intOf i).toNat)
  case atStart => exact ⟨1, by omega, by omega, rfl, R0.out, GrW.NoF.start W b, B0.out⟩
  case round =>
    obtain ⟨k, k1, k6, rfl, hR, hN, hb⟩ := hrel
    have RR := Lib.hid hR
    have NN := Lib.hid hN
    have BB := Lib.hid hb
    clear hR hN hb R0 B0
    by_cases ck : k ≤ 5
    · have d5 : decide ((k : Int) ≤ 5) = true := by simp; omega
      go_wp2_with fail
      go_loopw [11] (fun i wr2 => ∃ l : Nat, l ≤ 3 ∧ i = .int .i64 (l : Int) ∧ Row wr2 w.heap.size [.int .i64 0, .int .i64 0, .bool false] 28 ∧ GrW.NoF W b k l ∧ Below w.heap.size w wr2) (fun i _ => 3 - (intOf i).toNat)
      case atStart => exact ⟨0, by omega, rfl, RR.out, NN.out, BB.out⟩
      case round =>
        obtain ⟨l, l3, rfl, hR2, hN2, hb2⟩ := hrel
        have RR2 := Lib.hid hR2
        have NN2 := Lib.hid hN2
        have BB2 := Lib.hid hb2
        clear hR2 hN2 hb2 RR NN BB
        by_cases cl : l < 3
        · have d3 : decide ((l : Int) < 3) = true := by simp; omega
          by_cases c2 : k ≤ 2
          · have e1 : decide ((k : Int) ≤ 2) = true := by simp; omega
            by_cases c0 : l = 0
            · subst c0
              have VV := Lib.hid (GrW.VF_of (k := k) (l := 0) (by omega) (by omega) (by omega) (by omega))
              have SY := Lib.hid (fun w => syn_any (k : Int) 0 b w (by omega) (by omega))
              obtain ⟨sv, hs⟩ : ∃ s, s = GrW.syn (k : Int) 0 b := ⟨_, rfl⟩
              rw [← hs] at SY
              have ES := Lib.hid hs
              clear hs
              go_wp2_with fail
              refine (BI.out _).mono ?_
              rintro e w1 ⟨rfl, g⟩
              obtain ⟨x1, rfl⟩ := Wb.start g
              clear g
              go_upto_region 9 with fail
              refine to_cls ?_
              intro U2 hU2 z2
              have r_R : ∀ z : Wb U2, Row z.at (w.heap.size) [.int .i64 0, .int .i64 0, .bool false] 28 := Row.next ((RR2.out.below x1.bel).old _) hU2
              have r_f : ∀ z : Wb U2, Row z.at (x1.at.heap.size) [.int .i64 (k : Int), .int .i64 0, .bool b] 28 := Row.next (Row.new _ [.int .i64 (k : Int), .int .i64 0, .bool b] _) hU2
              have KK := KB.next (KB.alloc ((BB2.out).trans (x1.bel.mono BB2.out.size)) _) hU2
              have c_R_0 : ∀ z : Wb U2, z.at.cell? ⟨w.heap.size, 0, none⟩ = some (.int .i64 0) := fun z => (r_R z).cell 0
              have c_R_1 : ∀ z : Wb U2, z.at.cell? ⟨w.heap.size, 1, none⟩ = some (.int .i64 0) := fun z => (r_R z).cell 1
              have c_R_2 : ∀ z : Wb U2, z.at.cell? ⟨w.heap.size, 2, none⟩ = some (.bool false) := fun z => (r_R z).cell 2
              have f_R : ∀ (z : Wb U2) (i : Nat), z.at.frozen? ⟨w.heap.size, i, none⟩ = false := fun z i => (r_R z).free i
              have c_f_0 : ∀ z : Wb U2, z.at.cell? ⟨x1.at.heap.size, 0, none⟩ = some (.int .i64 (k : Int)) := fun z => (r_f z).cell 0
              have c_f_1 : ∀ z : Wb U2, z.at.cell? ⟨x1.at.heap.size, 1, none⟩ = some (.int .i64 0) := fun z => (r_f z).cell 1
              have c_f_2 : ∀ z : Wb U2, z.at.cell? ⟨x1.at.heap.size, 2, none⟩ = some (.bool b) := fun z => (r_f z).cell 2
              have f_f : ∀ (z : Wb U2) (i : Nat), z.at.frozen? ⟨x1.at.heap.size, i, none⟩ = false := fun z i => (r_f z).free i
              obtain ⟨fA, hfA⟩ : ∃ b, b = x1.at.heap.size := ⟨_, rfl⟩
              rw [← hfA] at r_f c_f_0 c_f_1 c_f_2 f_f
              simp only [← hfA]
              clear hfA
              go_wp2_with fail
              refine (SY.out _).mono ?_
              rintro e w1 ⟨rfl, g⟩
              obtain ⟨x3, rfl⟩ := Wb.next (x := z2) g
              clear g
              cases t : (sv == W) with
              | true =>
                have TT := Lib.hid (show GrW.syn (k : Int) 0 b = W by rw [← ES.out]; simpa using t)
                have QQ := Lib.hid (KB.put (KB.put (KB.put (KK x3) (Nat.le_refl _) 0 (.int .i64 (k : Int))) (Nat.le_refl _) 1 (.int .i64 0)) (Nat.le_refl _) 2 (.bool b))
                go_wp2
                refine bodyPost_ret (v := .tuple #[.agg #[.int .i64 (k : Int), .int .i64 0, .bool b], .bool true]) (by simp [results, Try.results12, go_sem, *]) rfl ⟨k, 0, b, true, rfl, .inl ⟨rfl, VV.out, rfl, TT.out⟩, QQ.out⟩
              | false =>
                have RZ := Lib.hid (r_R x3)
                have KZ := Lib.hid (KK x3)
                have NZ := Lib.hid (GrW.NoF.next NN2.out (fun _ => show ¬ GrW.syn (k : Int) 0 b = W by rw [← ES.out]; simpa using t))
                go_wp2
                go_roundw
                case rel => exact ⟨0 + 1, by omega, by go_num, RZ.out, NZ.out, KZ.out⟩
                case measure => first | (simp [intOf]; done) | (simp [intOf]; omega)
            · have e2 : ((l : Int) == 0) = false := by rw [beq_eq_false_iff_ne]; omega
              have NZ := Lib.hid (GrW.NoF.next NN2.out (fun h => absurd h (GrW.VF_no (by omega))))
              go_wp2
              go_roundw
              case rel => exact ⟨l + 1, by omega, by go_num, RR2.out, NZ.out, BB2.out⟩
              case measure => first | (simp [intOf]; done) | (simp [intOf]; omega)
          · have e1 : decide ((k : Int) ≤ 2) = false := by simp; omega
            by_cases c0 : l = 0
            · subst c0
              have NZ := Lib.hid (GrW.NoF.next NN2.out (fun h => absurd h (GrW.VF_no (by omega))))
              go_wp2
              go_roundw
              case rel => exact ⟨0 + 1, by omega, by go_num, RR2.out, NZ.out, BB2.out⟩
              case measure => first | (simp [intOf]; done) | (simp [intOf]; omega)
            · have e2 : ((l : Int) == 0) = false := by rw [beq_eq_false_iff_ne]; omega
              have VV := Lib.hid (GrW.VF_of (k := k) (l := l) (by omega) (by omega) (by omega) (by omega))
              have SY := Lib.hid (fun w => syn_any (k : Int) (l : Int) b w (by omega) (by omega))
              obtain ⟨sv, hs⟩ : ∃ s, s = GrW.syn (k : Int) (l : Int) b := ⟨_, rfl⟩
              rw [← hs] at SY
              have ES := Lib.hid hs
              clear hs
              go_wp2_with fail
              refine (BI.out _).mono ?_
              rintro e w1 ⟨rfl, g⟩
              obtain ⟨x1, rfl⟩ := Wb.start g
              clear g
              go_upto_region 9 with fail
              refine to_cls ?_
              intro U2 hU2 z2
              have r_R : ∀ z : Wb U2, Row z.at (w.heap.size) [.int .i64 0, .int .i64 0, .bool false] 28 := Row.next ((RR2.out.below x1.bel).old _) hU2
              have r_f : ∀ z : Wb U2, Row z.at (x1.at.heap.size) [.int .i64 (k : Int), .int .i64 (l : Int), .bool b] 28 := Row.next (Row.new _ [.int .i64 (k : Int), .int .i64 (l : Int), .bool b] _) hU2
              have KK := KB.next (KB.alloc ((BB2.out).trans (x1.bel.mono BB2.out.size)) _) hU2
              have c_R_0 : ∀ z : Wb U2, z.at.cell? ⟨w.heap.size, 0, none⟩ = some (.int .i64 0) := fun z => (r_R z).cell 0
              have c_R_1 : ∀ z : Wb U2, z.at.cell? ⟨w.heap.size, 1, none⟩ = some (.int .i64 0) := fun z => (r_R z).cell 1
              have c_R_2 : ∀ z : Wb U2, z.at.cell? ⟨w.heap.size, 2, none⟩ = some (.bool false) := fun z => (r_R z).cell 2
              have f_R : ∀ (z : Wb U2) (i : Nat), z.at.frozen? ⟨w.heap.size, i, none⟩ = false := fun z i => (r_R z).free i
              have c_f_0 : ∀ z : Wb U2, z.at.cell? ⟨x1.at.heap.size, 0, none⟩ = some (.int .i64 (k : Int)) := fun z => (r_f z).cell 0
              have c_f_1 : ∀ z : Wb U2, z.at.cell? ⟨x1.at.heap.size, 1, none⟩ = some (.int .i64 (l : Int)) := fun z => (r_f z).cell 1
              have c_f_2 : ∀ z : Wb U2, z.at.cell? ⟨x1.at.heap.size, 2, none⟩ = some (.bool b) := fun z => (r_f z).cell 2
              have f_f : ∀ (z : Wb U2) (i : Nat), z.at.frozen? ⟨x1.at.heap.size, i, none⟩ = false := fun z i => (r_f z).free i
              obtain ⟨fA, hfA⟩ : ∃ b, b = x1.at.heap.size := ⟨_, rfl⟩
              rw [← hfA] at r_f c_f_0 c_f_1 c_f_2 f_f
              simp only [← hfA]
              clear hfA
              go_wp2_with fail
              refine (SY.out _).mono ?_
              rintro e w1 ⟨rfl, g⟩
              obtain ⟨x3, rfl⟩ := Wb.next (x := z2) g
              clear g
              cases t : (sv == W) with
              | true =>
                have TT := Lib.hid (show GrW.syn (k : Int) (l : Int) b = W by rw [← ES.out]; simpa using t)
                have QQ := Lib.hid (KB.put (KB.put (KB.put (KK x3) (Nat.le_refl _) 0 (.int .i64 (k : Int))) (Nat.le_refl _) 1 (.int .i64 (l : Int))) (Nat.le_refl _) 2 (.bool b))
                go_wp2
                refine bodyPost_ret (v := .tuple #[.agg #[.int .i64 (k : Int), .int .i64 (l : Int), .bool b], .bool true]) (by simp [results, Try.results12, go_sem, *]) rfl ⟨k, (l : Int), b, true, rfl, .inl ⟨rfl, VV.out, rfl, TT.out⟩, QQ.out⟩
              | false =>
                have RZ := Lib.hid (r_R x3)
                have KZ := Lib.hid (KK x3)
                have NZ := Lib.hid (GrW.NoF.next NN2.out (fun _ => show ¬ GrW.syn (k : Int) (l : Int) b = W by rw [← ES.out]; simpa using t))
                go_wp2
                go_roundw
                case rel => exact ⟨l + 1, by omega, by go_num, RZ.out, NZ.out, KZ.out⟩
                case measure => first | (simp [intOf]; done) | (simp [intOf]; omega)
        · obtain rfl : l = 3 := by omega
          have NZ := Lib.hid (GrW.NoF.up NN2.out)
          go_wp2
          go_roundw
          case rel => exact ⟨k + 1, by omega, by omega, by go_num, RR2.out, NZ.out, BB2.out⟩
          case measure => simp [intOf]; omega
    · obtain rfl : k = 6 := by omega
      have r_R := RR.out
      have c0 : wr.cell? ⟨w.heap.size, 0, none⟩ = some (.int .i64 0) := r_R.cell 0
      have c1 : wr.cell? ⟨w.heap.size, 1, none⟩ = some (.int .i64 0) := r_R.cell 1
      have c2 : wr.cell? ⟨w.heap.size, 2, none⟩ = some (.bool false) := r_R.cell 2
      have f0 : ∀ i : Nat, wr.frozen? ⟨w.heap.size, i, none⟩ = false := fun i => r_R.free i
      have QQ := Lib.hid (KB.put (KB.put (KB.put BB.out (Nat.le_refl _) 0 (.int .i64 0)) (Nat.le_refl _) 1 (.int .i64 0)) (Nat.le_refl _) 2 (.bool false))
      clear r_R
      go_wp2
      refine bodyPost_ret (v := .tuple #[.agg #[.int .i64 0, .int .i64 0, .bool false], .bool false]) (by simp [results, Try.results12, go_sem, *]) rfl ⟨0, 0, false, false, rfl, .inr ⟨rfl, rfl, rfl, rfl, fun k' l' h => NN.out k' l' h (by unfold GrW.VF at h; omega)⟩, QQ.out⟩
end Go.Proofs.Ytnpgpbcpgniloaa
