/-
  Layer 8, the laws' walks: WalkFaults.
-/
import Derived.Test.YtnpgpbcpgniloaaSu
import Derived.Test.YtnpgpbcpgniloaaWk
import Derived.Test.YtnpgpbcpgniloaaWa
set_option linter.unusedSimpArgs false
set_option linter.unusedVariables false
namespace GrW
open Go
theorem VF_bd {k l : Int} (h : VF k l) : 1 ≤ k ∧ k ≤ 5 ∧ 0 ≤ l ∧ l ≤ 2 := by unfold VF at h; omega
theorem vf_l {k l : Int} {c : Bool} (h : (k = 0 ∧ l = 0 ∧ c = false) ∨ VF k l) : -9223372036854775808 ≤ l ∧ l ≤ 9223372036854775807 := by
  rcases h with ⟨_, h, _⟩ | h
  · omega
  · have := VF_bd h; omega
theorem syn_bd (k l : Int) (b : Bool) : 0 ≤ syn k l b ∧ syn k l b < 18446744073709551616 := by
  unfold syn synC
  rw [synB_eq]
  cases b <;> simp only [Bool.false_eq_true, if_true, if_false] <;> repeat' split
  all_goals omega
theorem syn_pos {k l : Int} (h : VF k l) (b : Bool) : 0 < syn k l b := by
  obtain ⟨e, h1, h2⟩ := syn_low h b
  rw [e, synB_eq]
  cases b <;> simp only [Bool.false_eq_true, if_true, if_false] <;> omega
theorem faultL_len (j : Nat) (h : j < 16) : j < faultL.length := h
theorem faultL_all : ∀ p ∈ faultL, VF p.1 p.2.1 := by
  intro p hp
  simp only [faultL, List.mem_cons, List.not_mem_nil, or_false] at hp
  unfold VF
  rcases hp with rfl | rfl | rfl | rfl | rfl | rfl | rfl | rfl | rfl | rfl | rfl | rfl | rfl | rfl | rfl | rfl <;> simp
theorem faultL_ok (j : Nat) (h : j < 16) : VF (faultL[j]'(faultL_len j h)).1 (faultL[j]'(faultL_len j h)).2.1 := faultL_all _ (List.getElem_mem _)
theorem faultC_len (L : List (Int × Int × Bool)) : (faultC L).length = L.length * 3 := by
  induction L with
  | nil => rfl
  | cons p L ih => show (_ :: _ :: _ :: faultC L).length = _; simp [ih]; omega
theorem faultC_get (L : List (Int × Int × Bool)) (k : Nat) (h : k < L.length) : (faultC L)[k * 3]? = some (.int .i64 L[k].1) ∧ (faultC L)[k * 3 + 1]? = some (.int .i64 L[k].2.1) ∧ (faultC L)[k * 3 + 2]? = some (.bool L[k].2.2) := by
  induction L generalizing k with
  | nil => simp at h
  | cons p L ih =>
    have e : faultC (p :: L) = .int .i64 p.1 :: .int .i64 p.2.1 :: .bool p.2.2 :: faultC L := rfl
    rw [e]
    cases k with
    | zero => simp
    | succ k =>
      have := ih k (by simp at h; omega)
      rw [show (k + 1) * 3 = k * 3 + 3 by omega]
      simpa using this
theorem faultC_at (j : Nat) (h : j < 16) : (faultC faultL)[j * 3]? = some (.int .i64 (faultL[j]'(faultL_len j h)).1) ∧ (faultC faultL)[j * 3 + 1]? = some (.int .i64 (faultL[j]'(faultL_len j h)).2.1) ∧ (faultC faultL)[j * 3 + 2]? = some (.bool (faultL[j]'(faultL_len j h)).2.2) := faultC_get faultL j (faultL_len j h)
/-- what the law's loop has found -/
def MF (W : Int) (j : Nat) (k l : Int) (c ok : Bool) : Prop := (ok = true ∧ VF k l ∧ syn k l c = W) ∨ (ok = false ∧ k = 0 ∧ l = 0 ∧ c = false ∧ ∀ i (h : i < 16), i < j → ¬ syn (faultL[i]'(faultL_len i h)).1 (faultL[i]'(faultL_len i h)).2.1 (faultL[i]'(faultL_len i h)).2.2 = W)
theorem MF.start (W : Int) : MF W 0 0 0 false false := .inr ⟨rfl, rfl, rfl, rfl, fun i _ h => absurd h (by omega)⟩
theorem MF.hit {W : Int} (j : Nat) (hj : j < 16) (x0 x1 : Int) (x2 : Bool) (hx : (x0, x1, x2) = faultL[j]'(faultL_len j hj)) (h : syn x0 x1 x2 = W) : MF W (j + 1) x0 x1 x2 true :=
  .inl ⟨rfl, by have := faultL_ok j hj; rw [← hx] at this; exact this, h⟩
theorem MF.miss {W : Int} {j : Nat} {k l : Int} {c ok : Bool} (m : MF W j k l c ok) (hj : j < 16) (x0 x1 : Int) (x2 : Bool) (hx : (x0, x1, x2) = faultL[j]'(faultL_len j hj)) (h : ¬ syn x0 x1 x2 = W) : MF W (j + 1) k l c ok := by
  rcases m with m | ⟨a, b, d, e, f⟩
  · exact .inl m
  · refine .inr ⟨a, b, d, e, fun i hi hlt => ?_⟩
    by_cases q : i = j
    · subst q; rw [← hx]; exact h
    · exact f i hi (by omega)
theorem faultL_has {k l : Int} (h : VF k l) (b : Bool) : ∃ i, ∃ hi : i < 16, faultL[i]'(faultL_len i hi) = (k, l, b) := by
  rcases h with ⟨rfl, rfl⟩ | ⟨rfl, rfl⟩ | ⟨rfl, rfl⟩ | ⟨rfl, rfl⟩ | ⟨rfl, rfl⟩ | ⟨rfl, rfl⟩ | ⟨rfl, rfl⟩ | ⟨rfl, rfl⟩ <;> cases b
  · exact ⟨0, by decide, rfl⟩
  · exact ⟨1, by decide, rfl⟩
  · exact ⟨2, by decide, rfl⟩
  · exact ⟨3, by decide, rfl⟩
  · exact ⟨4, by decide, rfl⟩
  · exact ⟨5, by decide, rfl⟩
  · exact ⟨6, by decide, rfl⟩
  · exact ⟨7, by decide, rfl⟩
  · exact ⟨8, by decide, rfl⟩
  · exact ⟨9, by decide, rfl⟩
  · exact ⟨10, by decide, rfl⟩
  · exact ⟨11, by decide, rfl⟩
  · exact ⟨12, by decide, rfl⟩
  · exact ⟨13, by decide, rfl⟩
  · exact ⟨14, by decide, rfl⟩
  · exact ⟨15, by decide, rfl⟩
theorem FM {W : Int} {k l k2 l2 : Int} {c ok c2 ok2 : Bool} (f : FOut W (GrF.bitB W 6) k l c ok) (m : MF W 16 k2 l2 c2 ok2) : k = k2 ∧ l = l2 ∧ c = c2 ∧ ok = ok2 := by
  rcases f with ⟨rfl, fv, rfl, fe⟩ | ⟨rfl, rfl, rfl, rfl, fn⟩
  · rcases m with ⟨rfl, mv, me⟩ | ⟨rfl, rfl, rfl, rfl, mn⟩
    · obtain ⟨a, b, d⟩ := syn_inj fv mv (fe.trans me.symm)
      exact ⟨a, b, d, rfl⟩
    · obtain ⟨i, hi, e⟩ := faultL_has fv (GrF.bitB W 6)
      have := mn i hi hi
      rw [e] at this
      exact absurd fe this
  · rcases m with ⟨rfl, mv, me⟩ | ⟨rfl, rfl, rfl, rfl, mn⟩
    · have hb := syn_bit c2 mv
      rw [me] at hb
      exact absurd (by rw [hb]; exact me) (fn _ _ mv)
    · exact ⟨rfl, rfl, rfl, rfl⟩
theorem FE {sv k l k3 l3 : Int} {cb c3 ok3 : Bool} (f : FOut sv (GrF.bitB sv 6) k3 l3 c3 ok3) (e : sv = syn k l cb) (v : (k = 0 ∧ l = 0 ∧ cb = false) ∨ VF k l) : (k3 = 0 ∧ l3 = 0 ∧ c3 = false ∧ ok3 = false ∧ k = 0 ∧ l = 0) ∨ (k3 = k ∧ l3 = l ∧ c3 = cb ∧ ok3 = true ∧ k ≠ 0) := by
  rcases v with ⟨rfl, rfl, rfl⟩ | v
  · have e0 : sv = 0 := e
    rcases f with ⟨rfl, fv, rfl, fe⟩ | ⟨rfl, rfl, rfl, rfl, fn⟩
    · have := syn_pos fv (GrF.bitB sv 6)
      omega
    · exact .inl ⟨rfl, rfl, rfl, rfl, rfl, rfl⟩
  · rcases f with ⟨rfl, fv, rfl, fe⟩ | ⟨rfl, rfl, rfl, rfl, fn⟩
    · obtain ⟨a, b, d⟩ := syn_inj fv v (fe.trans e)
      have := VF_bd v
      exact .inr ⟨a, b, d, rfl, by omega⟩
    · have hb := syn_bit cb v
      rw [← e] at hb
      exact absurd (by rw [hb]; exact e.symm) (fn _ _ v)
end GrW
namespace Go.Proofs.Ytnpgpbcpgniloaa
open Go.RowKit GrS

theorem own_cap3 {w : World} {base : Nat} {e : TypeId} {K g cap n : Nat} {xs : List Value} (h : w.ownsRow base e K (.slice (some ⟨g, 0, none⟩) n cap) n xs) : n ≤ cap ∧ cap ≤ maxLen ∧ base ≤ g := by
  obtain ⟨h1, ⟨h2, _⟩ | ⟨g', c', cur, e1, hb, hg, hn, hc, hs, ht⟩⟩ := h
  · cases h2
  · injection e1 with a1 a2 a3
    injection a1 with a1
    injection a1 with a1
    subst a1 a3
    exact ⟨hn, hc, hb⟩
theorem walkL_fault (R : Int → Int) (tb va : Int) (b : Bool) :
    ∃ k l c ad F S n, GrW.walkL R tb va b = [.int .i64 k, .int .i64 l, .bool c, .int .u64 ad, .int .u64 F, .int .u64 S, .int .i64 n] ∧ ((k = 0 ∧ l = 0 ∧ c = false) ∨ GrW.VF k l) := by
  by_cases h : GrW.befK va = 0
  · refine ⟨_, _, _, _, _, _, _, by unfold GrW.walkL; rw [if_pos h], ?_⟩
    unfold GrW.thL GrW.thC
    obtain ⟨A, hA⟩ : ∃ A, A = GrW.allowK (GrW.wF R tb va) (GrW.wS R tb va) b := ⟨_, rfl⟩
    obtain ⟨M, hM⟩ : ∃ M, M = GrT.leafL (GrW.wF R tb va) := ⟨_, rfl⟩
    have a3 : A = 0 ∨ A = 3 ∨ A = 4 ∨ A = 5 := by
      rw [hA]; unfold GrW.allowK GrD.allowed
      split
      · simp
      · split
        · simp
        · split <;> simp
    have m3 : M = 1 ∨ M = 2 := by rw [hM]; unfold GrT.leafL; split <;> simp
    rw [← hA, ← hM]
    by_cases a : A = 0
    · left; rw [if_pos a, if_pos a]; exact ⟨a, rfl, rfl⟩
    · right; rw [if_neg a]; unfold GrW.VF; omega
  · refine ⟨_, _, _, _, _, _, _, walkL_no R tb va b h, .inr ?_⟩
    have : GrW.befK va = 0 ∨ GrW.befK va = 1 ∨ GrW.befK va = 2 := by
      unfold GrW.befK
      split
      · split <;> simp
      · simp
    unfold GrW.VF
    omega

set_option maxRecDepth 100000 in
set_option maxHeartbeats 12800000 in
theorem WalkFaults_walk (W : Int) (v : Value) (L : List (Int × Int)) (tb va : Int) (b : Bool) (w : World) (h : SlP w v L) (hb : Bd L) (W0 : 0 ≤ W) (W1 : W < 18446744073709551616) (h0 : 0 ≤ va) (h1 : va < 18446744073709551616) :
    Calls Try.prog 3 #[.int .u64 W, v, .agg #[.int .u64 tb, .int .u64 va, .bool b]] w fun e w' => e = .returned (.bool true) ∧ Below w.heap.size w w' := by
  have AW := Lib.hid (fun w => wawake_any w)
  have HS := Lib.hid h
  have HB := Lib.hid hb
  clear h hb
  have FO := Lib.hid (fun w => faultOf_any W w W0 W1)
  go_enter Try.func3, Try.ntmps3
  go_upto_region 1 with fail
  refine to_cls ?_
  intro U0 hU0 z0
  have r_a : ∀ z : Wb U0, Row z.at (w.heap.size) [.int .u64 tb, .int .u64 va, .bool b] 25 := Row.next (Row.new _ [.int .u64 tb, .int .u64 va, .bool b] _) hU0
  have KK := Lib.hid (KB.next (KB.alloc (Below.refl _ _) _) hU0)
  clear hU0
  have c_a_0 : ∀ z : Wb U0, z.at.cell? ⟨w.heap.size, 0, none⟩ = some (.int .u64 tb) := fun z => (r_a z).cell 0
  have c_a_1 : ∀ z : Wb U0, z.at.cell? ⟨w.heap.size, 1, none⟩ = some (.int .u64 va) := fun z => (r_a z).cell 1
  have c_a_2 : ∀ z : Wb U0, z.at.cell? ⟨w.heap.size, 2, none⟩ = some (.bool b) := fun z => (r_a z).cell 2
  go_wp2_with fail
  refine (AW.out _).mono ?_
  rintro e w1 ⟨rfl, g⟩
  obtain ⟨z1, rfl⟩ := Wb.next (x := z0) g
  clear g
  go_wp2_with fail
  refine (FO.out _).mono ?_
  rintro e w1 ⟨k, l, c, ok, rfl, fo, g⟩
  obtain ⟨x0, rfl⟩ := Wb.next (x := z1) g
  have FH := Lib.hid fo
  clear g fo
  go_upto_region 4 with fail
  refine to_cls ?_
  intro U2 hU2 z2
  clear c_a_0 c_a_1 c_a_2
  have r_a : ∀ z : Wb U2, Row z.at (w.heap.size) [.int .u64 tb, .int .u64 va, .bool b] 25 := Row.next ((r_a x0).old _) hU2
  have r_f : ∀ z : Wb U2, Row z.at (x0.at.heap.size) [.int .i64 k, .int .i64 l, .bool c] 28 := Row.next (Row.new _ [.int .i64 k, .int .i64 l, .bool c] _) hU2
  have KK := Lib.hid (KB.next (KB.alloc (KK.out x0) _) hU2)
  clear hU2
  have c_a_0 : ∀ z : Wb U2, z.at.cell? ⟨w.heap.size, 0, none⟩ = some (.int .u64 tb) := fun z => (r_a z).cell 0
  have c_a_1 : ∀ z : Wb U2, z.at.cell? ⟨w.heap.size, 1, none⟩ = some (.int .u64 va) := fun z => (r_a z).cell 1
  have c_a_2 : ∀ z : Wb U2, z.at.cell? ⟨w.heap.size, 2, none⟩ = some (.bool b) := fun z => (r_a z).cell 2
  have c_f_0 : ∀ z : Wb U2, z.at.cell? ⟨x0.at.heap.size, 0, none⟩ = some (.int .i64 k) := fun z => (r_f z).cell 0
  have c_f_1 : ∀ z : Wb U2, z.at.cell? ⟨x0.at.heap.size, 1, none⟩ = some (.int .i64 l) := fun z => (r_f z).cell 1
  have c_f_2 : ∀ z : Wb U2, z.at.cell? ⟨x0.at.heap.size, 2, none⟩ = some (.bool c) := fun z => (r_f z).cell 2
  obtain ⟨fA, hfA⟩ : ∃ b, b = x0.at.heap.size := ⟨_, rfl⟩
  rw [← hfA] at r_f c_f_0 c_f_1 c_f_2
  simp only [← hfA]
  clear hfA
  go_wp2_with fail
  refine (faults_any _).mono ?_
  rintro e w1 ⟨fv, rfl, g, ow⟩
  obtain ⟨x1, rfl⟩ := Wb.next (x := z2) g
  clear g
  rcases own_open ow with ⟨_, h16⟩ | ⟨gb, cap, rfl, _, gl, gc⟩
  · exact absurd h16 (by decide)
  have GC := Lib.hid gc
  have GL := Lib.hid gl
  have cp16 := (own_cap3 ow).1
  clear gc gl ow
  have r_f_x1 := Lib.hid (r_f x1)
  have r_a_x1 := Lib.hid (r_a x1)
  go_upto_region 6 with fail
  refine to_cls ?_
  intro U3 hU3 z3
  clear c_a_0 c_a_1 c_a_2 c_f_0 c_f_1 c_f_2
  have r_a : ∀ z : Wb U3, Row z.at (w.heap.size) [.int .u64 tb, .int .u64 va, .bool b] 25 := Row.next ((r_a x1).old _) hU3
  have r_f : ∀ z : Wb U3, Row z.at (fA) [.int .i64 k, .int .i64 l, .bool c] 28 := Row.next ((r_f x1).old _) hU3
  have r_t : ∀ z : Wb U3, Row z.at (x1.at.heap.size) [.int .i64 0, .int .i64 0, .bool false] 28 := Row.next (Row.new _ [.int .i64 0, .int .i64 0, .bool false] _) hU3
  have KK := Lib.hid (KB.next (KB.alloc (KK.out x1) _) hU3)
  have hU3_k := Lib.hid (fun z : Wb U3 => (((Below.refl x1.at.heap.size x1.at).alloc (Nat.le_refl _) _).trans (hU3.mono (by simp))).trans (z.bel.mono (Nat.le_trans (by simp) hU3.size)))
  clear hU3
  have c_a_0 : ∀ z : Wb U3, z.at.cell? ⟨w.heap.size, 0, none⟩ = some (.int .u64 tb) := fun z => (r_a z).cell 0
  have c_a_1 : ∀ z : Wb U3, z.at.cell? ⟨w.heap.size, 1, none⟩ = some (.int .u64 va) := fun z => (r_a z).cell 1
  have c_a_2 : ∀ z : Wb U3, z.at.cell? ⟨w.heap.size, 2, none⟩ = some (.bool b) := fun z => (r_a z).cell 2
  have c_f_0 : ∀ z : Wb U3, z.at.cell? ⟨fA, 0, none⟩ = some (.int .i64 k) := fun z => (r_f z).cell 0
  have c_f_1 : ∀ z : Wb U3, z.at.cell? ⟨fA, 1, none⟩ = some (.int .i64 l) := fun z => (r_f z).cell 1
  have c_f_2 : ∀ z : Wb U3, z.at.cell? ⟨fA, 2, none⟩ = some (.bool c) := fun z => (r_f z).cell 2
  have c_t_0 : ∀ z : Wb U3, z.at.cell? ⟨x1.at.heap.size, 0, none⟩ = some (.int .i64 0) := fun z => (r_t z).cell 0
  have c_t_1 : ∀ z : Wb U3, z.at.cell? ⟨x1.at.heap.size, 1, none⟩ = some (.int .i64 0) := fun z => (r_t z).cell 1
  have c_t_2 : ∀ z : Wb U3, z.at.cell? ⟨x1.at.heap.size, 2, none⟩ = some (.bool false) := fun z => (r_t z).cell 2
  obtain ⟨tA, htA⟩ : ∃ b, b = x1.at.heap.size := ⟨_, rfl⟩
  rw [← htA] at r_t c_t_0 c_t_1 c_t_2
  simp only [← htA]
  have TL := Lib.hid (show gb < tA ∧ fA < tA ∧ w.heap.size < tA from ⟨by rw [htA]; exact GL.out, by rw [htA]; exact (r_f_x1.out).lt, by rw [htA]; exact (r_a_x1.out).lt⟩)
  have GZ := Lib.hid (show ∀ j u, (GrW.faultC GrW.faultL)[j]? = some u → z3.at.cell? ⟨gb, j, none⟩ = some u from fun j u hj => ((hU3_k.out z3).cell (p := ⟨gb, j, none⟩) GL.out).trans (GC.out j u hj))
  clear htA r_f_x1 r_a_x1 hU3_k GC GL
  have RA := Lib.hid (r_a z3)
  have RF := Lib.hid (r_f z3)
  have RT := Lib.hid (r_t z3)
  have KZ := Lib.hid (KK.out z3)
  go_wp2_with fail
  clear c_a_0 c_a_1 c_a_2 c_f_0 c_f_1 c_f_2 c_t_0 c_t_1 c_t_2 r_a r_f r_t KK
  have i16 : (16 : Int) ≤ (cap : Int) := by omega
  clear cp16
  go_loopw [11, 12] (fun okv i wr => ∃ (j : Nat) (k2 l2 : Int) (c2 ok2 : Bool), j ≤ 16 ∧ okv = .bool ok2 ∧ i = .int .i64 (j : Int) ∧ Row wr tA [.int .i64 k2, .int .i64 l2, .bool c2] 28 ∧ GrW.MF W j k2 l2 c2 ok2 ∧ Below tA z3.at wr) (fun _ i _ => 16 - (intOf i).toNat)
  case atStart => exact ⟨0, 0, 0, false, false, by omega, rfl, rfl, RT.out, GrW.MF.start W, Below.refl _ _⟩
  case round =>
    obtain ⟨j, k2, l2, c2, ok2, hj, rfl, rfl, hT, hM, hb⟩ := hrel
    have RT := Lib.hid hT
    have MM := Lib.hid hM
    have BB := Lib.hid hb
    clear hT hM hb
    by_cases cj : j < 16
    · have VX := Lib.hid (GrW.faultL_ok j cj)
      have C0 := GrW.faultC_at j cj
      obtain ⟨⟨x0, x1, x2⟩, hx⟩ : ∃ p, p = GrW.faultL[j]'(GrW.faultL_len j cj) := ⟨_, rfl⟩
      rw [← hx] at VX C0
      have MN := Lib.hid (show (GrW.syn x0 x1 x2 = W → GrW.MF W (j + 1) x0 x1 x2 true) ∧ (¬ GrW.syn x0 x1 x2 = W → GrW.MF W (j + 1) k2 l2 c2 ok2) from ⟨fun h => GrW.MF.hit j cj x0 x1 x2 hx h, fun h => GrW.MF.miss MM.out cj x0 x1 x2 hx h⟩)
      have y0 : ∀ y : Wb wr, y.at.cell? ⟨gb, j * 3, none⟩ = some (.int .i64 x0) := fun y => (y.bel.cell (p := ⟨gb, j * 3, none⟩) (Nat.lt_of_lt_of_le TL.out.1 (Nat.le_of_lt RT.out.lt))).trans ((BB.out.cell (p := ⟨gb, j * 3, none⟩) TL.out.1).trans (GZ.out _ _ C0.1))
      have y1 : ∀ y : Wb wr, y.at.cell? ⟨gb, j * 3 + 1, none⟩ = some (.int .i64 x1) := fun y => (y.bel.cell (p := ⟨gb, j * 3 + 1, none⟩) (Nat.lt_of_lt_of_le TL.out.1 (Nat.le_of_lt RT.out.lt))).trans ((BB.out.cell (p := ⟨gb, j * 3 + 1, none⟩) TL.out.1).trans (GZ.out _ _ C0.2.1))
      have y2 : ∀ y : Wb wr, y.at.cell? ⟨gb, j * 3 + 2, none⟩ = some (.bool x2) := fun y => (y.bel.cell (p := ⟨gb, j * 3 + 2, none⟩) (Nat.lt_of_lt_of_le TL.out.1 (Nat.le_of_lt RT.out.lt))).trans ((BB.out.cell (p := ⟨gb, j * 3 + 2, none⟩) TL.out.1).trans (GZ.out _ _ C0.2.2))
      have SY := Lib.hid (fun w => rsyn_any x0 x1 x2 w (by have := GrW.VF_bd VX.out; simp only at this; omega) (by have := GrW.VF_bd VX.out; simp only at this; omega))
      obtain ⟨sv, hs⟩ : ∃ s, s = GrW.syn x0 x1 x2 := ⟨_, rfl⟩
      rw [← hs] at SY MN
      clear hs C0 hx VX
      have i0 : (0 : Int) ≤ (j : Int) := by omega
      have i1 : (j : Int) < 16 := by omega
      obtain ⟨y9, hy⟩ : ∃ y : Wb wr, wr = y.at := ⟨⟨_, Below.refl _ _⟩, rfl⟩
      have r_T : ∀ y : Wb wr, Row y.at tA [.int .i64 k2, .int .i64 l2, .bool c2] 28 := fun y => RT.out.below y.bel
      have t0 : ∀ y : Wb wr, y.at.cell? ⟨tA, 0, none⟩ = some (.int .i64 k2) := fun y => (r_T y).cell 0
      have t1 : ∀ y : Wb wr, y.at.cell? ⟨tA, 1, none⟩ = some (.int .i64 l2) := fun y => (r_T y).cell 1
      have t2 : ∀ y : Wb wr, y.at.cell? ⟨tA, 2, none⟩ = some (.bool c2) := fun y => (r_T y).cell 2
      have tf : ∀ (y : Wb wr) (i : Nat), y.at.frozen? ⟨tA, i, none⟩ = false := fun y i => (r_T y).free i
      have kt : ∀ y : Wb wr, Below tA z3.at y.at := fun y => BB.out.trans (y.bel.mono (Nat.le_of_lt RT.out.lt))
      have KT := Lib.hid kt
      have RTT := Lib.hid r_T
      clear kt r_T
      rw [show (wr : World) = y9.at from hy]
      clear hy
      go_wp2_with fail
      refine (SY.out _).mono ?_
      rintro e w1 ⟨rfl, g⟩
      obtain ⟨y8, rfl⟩ := Wb.next (x := y9) g
      clear g
      cases q : (sv == W) with
      | true =>
        have hq := MN.out.1 (by simpa using q)
        have HQ := Lib.hid hq
        clear hq
        go_wp2
        go_roundw
        case rel => exact ⟨j + 1, x0, x1, x2, true, by omega, rfl, by go_num, (((RTT.out y8).set 0 _).set 1 _).set 2 _, HQ.out, (((KT.out y8).setCell (p := ⟨tA, 0, none⟩) (Nat.le_refl _) _).setCell (p := ⟨tA, 1, none⟩) (Nat.le_refl _) _).setCell (p := ⟨tA, 2, none⟩) (Nat.le_refl _) _⟩
        case measure => simp [intOf]; omega
      | false =>
        have hq := MN.out.2 (by simpa using q)
        have HQ := Lib.hid hq
        clear hq
        go_wp2
        go_roundw
        case rel => exact ⟨j + 1, k2, l2, c2, ok2, by omega, rfl, by go_num, RTT.out y8, HQ.out, KT.out y8⟩
        case measure => simp [intOf]; omega
    · obtain rfl : j = 16 := by omega
      obtain ⟨rfl, rfl, rfl, rfl⟩ := GrW.FM FH.out MM.out
      clear FH MM
      have rF := RF.out.upto BB.out TL.out.2.1
      have rA := RA.out.upto BB.out TL.out.2.2
      have KW := Lib.hid (show Below w.heap.size w wr from KZ.out.trans (BB.out.mono (Nat.le_of_lt TL.out.2.2)))
      have f0 : wr.cell? ⟨fA, 0, none⟩ = some (.int .i64 k) := rF.cell 0
      have f1 : wr.cell? ⟨fA, 1, none⟩ = some (.int .i64 l) := rF.cell 1
      have f2 : wr.cell? ⟨fA, 2, none⟩ = some (.bool c) := rF.cell 2
      have t0 : wr.cell? ⟨tA, 0, none⟩ = some (.int .i64 k) := RT.out.cell 0
      have t1 : wr.cell? ⟨tA, 1, none⟩ = some (.int .i64 l) := RT.out.cell 1
      have t2 : wr.cell? ⟨tA, 2, none⟩ = some (.bool c) := RT.out.cell 2
      have i1 : ¬ (16 : Int) < 16 := by omega
      have bok : (ok != ok) = false := by simp
      clear BB RF RA RT GZ TL KZ i16
      have RAA := Lib.hid rA
      clear rA rF
      go_wp2_with fail
      refine (mem_tell v L wr (HS.out.below KW.out) HB.out).mono ?_
      rintro e w1 ⟨p, m, okm, t, rfl, g, ma, m256, rt⟩
      obtain ⟨y0, rfl⟩ := Wb.start g
      clear g f0 f1 f2 t0 t1 t2
      have MA := Lib.hid (fun (U : World) (k : Below y0.at.heap.size y0.at U) => ma.below k)
      have RM := Lib.hid rt
      clear ma m256 rt
      have r_a : ∀ y : Wb wr, Row y.at (w.heap.size) [.int .u64 tb, .int .u64 va, .bool b] 25 := fun y => RAA.out.below y.bel
      have KK := Lib.hid (fun y : Wb wr => KW.out.trans (y.bel.mono KW.out.size))
      go_upto_region 14 with fail
      refine to_cls ?_
      intro U40 hU40 z40
      have r_a : ∀ z : Wb U40, Row z.at (w.heap.size) [.int .u64 tb, .int .u64 va, .bool b] 25 := Row.next ((r_a y0).old _) hU40
      have r_m : ∀ z : Wb U40, Row z.at (y0.at.heap.size) [.pointer p, .int .i64 m] 38 := Row.next (Row.new _ [.pointer p, .int .i64 m] _) hU40
      have KK := Lib.hid (KB.next (KB.alloc (KK.out y0) _) hU40)
      have MB := Lib.hid (fun z : Wb U40 => MAt.below (MAt.below (MA.out _ (KB.alloc (Below.refl _ _) _ : Below y0.at.heap.size y0.at _)) hU40) z.bel)
      clear hU40
      have c_a_0 : ∀ z : Wb U40, z.at.cell? ⟨w.heap.size, 0, none⟩ = some (.int .u64 tb) := fun z => (r_a z).cell 0
      have c_a_1 : ∀ z : Wb U40, z.at.cell? ⟨w.heap.size, 1, none⟩ = some (.int .u64 va) := fun z => (r_a z).cell 1
      have c_a_2 : ∀ z : Wb U40, z.at.cell? ⟨w.heap.size, 2, none⟩ = some (.bool b) := fun z => (r_a z).cell 2
      have c_m_0 : ∀ z : Wb U40, z.at.cell? ⟨y0.at.heap.size, 0, none⟩ = some (.pointer p) := fun z => (r_m z).cell 0
      have c_m_1 : ∀ z : Wb U40, z.at.cell? ⟨y0.at.heap.size, 1, none⟩ = some (.int .i64 m) := fun z => (r_m z).cell 1
      obtain ⟨mA, hmA⟩ : ∃ b, b = y0.at.heap.size := ⟨_, rfl⟩
      rw [← hmA] at r_m c_m_0 c_m_1
      simp only [← hmA]
      clear hmA
      cases okm with
      | false =>
        go_wp2
        go_ret
        exact ⟨by first | rfl | simp, KK.out z40⟩
      | true =>
        have RX := Lib.hid (RM.out rfl)
        obtain ⟨k, l, cb, ad, F, S, n, eW, vf⟩ := walkL_fault (readL L) tb va b
        have WK := Lib.hid (fun z : Wb U40 => walk_mem p m t L tb va b z.at (MB.out z) RX.out.1 HB.out h0 h1)
        rw [eW] at WK
        clear eW
        have VF := Lib.hid vf
        have SY := Lib.hid (fun w => syn_any k l cb w (GrW.vf_l VF.out).1 (GrW.vf_l VF.out).2)
        have SB := Lib.hid (GrW.syn_bd k l cb)
        obtain ⟨sv, hs⟩ : ∃ s, s = GrW.syn k l cb := ⟨_, rfl⟩
        rw [← hs] at SY SB
        have ES := Lib.hid hs
        clear hs vf
        have FO2 := Lib.hid (fun w => faultOf_any sv w SB.out.1 SB.out.2)
        go_wp2_with fail
        refine (WK.out _).mono ?_
        rintro e w1 ⟨rfl, g⟩
        obtain ⟨z41, rfl⟩ := Wb.next (x := z40) g
        clear g
        go_upto_region 17 with fail
        refine to_cls ?_
        intro U42 hU42 z42
        clear c_a_0 c_a_1 c_a_2 c_m_0 c_m_1
        have r_a : ∀ z : Wb U42, Row z.at (w.heap.size) [.int .u64 tb, .int .u64 va, .bool b] 25 := Row.next ((r_a z41).old _) hU42
        have r_m : ∀ z : Wb U42, Row z.at (mA) [.pointer p, .int .i64 m] 38 := Row.next ((r_m z41).old _) hU42
        have r_r : ∀ z : Wb U42, Row z.at (z41.at.heap.size) [.int .i64 k, .int .i64 l, .bool cb, .int .u64 ad, .int .u64 F, .int .u64 S, .int .i64 n] 42 := Row.next (Row.new _ [.int .i64 k, .int .i64 l, .bool cb, .int .u64 ad, .int .u64 F, .int .u64 S, .int .i64 n] _) hU42
        have KK := Lib.hid (KB.next (KB.alloc (KK.out z41) _) hU42)
        clear hU42
        have c_a_0 : ∀ z : Wb U42, z.at.cell? ⟨w.heap.size, 0, none⟩ = some (.int .u64 tb) := fun z => (r_a z).cell 0
        have c_a_1 : ∀ z : Wb U42, z.at.cell? ⟨w.heap.size, 1, none⟩ = some (.int .u64 va) := fun z => (r_a z).cell 1
        have c_a_2 : ∀ z : Wb U42, z.at.cell? ⟨w.heap.size, 2, none⟩ = some (.bool b) := fun z => (r_a z).cell 2
        have c_m_0 : ∀ z : Wb U42, z.at.cell? ⟨mA, 0, none⟩ = some (.pointer p) := fun z => (r_m z).cell 0
        have c_m_1 : ∀ z : Wb U42, z.at.cell? ⟨mA, 1, none⟩ = some (.int .i64 m) := fun z => (r_m z).cell 1
        have c_r_0 : ∀ z : Wb U42, z.at.cell? ⟨z41.at.heap.size, 0, none⟩ = some (.int .i64 k) := fun z => (r_r z).cell 0
        have c_r_1 : ∀ z : Wb U42, z.at.cell? ⟨z41.at.heap.size, 1, none⟩ = some (.int .i64 l) := fun z => (r_r z).cell 1
        have c_r_2 : ∀ z : Wb U42, z.at.cell? ⟨z41.at.heap.size, 2, none⟩ = some (.bool cb) := fun z => (r_r z).cell 2
        have c_r_3 : ∀ z : Wb U42, z.at.cell? ⟨z41.at.heap.size, 3, none⟩ = some (.int .u64 ad) := fun z => (r_r z).cell 3
        have c_r_4 : ∀ z : Wb U42, z.at.cell? ⟨z41.at.heap.size, 4, none⟩ = some (.int .u64 F) := fun z => (r_r z).cell 4
        have c_r_5 : ∀ z : Wb U42, z.at.cell? ⟨z41.at.heap.size, 5, none⟩ = some (.int .u64 S) := fun z => (r_r z).cell 5
        have c_r_6 : ∀ z : Wb U42, z.at.cell? ⟨z41.at.heap.size, 6, none⟩ = some (.int .i64 n) := fun z => (r_r z).cell 6
        obtain ⟨rA, hrA⟩ : ∃ b, b = z41.at.heap.size := ⟨_, rfl⟩
        rw [← hrA] at r_r c_r_0 c_r_1 c_r_2 c_r_3 c_r_4 c_r_5 c_r_6
        simp only [← hrA]
        clear hrA
        go_wp2_with fail
        refine (SY.out _).mono ?_
        rintro e w1 ⟨rfl, g⟩
        obtain ⟨z43, rfl⟩ := Wb.next (x := z42) g
        clear g
        go_wp2_with fail
        refine (FO2.out _).mono ?_
        rintro e w1 ⟨k3, l3, c3, ok3, rfl, fo, g⟩
        obtain ⟨y7, rfl⟩ := Wb.next (x := z43) g
        have FH := Lib.hid fo
        clear g fo
        go_upto_region 18 with fail
        refine to_cls ?_
        intro U44 hU44 z44
        clear c_a_0 c_a_1 c_a_2 c_m_0 c_m_1 c_r_0 c_r_1 c_r_2 c_r_3 c_r_4 c_r_5 c_r_6
        have r_a : ∀ z : Wb U44, Row z.at (w.heap.size) [.int .u64 tb, .int .u64 va, .bool b] 25 := Row.next ((r_a y7).old _) hU44
        have r_m : ∀ z : Wb U44, Row z.at (mA) [.pointer p, .int .i64 m] 38 := Row.next ((r_m y7).old _) hU44
        have r_r : ∀ z : Wb U44, Row z.at (rA) [.int .i64 k, .int .i64 l, .bool cb, .int .u64 ad, .int .u64 F, .int .u64 S, .int .i64 n] 42 := Row.next ((r_r y7).old _) hU44
        have r_g : ∀ z : Wb U44, Row z.at (y7.at.heap.size) [.int .i64 k3, .int .i64 l3, .bool c3] 28 := Row.next (Row.new _ [.int .i64 k3, .int .i64 l3, .bool c3] _) hU44
        have KK := Lib.hid (KB.next (KB.alloc (KK.out y7) _) hU44)
        clear hU44
        have c_a_0 : ∀ z : Wb U44, z.at.cell? ⟨w.heap.size, 0, none⟩ = some (.int .u64 tb) := fun z => (r_a z).cell 0
        have c_a_1 : ∀ z : Wb U44, z.at.cell? ⟨w.heap.size, 1, none⟩ = some (.int .u64 va) := fun z => (r_a z).cell 1
        have c_a_2 : ∀ z : Wb U44, z.at.cell? ⟨w.heap.size, 2, none⟩ = some (.bool b) := fun z => (r_a z).cell 2
        have c_m_0 : ∀ z : Wb U44, z.at.cell? ⟨mA, 0, none⟩ = some (.pointer p) := fun z => (r_m z).cell 0
        have c_m_1 : ∀ z : Wb U44, z.at.cell? ⟨mA, 1, none⟩ = some (.int .i64 m) := fun z => (r_m z).cell 1
        have c_r_0 : ∀ z : Wb U44, z.at.cell? ⟨rA, 0, none⟩ = some (.int .i64 k) := fun z => (r_r z).cell 0
        have c_r_1 : ∀ z : Wb U44, z.at.cell? ⟨rA, 1, none⟩ = some (.int .i64 l) := fun z => (r_r z).cell 1
        have c_r_2 : ∀ z : Wb U44, z.at.cell? ⟨rA, 2, none⟩ = some (.bool cb) := fun z => (r_r z).cell 2
        have c_r_3 : ∀ z : Wb U44, z.at.cell? ⟨rA, 3, none⟩ = some (.int .u64 ad) := fun z => (r_r z).cell 3
        have c_r_4 : ∀ z : Wb U44, z.at.cell? ⟨rA, 4, none⟩ = some (.int .u64 F) := fun z => (r_r z).cell 4
        have c_r_5 : ∀ z : Wb U44, z.at.cell? ⟨rA, 5, none⟩ = some (.int .u64 S) := fun z => (r_r z).cell 5
        have c_r_6 : ∀ z : Wb U44, z.at.cell? ⟨rA, 6, none⟩ = some (.int .i64 n) := fun z => (r_r z).cell 6
        have c_g_0 : ∀ z : Wb U44, z.at.cell? ⟨y7.at.heap.size, 0, none⟩ = some (.int .i64 k3) := fun z => (r_g z).cell 0
        have c_g_1 : ∀ z : Wb U44, z.at.cell? ⟨y7.at.heap.size, 1, none⟩ = some (.int .i64 l3) := fun z => (r_g z).cell 1
        have c_g_2 : ∀ z : Wb U44, z.at.cell? ⟨y7.at.heap.size, 2, none⟩ = some (.bool c3) := fun z => (r_g z).cell 2
        obtain ⟨gA, hgA⟩ : ∃ b, b = y7.at.heap.size := ⟨_, rfl⟩
        rw [← hgA] at r_g c_g_0 c_g_1 c_g_2
        simp only [← hgA]
        clear hgA
        rcases GrW.FE FH.out ES.out VF.out with ⟨rfl, rfl, rfl, rfl, rfl, rfl⟩ | ⟨rfl, rfl, rfl, rfl, kn⟩
        · clear FH ES VF
          go_wp2
          go_ret
          exact ⟨by first | rfl | simp, KK.out z44⟩
        · have kb : (k3 != 0) = true := by simpa using kn
          clear FH ES VF kn
          go_wp2
          go_ret
          exact ⟨by first | rfl | simp, KK.out z44⟩

theorem WalkFaults_rows (W : Int) (v : Value) (n : Nat) (R : Nat → List Value) (tb va : Int) (b : Bool) (w : World) (s : SlAt w v 2 n ((List.range n).flatMap R)) (g : ∀ i, i < n → ∃ p : Int × Int, R i = [.int .u64 p.1, .int .u64 p.2] ∧ (0 ≤ p.1 ∧ p.1 < 18446744073709551616) ∧ 0 ≤ p.2 ∧ p.2 < 18446744073709551616) (W0 : 0 ≤ W) (W1 : W < 18446744073709551616) (h0 : 0 ≤ va) (h1 : va < 18446744073709551616) :
    Calls Try.prog 3 #[.int .u64 W, v, .agg #[.int .u64 tb, .int .u64 va, .bool b]] w fun e w' => e = .returned (.bool true) ∧ Below w.heap.size w w' := by
  obtain ⟨L, hL, hB⟩ := slp_of_rows s g
  exact WalkFaults_walk W v L tb va b w hL hB W0 W1 h0 h1
end Go.Proofs.Ytnpgpbcpgniloaa
