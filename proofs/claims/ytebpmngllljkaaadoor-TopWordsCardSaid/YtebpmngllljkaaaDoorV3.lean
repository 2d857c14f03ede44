/-
  Layer 4, the walks: usual: slices that the call owns, cut, set, made anew.
-/
import Derived.Test.YtebpmngllljkaaaDoorVq
import Derived.Test.YtebpmngllljkaaaDoorKs
import Derived.Laws.Append
import Derived.Lib.AppendZeros
import Derived.Deep.RegionHeld3
import Derived.Deep.AppendLies
set_option linter.unusedSimpArgs false
set_option linter.unusedVariables false
namespace GrA
theorem getD_map {L : List Tx} {M : List Tx} (h : M = L.map plainW) {j : Nat} (hj : j < L.length) : (M.map (fun t => (Go.Value.string (GrP.strL t))))[j]? = some (.string (GrP.strL (M.getD j []))) := by
  have : j < M.length := by rw [h, List.length_map]; exact hj
  rw [List.getElem?_map, List.getD_eq_getElem?_getD, List.getElem?_eq_getElem this]
  rfl
end GrA
namespace Go.Proofs.YtebpmngllljkaaaDoor
open Go.RowKit GrP GrA

theorem step_append_run {P : Program} (w : World) {ops : Array Oper} {o : Oper} {a : Act} {K : Act → World → Prop} {Q : Exit → Act → World → Prop} (E : Prop) (hgd : o.guard = none) (s x : Operand) (t tn : TypeId)
    (ho : o.op = .call { callee := .builtin .append, args := #[s, x], argTypes := #[t, tn] }) (vs vx : Value) (hs : a.eval s = vs) (hx : a.eval x = vx)
    (v' : Value) (w' : World) (hr : (Builtin.append_ #[t, tn] o.type #[vs, vx]).run P w = .ok v' w') (h : K (a.put o.dst v') w') : if Region.wanted o (yielded ops a.tmps) = true then Oper.wp P o a w K Q else E := by
  have hw : Region.wanted o (yielded ops a.tmps) = true := by simp [Region.wanted, hgd]
  rw [if_pos hw]
  exact Lib.wp_append_run w s x t tn ho vs vx hs hx v' w' hr h
theorem str_lit_ne {t k : Tx} (h : ¬ t = k) : ((strL t).toList == k) = false := by rw [strL_toList, beq_eq_false_iff_ne]; exact h
theorem str_lit_eq {t k : Tx} (h : t = k) : ((strL t).toList == k) = true := by rw [strL_toList, beq_iff_eq]; exact h
theorem slT_atU {W : World} {L : List Tx} {a : Addr} {n cap : Nat} (h : SlT W (.slice (some a) n cap) L) (i : Nat) (hi : i < L.length) : W.cell? (a.add i) = some (.string (strL (L.getD i []))) := by
  obtain ⟨a2, cap2, e, _, hc⟩ := h
  injection e with e1 e2 e3
  injection e1 with e1
  subst e1
  rw [List.getD_eq_getElem?_getD, List.getElem?_eq_getElem hi]
  exact hc i hi
theorem short_atU {L : List Tx} (h : Short L) (i : Nat) (hi : i < L.length) : (L.getD i []).length ≤ 4194304 := by
  rw [List.getD_eq_getElem?_getD, List.getElem?_eq_getElem hi]
  exact h _ (List.getElem_mem _)
/-- what the call owns, as a row -/
theorem own_row {W : World} {base : Nat} {e : TypeId} {v : Value} {n : Nat} {xs : List Value} (h : W.ownsRow base e 1 v n xs) (hn : 0 < n) :
    ∃ g cap R, v = .slice (some ⟨g, 0, none⟩) n cap ∧ base ≤ g ∧ xs.length = n ∧ n + R.length = cap ∧ cap ≤ maxLen ∧ Row W g (xs ++ R) e := by
  obtain ⟨h1, ⟨_, h0⟩ | ⟨g, cap, cur, rfl, hb, hg, hn2, hm, hs, hx⟩⟩ := h
  · omega
  · refine ⟨g, cap, cur.toList.drop n, rfl, hb, by simpa using h1, ?_, hm, ?_⟩
    · rw [List.length_drop, Array.length_toList, hs]; omega
    · unfold Row
      rw [hg, ← hx, Nat.mul_one, List.take_append_drop]
theorem row_own {W : World} {base g : Nat} {e : TypeId} {cap n : Nat} {xs R : List Value} (hb : base ≤ g) (hx : xs.length = n) (hc : n + R.length = cap) (hm : cap ≤ maxLen) (h : Row W g (xs ++ R) e) : W.ownsRow base e 1 (.slice (some ⟨g, 0, none⟩) n cap) n xs := by
  refine ⟨by omega, .inr ⟨g, cap, (xs ++ R).toArray, rfl, hb, h, by omega, hm, by simp; omega, ?_⟩⟩
  rw [Nat.mul_one, ← hx]
  simp
theorem slT_row {W : World} {g cap : Nat} {e : TypeId} {M : List Tx} {R : List Value} (hl : M.length ≤ 4194304) (h : Row W g (M.map sv ++ R) e) : SlT W (.slice (some ⟨g, 0, none⟩) M.length cap) M := by
  refine ⟨⟨g, 0, none⟩, cap, rfl, hl, fun i hi => ?_⟩
  have e : (⟨g, 0, none⟩ : Addr).add i = ⟨g, i, none⟩ := by unfold Addr.add; split <;> simp_all
  rw [e, h.cell i, List.getElem?_append_left (by simpa using hi)]
  simp [hi]
theorem slT_own {W : World} {base : Nat} {e : TypeId} {v : Value} {n : Nat} {M : List Tx} (h : W.ownsRow base e 1 v n (M.map sv)) (hn : n = M.length) (h0 : 0 < n) (hl : n ≤ 4194304) : SlT W v M := by
  obtain ⟨g, cap, R, rfl, _, _, _, _, r⟩ := own_row h h0
  subst hn
  exact slT_row hl r
/-- four texts appended to a slice without room -/
theorem app4 (W : World) (b ad : Addr) (x0 x1 x2 x3 : Tx) (h : ∀ j v, ([sv x0, sv x1, sv x2, sv x3] : List Value)[j]? = some v → W.cell? (ad.add j) = some v) (c : Nat) :
    ∃ v' w', (Builtin.append_ #[30, 30] 30 #[.slice (some b) 0 0, .slice (some ad) 4 c]).run Tryd.prog W = .ok v' w' ∧ SlT w' v' [x0, x1, x2, x3] ∧ Below W.heap.size W w' := by
  obtain ⟨i0, hi, hz0, hz1, hz2⟩ := info_parts strbytes
  refine ⟨_, _, run_append_grow (P := Tryd.prog) W 30 30 9 i0 _ Tryd.underlying30 hi hz0 b 0 0 [] (by simp) (by simp) ad 4 c [sv x0, sv x1, sv x2, sv x3] (by rw [hz1]; rfl) h (by omega) (by omega) (by rw [nextslicecap_zero (by omega), hz2]; decide), ?_, ?_⟩
  · refine ⟨⟨W.heap.size, 0, none⟩, _, rfl, by simp, fun i hi4 => ?_⟩
    have e : (⟨W.heap.size, 0, none⟩ : Addr).add i = ⟨W.heap.size, i, none⟩ := by unfold Addr.add; split <;> simp_all
    rw [e]
    have hi4 : i < 4 := by simpa using hi4
    refine (World.cell?_alloc_new W.drew _ _ i).trans ?_
    rw [Array.getElem?_append_left (by simp; omega)]
    have hi5 : i = 0 ∨ i = 1 ∨ i = 2 ∨ i = 3 := by omega
    rcases hi5 with rfl | rfl | rfl | rfl <;> simp [sv]
  · exact (Below.refl _ _).drew.alloc (Nat.le_refl _) _
end Go.Proofs.YtebpmngllljkaaaDoor
