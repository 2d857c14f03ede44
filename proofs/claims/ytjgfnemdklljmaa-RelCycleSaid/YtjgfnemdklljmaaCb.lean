/-
  Layer 1: onward, round, Cycle; the law RelCycle.
-/
import Derived.Test.YtjgfnemdklljmaaAt
set_option linter.unusedSimpArgs false
set_option linter.unusedVariables false
namespace GrR
open Go
def onwB (T U : Mx) (a g b : Nat) : Bool := T a b && (b == g || U b g)
def onwF (n : Nat) (T U : Mx) (a g : Nat) : Nat := ((List.range n).find? fun b => onwB T U a g b).getD g
theorem onw_at (n : Nat) (T U : Mx) (a g k : Nat) (h0 : ∀ b, b < k → onwB T U a g b = false) (hk : k < n) (h : onwB T U a g k = true) : onwF n T U a g = k := by
  unfold onwF
  rw [show n = k + (n - k) by omega, List.range_add, List.find?_append]
  have : (List.range k).find? (fun b => onwB T U a g b) = none := List.find?_eq_none.2 fun x hx => by rw [h0 x (List.mem_range.1 hx)]; simp
  rw [this, show n - k = (n - k - 1) + 1 by omega, List.range_succ_eq_map]
  simp [h]
theorem onw_none (n : Nat) (T U : Mx) (a g : Nat) (h0 : ∀ b, b < n → onwB T U a g b = false) : onwF n T U a g = g := by
  unfold onwF
  have : (List.range n).find? (fun b => onwB T U a g b) = none := List.find?_eq_none.2 fun x hx => by rw [h0 x (List.mem_range.1 hx)]; simp
  rw [this]
  rfl
/-- the way goes on -/
theorem onw_on {n : Nat} {T : Mx} (s : Sup n T) {a g : Nat} (h : wars T n a g = true) : T a (onwF n T (wars T n) a g) = true ∧ (onwF n T (wars T n) a g = g ∨ wars T n (onwF n T (wars T n) a g) g = true) ∧ onwF n T (wars T n) a g < n := by
  have r := wars_re T n a g h
  have ex : ∃ b, b < n ∧ onwB T (wars T n) a g b = true := by
    cases r with
    | one r => exact ⟨g, (s _ _ r).2, by simp [onwB, r]⟩
    | @more _ b _ r k => exact ⟨b, (s _ _ r).2, by simp [onwB, r, (wars_iff s b g).2 k]⟩
  obtain ⟨b, hb, hw⟩ := ex
  cases c : (List.range n).find? (fun b => onwB T (wars T n) a g b) with
  | none =>
    have := List.find?_eq_none.1 c b (List.mem_range.2 hb)
    exact absurd hw this
  | some x =>
    have e : onwF n T (wars T n) a g = x := by unfold onwF; rw [c]; rfl
    have hx := List.find?_some c
    have hn := List.mem_range.1 (List.mem_of_find?_eq_some c)
    rw [e]
    simp only [onwB, Bool.and_eq_true, Bool.or_eq_true, beq_iff_eq] at hx
    exact ⟨hx.1, hx.2, hn⟩
def atF (W : List Nat) (x : Nat) : Int := if x ∈ W then ((W.idxOf x + 1 : Nat) : Int) else 0
theorem atF_add {W : List Nat} {a : Nat} (h : a ∉ W) (x : Nat) : atF (W ++ [a]) x = if x = a then ((W.length + 1 : Nat) : Int) else atF W x := by
  unfold atF
  by_cases c : x = a
  · subst c
    rw [if_pos rfl, if_pos (by simp), List.idxOf_append, if_neg h]
    simp
  · rw [if_neg c]
    by_cases d : x ∈ W
    · rw [if_pos d, if_pos (by simp [d]), List.idxOf_append, if_pos d]
    · rw [if_neg d, if_neg (by simp [d, c])]
theorem atF_zero {W : List Nat} {x : Nat} : atF W x = 0 ↔ x ∉ W := by
  unfold atF
  by_cases c : x ∈ W
  · simp [c]; omega
  · simp [c]
/-- a way: each leads to the next one, the last to a; all lead to the first -/
structure WayR (n : Nat) (T : Mx) (W : List Nat) (a g : Nat) : Prop where
  nodup : W.Nodup
  bd : ∀ x ∈ W, x < n
  chain : ∀ i (h : i + 1 < W.length), T (W[i]'(by omega)) W[i + 1] = true
  last : ∀ (h : 0 < W.length), T (W[W.length - 1]'(by omega)) a = true
  goal : ∀ (h : 0 < W.length), W[0] = g
  start : W = [] → a = g
  an : a < n
  re : wars T n a g = true
  rg : wars T n g g = true
theorem WayR.step {n : Nat} {T : Mx} {W : List Nat} {a g : Nat} (s : Sup n T) (h : WayR n T W a g) (ha : a ∉ W) : WayR n T (W ++ [a]) (onwF n T (wars T n) a g) g := by
  obtain ⟨h1, h2, h3⟩ := onw_on s h.re
  refine ⟨?_, fun x hx => ?_, fun i hi => ?_, fun hl => ?_, fun hl => ?_, fun e => by simp at e, h3, ?_, h.rg⟩
  · rw [List.nodup_append]
    exact ⟨h.nodup, by simp, fun x hx y hy e => by simp at hy; subst hy; subst e; exact ha hx⟩
  · rw [List.mem_append, List.mem_singleton] at hx
    rcases hx with hx | rfl
    · exact h.bd x hx
    · exact h.an
  · simp only [List.length_append, List.length_singleton] at hi
    by_cases c : i + 1 < W.length
    · rw [List.getElem_append_left (by omega), List.getElem_append_left c]
      exact h.chain i c
    · have e : i + 1 = W.length := by omega
      rw [List.getElem_append_left (by omega), List.getElem_append_right (by omega)]
      have := h.last (by omega)
      simp only [show W.length - 1 = i by omega] at this
      simpa using this
  · simp only [List.length_append, List.length_singleton, Nat.add_sub_cancel]
    rw [List.getElem_append_right (by omega)]
    simpa using h1
  · by_cases c : W = []
    · subst c
      simpa using h.start rfl
    · have : 0 < W.length := List.length_pos_iff.2 c
      rw [List.getElem_append_left this]
      exact h.goal this
  · rcases h2 with e | e
    · rw [e]; exact h.rg
    · exact e
/-- what leads round -/
structure Round (T : Mx) (C : List Nat) : Prop where
  pos : 0 < C.length
  nodup : C.Nodup
  on : ∀ i (h : i < C.length), T C[i] (C[(i + 1) % C.length]'(Nat.mod_lt _ pos)) = true
theorem WayR.round {n : Nat} {T : Mx} {W : List Nat} {a g : Nat} (h : WayR n T W a g) (ha : a ∈ W) : Round T (W.drop (W.idxOf a)) := by
  have hi := List.idxOf_lt_length_of_mem ha
  have hg : W[W.idxOf a] = a := List.getElem_idxOf hi
  generalize hk : W.idxOf a = k at hi hg
  have hl : (W.drop k).length = W.length - k := List.length_drop
  refine ⟨by omega, h.nodup.sublist (List.drop_sublist _ _), fun i hi' => ?_⟩
  rw [List.getElem_drop]
  by_cases c : i + 1 < (W.drop k).length
  · have e : (i + 1) % (W.drop k).length = i + 1 := Nat.mod_eq_of_lt c
    simp only [e]
    rw [List.getElem_drop]
    have := h.chain (k + i) (by omega)
    simpa [Nat.add_assoc] using this
  · have e : (i + 1) % (W.drop k).length = 0 := by rw [show i + 1 = (W.drop k).length by omega, Nat.mod_self]
    simp only [e]
    rw [List.getElem_drop]
    simp only [Nat.add_zero]
    rw [hg]
    have := h.last (by omega)
    simp only [show W.length - 1 = k + i by omega] at this
    exact this
theorem WayR.full {n : Nat} {T : Mx} {W : List Nat} {a g : Nat} (h : WayR n T W a g) : W.length ≤ n := by
  have := sub_le W (List.range n) h.nodup (fun x hx => List.mem_range.2 (h.bd x hx))
  simpa using this
end GrR
namespace Go.Proofs.Ytjgfnemdklljmaa
open Go.RowKit GrR

set_option maxRecDepth 100000 in
set_option maxHeartbeats 3200000 in
theorem onward_any (B R n : Nat) (T U : Mx) (a g : Nat) (w : World) (hB : RelAt w B n T) (hR : RelAt w R n U) (ha : a < 128) (hg : g < 128) :
    Calls Try.prog 64 #[.pointer (some ⟨B, 0, none⟩), .pointer (some ⟨R, 0, none⟩), .int .i64 (a : Int), .int .i64 (g : Int)] w fun e w' => e = .returned (.int .i64 ((onwF n T U a g : Nat) : Int)) ∧ w = w' := by
  have c0 := hB.size
  have M := Lib.hid hB.most
  have HA := Lib.hid (fun k (hk : k < 128) => bit_any B n T a k w hB ha hk)
  have HG := Lib.hid (fun k (hk : k < 128) => bit_any R n U k g w hR hk hg)
  have AL := Lib.hid ha
  have GL := Lib.hid hg
  have a1 : (a : Int) < 128 := by omega
  clear hB hR ha hg
  go_enter Try.func64, Try.ntmps64
  go_wp2_with fail
  clear c0
  go_loop [14] (fun i => ∃ k : Nat, k ≤ n ∧ i = .int .i64 (k : Int) ∧ ∀ b, b < k → onwB T U a g b = false) (fun i => n - (intOf i).toNat)
  case atStart => exact ⟨0, by omega, rfl, fun i hi => absurd hi (by omega)⟩
  case round =>
    obtain ⟨k, hk, rfl, ht⟩ := hrel
    have HT := Lib.hid ht
    clear ht
    by_cases ck : k < n
    · have k1 : (k : Int) < (n : Int) := by omega
      have k0 : (0 : Int) ≤ (k : Int) := by omega
      have k2 : (k : Int) < 128 := by have := M.out; omega
      have next := fun (q : onwB T U a g k = false) => show ∀ b, b < k + 1 → onwB T U a g b = false from fun b hb => by
        by_cases e : b = k
        · rw [e]; exact q
        · exact HT.out b (by omega)
      have NX := Lib.hid next
      clear next
      have H1 := Lib.hid (HA.out k (by omega))
      have H2 := Lib.hid (HG.out k (by omega))
      cases c1 : T a k with
      | false =>
        rw [c1] at H1
        have Q := Lib.hid (NX.out (by simp [onwB, c1]))
        go_wp2_with fail
        refine H1.out.mono ?_
        rintro e w9 ⟨rfl, rfl⟩
        go_wp2_with fail
        go_round
        case rel => exact ⟨k + 1, by omega, by go_num, Q.out⟩
        case measure => simp [intOf]; omega
      | true =>
        rw [c1] at H1
        cases c2 : ((k : Int) == (g : Int)) with
        | true =>
          have Q := Lib.hid (onw_at n T U a g k HT.out ck (by
            have : k = g := by simp at c2; omega
            subst this; simp [onwB, c1]))
          go_wp2_with fail
          refine H1.out.mono ?_
          rintro e w9 ⟨rfl, rfl⟩
          go_wp2
          go_ret
          exact ⟨(by rw [Q.out]; rfl), rfl⟩
        | false =>
          have kg := Lib.hid (show (k == g) = false by
            have : ¬ k = g := fun e => by rw [e] at c2; simp at c2
            simp [this])
          cases c3 : U k g with
          | true =>
            rw [c3] at H2
            have Q := Lib.hid (onw_at n T U a g k HT.out ck (by simp [onwB, c1, c3]))
            go_wp2_with fail
            refine H1.out.mono ?_
            rintro e w9 ⟨rfl, rfl⟩
            go_wp2_with fail
            refine H2.out.mono ?_
            rintro e w9 ⟨rfl, rfl⟩
            go_wp2
            go_ret
            exact ⟨(by rw [Q.out]; rfl), rfl⟩
          | false =>
            rw [c3] at H2
            have Q := Lib.hid (NX.out (by simp only [onwB, c1, c3, kg.out]; rfl))
            go_wp2_with fail
            refine H1.out.mono ?_
            rintro e w9 ⟨rfl, rfl⟩
            go_wp2_with fail
            refine H2.out.mono ?_
            rintro e w9 ⟨rfl, rfl⟩
            go_wp2_with fail
            go_round
            case rel => exact ⟨k + 1, by omega, by go_num, Q.out⟩
            case measure => simp [intOf]; omega
    · obtain rfl : k = n := by omega
      have i2 : ¬ (k : Int) < (k : Int) := by omega
      have D := Lib.hid (onw_none k T U a g HT.out)
      go_wp2
      go_ret
      exact ⟨(by rw [D.out]; rfl), rfl⟩

theorem zeroAt : (Try.zeroCells81 : Array Value) = (intC 128 (fun _ => 0)).toArray := by kernel_rfl
theorem SlN.drop {W : World} {g n c : Nat} {L : List Nat} (h : SlN W (.slice (some ⟨g, 0, none⟩) n c) L) (i : Nat) (hi : i < n) : SlN W (.slice (some ⟨g, i, none⟩) (n - i) (c - i)) (L.drop i) := by
  have hl := h.len
  obtain ⟨h1, ⟨e, _⟩ | ⟨b, cap, e, hn, hm, hx⟩⟩ := h
  · cases e
  · injection e with e1 e2 e3
    injection e1 with e1
    subst e1 e3
    unfold SlN
    rw [List.length_drop, ← hl]
    refine ⟨by simp [natC, hl], .inr ⟨_, _, rfl, by omega, by omega, fun j u hj => ?_⟩⟩
    unfold natC at hj hx
    rw [List.map_drop, List.getElem?_drop] at hj
    have := hx (i + j) u hj
    have e : ((⟨g, i, none⟩ : Addr).add j) = ((⟨g, 0, none⟩ : Addr).add (i + j)) := by
      unfold Addr.add
      by_cases c0 : j = 0
      · subst c0
        by_cases c1 : i = 0
        · subst c1; simp
        · simp [c1]
      · have : ¬ i + j = 0 := by omega
        simp [c0, this]
    rw [e]
    exact this

def RoundPost (T : Mx) (w : World) (e : Ending) (w' : World) : Prop := ∃ v C, e = .returned v ∧ SlN w' v C ∧ Round T C ∧ C.length ≤ 128 ∧ Below w.heap.size w w'
set_option maxRecDepth 100000 in
set_option maxHeartbeats 12800000 in
theorem round_any (B R n : Nat) (T : Mx) (a : Nat) (w : World) (hB : RelAt w B n T) (hR : RelAt w R n (wars T n)) (ha : a < n) (hr : wars T n a a = true) :
    Calls Try.prog 61 #[.pointer (some ⟨B, 0, none⟩), .pointer (some ⟨R, 0, none⟩), .int .i64 (a : Int)] w (RoundPost T w) := by
  obtain ⟨i0, hi, hz0, hz1, hz2⟩ := info_parts intInfo
  have HB := Lib.hid hB
  have HR := Lib.hid hR
  have M := Lib.hid hB.most
  have SU := Lib.hid hB.sup
  have W0 := Lib.hid (show WayR n T [] a a from ⟨List.Pairwise.nil, by simp, by simp, by simp, by simp, fun _ => rfl, ha, hr, hr⟩)
  have A0 := Lib.hid (show Row (w.alloc (.cells Try.zeroCells81 81)) w.heap.size (intC 128 (atF [])) 81 by
    rw [zeroAt, intC_ext (g := fun _ => 0) (fun i _ => by simp [atF])]
    exact Row.new w _ _)
  have B0 := Lib.hid (KB.alloc (Below.refl _ w) (.cells Try.zeroCells81 81))
  clear hB hR
  go_enter Try.func61, Try.ntmps61
  go_wp2_with fail
  go_loopg [2, 7] n (fun gk c v wr => ∃ (W : List Nat) (x : Nat), W.length + gk = n ∧ c = .int .i64 (x : Int) ∧ WayR n T W x a ∧ Row wr w.heap.size (intC 128 (atF W)) 81 ∧ wr.ownsRow (w.heap.size + 1) 3 1 v W.length (natC W) ∧ Below w.heap.size w wr)
  case atStart => exact ⟨[], a, by simp, rfl, W0.out, A0.out, World.ownsRow_nil _ _ _ _, B0.out⟩
  case round =>
    clear W0 A0 B0
    obtain ⟨W, x, hg, rfl, hw, hrow, ho, hb⟩ := hrel
    obtain ⟨p, m, cp, rfl⟩ := SlAt.form (SlAt.own ho)
    have EM := Lib.hid (SlN.len (L := W) (SlAt.own ho))
    have WY := Lib.hid hw
    have RR := Lib.hid hrow
    have HO := Lib.hid ho
    have HW := Lib.hid hb
    have HG := Lib.hid hg
    have WF := Lib.hid hw.full
    have XN := Lib.hid hw.an
    have x1 : (x : Int) < 128 := by have := hw.an; have := M.out; omega
    have x0 : (0 : Int) ≤ (x : Int) := by omega
    have c0 : wr.cell? ⟨w.heap.size, x, none⟩ = some (.int .i64 (atF W x)) := by rw [RR.out.cell, intC_get (by omega)]
    clear hw hrow ho hb hg
    by_cases cx : x ∈ W
    · have ix := List.idxOf_lt_length_of_mem cx
      have RD := Lib.hid (WY.out.round cx)
      obtain ⟨i, hi2⟩ : ∃ i, i = W.idxOf x := ⟨_, rfl⟩
      have AE := Lib.hid (show atF W x = (i : Int) + 1 by unfold atF; rw [if_pos cx, hi2]; simp)
      rw [← hi2] at RD ix
      rw [AE.out] at c0
      have IX := Lib.hid (show i < m by have := EM.out; omega)
      have m9 : (m : Int) ≤ 128 := by have := EM.out; have := WF.out; have := M.out; omega
      have i1 : (i : Int) < (m : Int) := by have := IX.out; omega
      have i0' : (0 : Int) ≤ (i : Int) := by omega
      have ine : (((i : Int) + 1) == (0 : Int)) = false := by simp; omega
      obtain ⟨pa, rfl⟩ := SlN.addr (L := W) (SlAt.own HO.out) (by omega)
      have OO := Lib.hid (own_open HO.out)
      clear hi2 ix cx
      rcases OO.out with ⟨e1, _⟩ | ⟨g, cap, e1, hb1, hb2, _⟩
      · exact absurd e1 (by simp)
      · injection e1 with e1 e2 e3
        injection e1 with e1
        subst e1
        subst e3
        have CC := Lib.hid (show m ≤ cp by
          obtain ⟨_, ⟨e, _⟩ | ⟨b, cap, e, hn, _⟩⟩ := SlAt.own HO.out
          · cases e
          · injection e with e1 e2 e3; omega)
        have cn : ¬ cp = i := by have := CC.out; omega
        have S2 := Lib.hid (SlN.drop (L := W) (SlAt.own HO.out) i IX.out)
        have CL := Lib.hid (show (W.drop i).length ≤ 128 by rw [List.length_drop]; have := WF.out; have := M.out; omega)
        have ic : (i : Int) ≤ (cp : Int) := by have := CC.out; omega
        clear hb1 hb2 OO e2
        go_wp2_with fail
        go_ret
        first
          | exact ⟨_, _, rfl, S2.out, RD.out, CL.out, HW.out⟩
          | exact ⟨_, _, rfl, by have := S2.out; rw [EM.out] at this; exact this, RD.out, CL.out, HW.out⟩
    · have WS := Lib.hid (WY.out.step SU.out cx)
      have AZ : atF W x = 0 := atF_zero.2 cx
      rw [AZ] at c0
      have FA := Lib.hid (atF_add cx)
      have WF2 := Lib.hid WS.out.full
      obtain ⟨f, rfl⟩ : ∃ f, gk = f + 1 := ⟨gk - 1, by have := HG.out; have := WF2.out; simp at this; omega⟩
      have m9 : m ≤ 128 := by have := EM.out; have := WF.out; have := M.out; omega
      clear cx AZ
      go_upto_region 4 with fail
      clear c0
      have O1 := Lib.hid (show wr.ownsRow (w.heap.size + 1) 3 1 (.slice p m cp) m (natC W) by have := HO.out; rwa [← EM.out] at this)
      go_wp2_with (at_builtin; refine wpList_append_own _ rfl (.tmp 13) (.tmp 15) 50 rfl (w.heap.size + 1) 3 i0 (.int .i64 0) 1 8 Try.underlying50 hi hz0 hz1 hz2 rfl (by decide) _ _ _ rfl (O1.out.alloc _) ⟨wr.heap.size, 0, none⟩ 1 1 [.int .i64 (x : Int)] rfl rfl (one_new' _ _ _) ?c2 ?c3 ?c4 ?c5 ?_)
      case c2 => first | rfl | exact one_int' _ _
      case c3 => unfold maxLen; omega
      case c4 => omega
      case c5 => have := RR.out.lt; simp; omega
      intro v' w3 hown' hgrow _
      have R4 := Lib.hid ((RR.out.old (.cells #[.int .i64 (x : Int)] 3)).grownR hgrow (fun e => by have := (O1.out.lt _ e.symm).1; omega))
      have B4 := Lib.hid (show Below w.heap.size w w3 from (HW.out.alloc HW.out.size _).grown hgrow (by have := HW.out.size; simp; omega) (fun j hj => by have := (O1.out.lt j hj).1; omega))
      have O4 := Lib.hid (show w3.ownsRow (w.heap.size + 1) 3 1 v' (m + 1) (natC (W ++ [x])) by
        unfold natC at hown' ⊢
        rw [List.map_append]
        exact hown')
      have LN := Lib.hid (show (W ++ [x]).length = m + 1 by simp [EM.out])
      have S4 := Lib.hid (show SlN w3 v' (W ++ [x]) by unfold SlN; rw [LN.out]; exact SlAt.own O4.out)
      clear hown' hgrow O1
      obtain ⟨p', m', cp', rfl⟩ := SlAt.form S4.out
      obtain rfl : m' = m + 1 := by have := S4.out.len; have := LN.out; omega
      obtain ⟨pa, rfl⟩ := SlN.addr S4.out (by omega)
      have c0 : w3.cell? ⟨w.heap.size, x, none⟩ = some (.int .i64 (atF W x)) := by rw [R4.out.cell, intC_get (by omega)]
      have f0 := R4.out.free x
      obtain ⟨ov, hov⟩ : ∃ ov, ov = atF W x := ⟨_, rfl⟩
      rw [← hov] at c0
      clear hov
      have m10 : (m : Int) ≤ 128 := by omega
      go_upto_region 6 with fail
      clear c0 f0
      refine to_cls ?_
      intro U hU z
      have R5 := Lib.hid (show Row z.at w.heap.size (intC 128 (atF (W ++ [x]))) 81 by
        have := Row.next (R4.out.set x (.int .i64 ((m : Int) + 1))) hU z
        rw [intC_set] at this
        rw [intC_ext (g := fun k => if k = x then (m : Int) + 1 else atF W k) (fun k _ => by
          rw [FA.out k, ← EM.out]
          split <;> simp)]
        exact this)
      have B5 := Lib.hid (KB.next (KB.put B4.out (Nat.le_refl _) x (.int .i64 ((m : Int) + 1))) hU z)
      have O5 := Lib.hid (own_below (own_below (own_set O4.out (show w.heap.size < w.heap.size + 1 by omega) x (.int .i64 ((m : Int) + 1))) hU) z.bel)
      have S5 := Lib.hid (show SlN z.at (.slice (some pa) (m + 1) cp') (W ++ [x]) by unfold SlN; rw [LN.out]; exact SlAt.own O5.out)
      have HB5 := Lib.hid (HB.out.below B5.out)
      have HR5 := Lib.hid (HR.out.below B5.out)
      clear hU R4 B4 O4 S4
      have g0 := S5.out.at 0 (by have := LN.out; omega)
      have G0 := Lib.hid (WS.out.goal (by have := LN.out; omega))
      rw [G0.out] at g0
      have g1 : z.at.cell? pa = some (.int .i64 (a : Int)) := by simpa [Addr.add] using g0
      have ON := Lib.hid (onward_any B R n T (wars T n) x a z.at HB5.out HR5.out (by omega) (by have := M.out; omega))
      have OB := Lib.hid WS.out.an
      obtain ⟨y, hy⟩ : ∃ y, y = onwF n T (wars T n) x a := ⟨_, rfl⟩
      rw [← hy] at ON WS OB
      clear hy
      go_wp2_with fail
      refine ON.out.mono ?_
      rintro e w9 ⟨rfl, rfl⟩
      clear g0 g1
      go_wp2_with fail
      go_roundg f
      case measure => omega
      case rel => exact ⟨W ++ [x], y, by rw [LN.out]; have := HG.out; have := EM.out; omega, rfl, WS.out, R5.out, by rw [LN.out]; exact O5.out, B5.out⟩

def CycPost (n : Nat) (T : Mx) (w : World) (e : Ending) (w' : World) : Prop :=
  Below w.heap.size w w' ∧ if acyc n T = true then e = .returned (.slice none 0 0) else ∃ v C, e = .returned v ∧ SlN w' v C ∧ Round T C ∧ C.length ≤ 128
set_option maxRecDepth 100000 in
set_option maxHeartbeats 3200000 in
theorem cycle_any (B n : Nat) (T : Mx) (w : World) (hB : RelAt w B n T) :
    Calls Try.prog 44 #[.pointer (some ⟨B, 0, none⟩)] w (CycPost n T w) := by
  have CL := Lib.hid (closure_any B n T w hB)
  have HB := Lib.hid hB
  have M := Lib.hid hB.most
  clear hB
  go_enter Try.func44, Try.ntmps44
  go_wp2_with fail
  refine CL.out.mono ?_
  rintro e w1 ⟨rfl, hr, hb⟩
  have HR := Lib.hid hr
  have H1 := Lib.hid (HB.out.below hb)
  have B1 := Lib.hid hb
  clear hr hb CL HB
  obtain ⟨R, hR⟩ : ∃ R, R = w.heap.size := ⟨_, rfl⟩
  rw [← hR] at HR ⊢
  have RE := Lib.hid hR
  clear hR
  go_wp2_with fail
  refine (size_any B n T w1 H1.out).mono ?_
  rintro e w2 ⟨rfl, rfl⟩
  go_wp2_with fail
  go_loop [9] (fun i => ∃ k : Nat, k ≤ n ∧ i = .int .i64 (k : Int) ∧ ∀ i, i < k → wars T n i i = false) (fun i => n - (intOf i).toNat)
  case atStart => exact ⟨0, by omega, rfl, fun i hi => absurd hi (by omega)⟩
  case round =>
    obtain ⟨k, hk, rfl, ht⟩ := hrel
    have HT := Lib.hid ht
    clear ht
    by_cases ck : k < n
    · have k1 : (k : Int) < (n : Int) := by omega
      have k0 : (0 : Int) ≤ (k : Int) := by omega
      have k2 : (k : Int) < 128 := by have := M.out; omega
      have BA := Lib.hid (bit_any R n _ k k w1 HR.out (by omega) (by omega))
      cases c : wars T n k k with
      | false =>
        rw [c] at BA
        go_wp2_with fail
        refine BA.out.mono ?_
        rintro e w2 ⟨rfl, rfl⟩
        go_wp2_with fail
        go_round
        case rel => exact ⟨k + 1, by omega, by go_num, fun i hi => by
          by_cases e : i = k
          · rw [e]; exact c
          · exact HT.out i (by omega)⟩
        case measure => simp [intOf]; omega
      | true =>
        rw [c] at BA
        have D := Lib.hid (show ¬ acyc n T = true from fun q => by
          have := acyc_iff.1 q k ck
          rw [c] at this; cases this)
        have RO := Lib.hid (round_any B R n T k w1 H1.out HR.out ck c)
        go_wp2_with fail
        refine BA.out.mono ?_
        rintro e w2 ⟨rfl, rfl⟩
        go_wp2_with fail
        refine RO.out.mono ?_
        rintro e w3 ⟨v, C, rfl, h1, h2, h3, h4⟩
        have H4 := Lib.hid (B1.out.trans (h4.mono B1.out.size))
        have S4 := Lib.hid (show ∃ v' C, v = v' ∧ SlN w3 v' C ∧ Round T C ∧ C.length ≤ 128 from ⟨v, C, rfl, h1, h2, h3⟩)
        clear h1 h2 h3 h4
        go_wp2
        go_ret
        refine ⟨H4.out, ?_⟩
        rw [if_neg D.out]
        obtain ⟨v', C, rfl, q1, q2, q3⟩ := S4.out
        exact ⟨_, C, rfl, q1, q2, q3⟩
    · obtain rfl : k = n := by omega
      have i2 : ¬ (k : Int) < (k : Int) := by omega
      have D := Lib.hid (acyc_iff.2 HT.out)
      go_wp2
      go_ret
      exact ⟨B1.out, by rw [if_pos D.out]; rfl⟩
theorem tmod_nat (i L : Nat) (hL : 0 < L) : ((i : Int) + 1).tmod (L : Int) = (((i + 1) % L : Nat) : Int) := by
  rw [Int.tmod_eq_emod_of_nonneg (by omega)]
  simp

set_option maxRecDepth 100000 in
set_option maxHeartbeats 12800000 in
theorem RelCycle_walk (n : Int) (v : Value) (P : List Pr) (w : World) (h : SlP w v P) :
    Calls Try.prog 9 #[.int .i64 n, v] w fun e w' => e = .returned (.bool true) ∧ Below w.heap.size w w' := by
  have S0 := Lib.hid h
  clear h
  have AW := Lib.hid (fun w => awake_any w)
  go_enter Try.func9, Try.ntmps9
  go_wp2_with fail
  refine (AW.out _).mono ?_
  rintro e w1 ⟨rfl, hb⟩
  have BW_1 := Lib.hid (hb)
  clear hb
  go_wp2_with fail
  refine (bothZ n _ P _ (S0.out.below BW_1.out)).mono ?_
  rintro e w2 ⟨pr, rfl, hb, hp⟩
  have BW_2 := Lib.hid (BW_1.out.trans (hb.mono BW_1.out.size))
  clear BW_1
  clear hb
  rcases hp with rfl | ⟨m1, B1, O1, e1, l1, rfl, hr, ht, lo1, hi1⟩
  · go_wp2; go_ret; exact ⟨rfl, BW_2.out⟩
  have R_2 := Lib.hid (hr)
  have SU := Lib.hid hr.sup
  subst e1
  clear hr ht
  go_wp2_with fail
  refine (cycle_any B1 m1 _ _ R_2.out).mono ?_
  rintro e w3 ⟨hb, hp⟩
  have R_3 := Lib.hid (R_2.out.below hb)
  have BW_3 := Lib.hid (BW_2.out.trans (hb.mono BW_2.out.size))
  clear R_2 BW_2
  clear hb
  have RB := Lib.hid (acyclic_any B1 m1 (ofM P) _ R_3.out)
  cases ca : acyc m1 (ofM P) with
  | true =>
    rw [if_pos ca] at hp
    subst hp
    rw [ca] at RB
    clear ca
    go_wp2_with fail
    refine (RB.out).mono ?_
    rintro e w4 ⟨rfl, hb⟩
    have R_4 := Lib.hid (R_3.out.below hb)
    have BW_4 := Lib.hid (BW_3.out.trans (hb.mono BW_3.out.size))
    clear R_3 BW_3
    clear hb
    go_wp2_with fail
    refine wp_loop_rounds 2 ?_
    rw [rounds_succ]
    go_wp2
    go_ret
    exact ⟨rfl, BW_4.out⟩
  | false =>
    rw [if_neg (by rw [ca]; simp)] at hp
    obtain ⟨v, C, rfl, hs, hro, hlen⟩ := hp
    rw [ca] at RB
    obtain ⟨p, LL, c, rfl⟩ := SlAt.form hs
    have E := Lib.hid hs.len
    have RO := Lib.hid hro
    have L9 : LL ≤ 128 := by have := hs.len; omega
    have L0 : 0 < LL := by have := hs.len; have := hro.pos; omega
    have C_3 := Lib.hid (hs)
    clear hs hro hlen
    have lz : ((LL : Int) == (0 : Int)) = false := by simp; omega
    clear ca
    go_wp2_with fail
    refine (RB.out).mono ?_
    rintro e w4 ⟨rfl, hb⟩
    have R_4 := Lib.hid (R_3.out.below hb)
    have C_4 := Lib.hid (C_3.out.below hb)
    have BW_4 := Lib.hid (BW_3.out.trans (hb.mono BW_3.out.size))
    clear R_3 C_3 BW_3
    clear hb
    obtain ⟨a, rfl⟩ := SlN.addr C_4.out L0
    go_wp2_with fail
    clear lz
    go_loopw [8] (fun i wr => ∃ k : Nat, k ≤ LL ∧ i = .int .i64 (k : Int) ∧ Below w4.heap.size w4 wr) (fun i _ => LL - (intOf i).toNat)
    case atStart => exact ⟨0, by omega, rfl, Below.refl _ _⟩
    case round =>
      obtain ⟨k, hk, rfl, hb⟩ := hrel
      have HW := Lib.hid hb
      clear hb
      by_cases ck : k < LL
      · have k1 : (k : Int) < (LL : Int) := by omega
        have k0 : (0 : Int) ≤ (k : Int) := by omega
        have k2 : (LL : Int) ≤ 128 := by omega
        have lk : k < C.length := by have := E.out; omega
        obtain ⟨j, hj⟩ : ∃ j, j = (k + 1) % LL := ⟨_, rfl⟩
        have jl : j < LL := by rw [hj]; exact Nat.mod_lt _ L0
        have ljC : j < C.length := by have := E.out; omega
        have TR := Lib.hid (show ofM P C[k] C[j] = true by
          have := RO.out.on k lk
          have e : (k + 1) % C.length = j := by rw [hj, ← E.out]
          simp only [e] at this
          exact this)
        have HZ := Lib.hid (show hasZ m1 (ofM P) ((C[k] : Nat) : Int) ((C[j] : Nat) : Int) = true by rw [hasZ_nat SU.out]; exact TR.out)
        have x1 : ∀ z : Wb wr, z.at.cell? (a.add k) = some (.int .i64 ((C[k] : Nat) : Int)) := fun z => (C_4.out.below (KB.at HW.out z)).at k lk
        have x2 : ∀ z : Wb wr, z.at.cell? (a.add j) = some (.int .i64 ((C[j] : Nat) : Int)) := fun z => (C_4.out.below (KB.at HW.out z)).at j ljC
        have ND := Lib.hid (fun q (hq : q < k) => show C[q]'(by omega) ≠ C[k] from fun e => by
          have := (List.nodup_iff_pairwise_ne.1 RO.out.nodup)
          have := List.pairwise_iff_getElem.1 this q k (by omega) lk hq
          exact this e)
        have CQ := Lib.hid (fun q (hq : q < k) (U : World) (b : Below wr.heap.size wr U) => (C_4.out.below (HW.out.trans (b.mono HW.out.size))).at q (by omega))
        obtain ⟨u, hu⟩ : ∃ u, u = C[k] := ⟨_, rfl⟩
        obtain ⟨y, hy⟩ : ∃ y, y = C[j] := ⟨_, rfl⟩
        rw [← hu] at x1 HZ ND
        rw [← hy] at x2 HZ
        have tm : ((k : Int) + 1).tmod (LL : Int) = (j : Int) := by rw [tmod_nat k LL L0, hj]
        have w1 : IntKind.i64.wrap ((k : Int) + 1) = (k : Int) + 1 := by rw [IntKind.wrap_i64]; omega
        have w2 : IntKind.i64.wrap (j : Int) = (j : Int) := by rw [IntKind.wrap_i64]; omega
        have j1 : (j : Int) < (LL : Int) := by omega
        have j0 : (0 : Int) ≤ (j : Int) := by omega
        have l0 : ¬ (LL : Int) = 0 := by omega
        have l0b : ((LL : Int) == 0) = false := by simp; omega
        have HC := Lib.hid (fun z : Wb wr => Calls.same_below (relhas_any B1 m1 (ofM P) (u : Int) (y : Int) z.at (R_4.out.below (KB.at HW.out z))) (Below.refl _ _))
        rw [HZ.out] at HC
        clear hu hy hj TR
        go_wp2_with fail
        refine wp_region_wb (by kernel_rfl) (by kernel_rfl) ?_
        repeat (go_big_quiet_step ((go_at_call 20; with_reducible exact Calls.wb (x := _) (HC.out _))))
        refine wpQuiet_nil ?_
        rintro _ ⟨z9, rfl⟩
        clear x1 x2 tm w1 w2 j1 j0 l0 l0b
        have B9 := Lib.hid z9.bel
        go_wp2_with fail
        have CK0 := Lib.hid (fun (U : World) (b : Below wr.heap.size wr U) => (C_4.out.below (HW.out.trans (b.mono HW.out.size))).at k lk)
        go_loopw [9] (fun i wr2 => ∃ q : Nat, q ≤ k ∧ i = .int .i64 (q : Int) ∧ Below wr.heap.size wr wr2) (fun i _ => k - (intOf i).toNat)
        case atStart => exact ⟨0, by omega, rfl, B9.out⟩
        case round =>
          clear B9
          obtain ⟨q, hq, rfl, hb⟩ := hrel
          have HQ := Lib.hid hb
          clear hb
          by_cases cq : q < k
          · have q1 : (q : Int) < (k : Int) := by omega
            have q0 : (0 : Int) ≤ (q : Int) := by omega
            have q2 : (q : Int) < (LL : Int) := by omega
            have NE := Lib.hid (ND.out q cq)
            have CC := Lib.hid (fun z : Wb wr => CQ.out q cq _ (KB.at HQ.out z))
            have CK := Lib.hid (fun z : Wb wr => CK0.out _ (KB.at HQ.out z))
            have UU := Lib.hid (ND.out q cq)
            obtain ⟨t, ht⟩ : ∃ t, t = C[q] := ⟨_, rfl⟩
            obtain ⟨u2, hu2⟩ : ∃ u, u = C[k] := ⟨_, rfl⟩
            rw [← ht] at CC NE
            rw [← hu2] at CK
            have TU := Lib.hid (show ((t : Int) == (u2 : Int)) = false by
              have e : C[q] ≠ C[k] := fun e => by
                have := List.pairwise_iff_getElem.1 (List.nodup_iff_pairwise_ne.1 RO.out.nodup) q k (by omega) lk cq
                exact this e
              have : t ≠ u2 := by rw [ht, hu2]; exact e
              simp; omega)
            have tu := TU.out
            clear ht hu2
            have y1 : ∀ z : Wb wr, z.at.cell? (a.add q) = some (.int .i64 (t : Int)) := fun z => CC.out z
            have y2 : ∀ z : Wb wr, z.at.cell? (a.add k) = some (.int .i64 (u2 : Int)) := fun z => CK.out z
            go_wp2_with fail
            refine wp_region_wb (by kernel_rfl) (by kernel_rfl) ?_
            repeat (go_big_quiet_step (fail))
            refine wpQuiet_nil ?_
            rintro _ ⟨z8, rfl⟩
            clear y1 y2
            have B8 := Lib.hid (KB.at HQ.out z8)
            go_wp2_with fail
            clear tu
            go_roundw
            case rel => exact ⟨q + 1, by omega, by go_num, B8.out⟩
            case measure => simp [intOf]; omega
          · obtain rfl : q = k := by omega
            have i2 : ¬ (q : Int) < (q : Int) := by omega
            go_wp2_with fail
            go_roundw
            case rel => exact ⟨q + 1, by omega, by go_num, HW.out.trans (HQ.out.mono HW.out.size)⟩
            case measure => simp [intOf]; omega
      · obtain rfl : k = LL := by omega
        have i2 : ¬ (k : Int) < (k : Int) := by omega
        go_wp2
        go_ret
        exact ⟨rfl, BW_4.out.trans (HW.out.mono BW_4.out.size)⟩
end Go.Proofs.Ytjgfnemdklljmaa
