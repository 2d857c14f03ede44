/-
  Layer 6, numbers: the page's cells of a list are the pairs of the tree that holds what was written; the codes of Of.
  Layer 6: the telling of a map's numbers: each, as an iterator over a tree.
  Layer 6, the walks: the memory's Cells.
  Layer 6, the walks: Same, and the page's.
  Layer 6, the walks: Of and the page's, with what they answer.
-/
import Derived.Test.YtnpgpbcpgniloaaSo
import Derived.RangeFuncNested
import Derived.RangeFuncBound
import Derived.RangeFuncCalls
import Derived.RangeFuncLeaves
import Derived.Shelf.Abstract
import Derived.Shelf.RegionOpen
import Derived.WalkKit
import Derived.OwnWalkIn
import Derived.TacticsInMore
import Derived.LoopNIn
import Derived.LoopIn
import Derived.Maps.AppendAt
import Derived.Test.YtnpgpbcpgniloaaBy
set_option linter.unusedSimpArgs false
set_option linter.unusedVariables false
namespace GrS
def SortI (L : List (Int × Int)) : Prop := L.Pairwise fun p q => p.1 < q.1
theorem posL_cons (p : Int × Int) (l : List (Int × Int)) (a : Int) : posL (p :: l) a = if p.1 < a then posL l a + 1 else 0 := by
  unfold posL
  by_cases c : p.1 < a
  · simp [List.takeWhile_cons, c]
  · simp [List.takeWhile_cons, c]
theorem insC_cons (p : Int × Int) (l : List (Int × Int)) (a v : Int) (hv : v ≠ 0) : insC (p :: l) a v = if p.1 < a then p :: insC l a v else if p.1 = a then p :: l else (a, v) :: p :: l := by
  have vb : (v == 0) = false := by simpa using hv
  unfold insC
  rw [vb, Bool.false_or, Bool.false_or]
  by_cases c : p.1 < a
  · have f : fndB (p :: l) a = fndB l a := by unfold fndB; rw [posL_cons, if_pos c]; simp
    rw [f, posL_cons, if_pos c, if_pos c]
    split <;> simp
  · by_cases d : p.1 = a
    · have f : fndB (p :: l) a = true := by unfold fndB; rw [posL_cons, if_neg c]; simpa using d
      rw [if_pos f, if_neg c, if_pos d]
    · have f : fndB (p :: l) a = false := by unfold fndB; rw [posL_cons, if_neg c]; simpa using d
      rw [f, if_neg (by decide), posL_cons, if_neg c, if_neg c, if_neg d]
      simp
theorem insC_ok (a v : Int) (hv : v ≠ 0) : ∀ (out : List (Int × Int)), SortI out → SortI (insC out a v) ∧ ∀ p, p ∈ insC out a v ↔ (p ∈ out ∨ (p = (a, v) ∧ ∀ q ∈ out, q.1 ≠ a))
  | [], _ => by
    have vb : (v == 0) = false := by simpa using hv
    have e : insC [] a v = [(a, v)] := by simp [insC, vb, fndB, posL]
    rw [e]
    exact ⟨List.pairwise_singleton _ _, fun p => by simp⟩
  | r :: l, h => by
    have h' := List.pairwise_cons.1 h
    obtain ⟨i1, i2⟩ := insC_ok a v hv l h'.2
    rw [insC_cons r l a v hv]
    by_cases c : r.1 < a
    · rw [if_pos c]
      refine ⟨List.pairwise_cons.2 ⟨fun q hq => ?_, i1⟩, fun p => ?_⟩
      · rcases (i2 q).1 hq with hq | ⟨rfl, _⟩
        · exact h'.1 q hq
        · exact c
      · rw [List.mem_cons, List.mem_cons, i2]
        constructor
        · rintro (h | h | ⟨h1, h2⟩)
          · exact .inl (.inl h)
          · exact .inl (.inr h)
          · exact .inr ⟨h1, fun q hq => by rcases List.mem_cons.1 hq with rfl | hq; omega; exact h2 q hq⟩
        · rintro ((h | h) | ⟨h1, h2⟩)
          · exact .inl h
          · exact .inr (.inl h)
          · exact .inr (.inr ⟨h1, fun q hq => h2 q (List.mem_cons_of_mem _ hq)⟩)
    · rw [if_neg c]
      by_cases d : r.1 = a
      · rw [if_pos d]
        exact ⟨h, fun p => ⟨.inl, fun h => h.elim id fun h => absurd d (h.2 r (List.mem_cons_self ..))⟩⟩
      · rw [if_neg d]
        have lt : a < r.1 := by omega
        refine ⟨List.pairwise_cons.2 ⟨fun q hq => ?_, h⟩, fun p => ?_⟩
        · rcases List.mem_cons.1 hq with rfl | hq
          · exact lt
          · have : r.1 < q.1 := h'.1 q hq
            show a < q.1
            omega
        · constructor
          · intro hp
            rcases List.mem_cons.1 hp with rfl | hp
            · exact .inr ⟨rfl, fun q hq => by
                rcases List.mem_cons.1 hq with rfl | hq
                · exact d
                · have : r.1 < q.1 := h'.1 q hq
                  omega⟩
            · exact .inl hp
          · rintro (hp | ⟨rfl, _⟩)
            · exact List.mem_cons_of_mem _ hp
            · exact List.mem_cons_self ..
theorem insC_zero (out : List (Int × Int)) (a : Int) : insC out a 0 = out := by simp [insC]
/-- what the page's cells are -/
theorem cellsTo_ok (L : List (Int × Int)) : ∀ k, k ≤ L.length → SortI (cellsTo L k) ∧ (∀ p ∈ cellsTo L k, p.2 = readL L p.1 ∧ p.2 ≠ 0 ∧ ∃ q ∈ L.take k, q.1 = p.1) ∧ (∀ q ∈ L.take k, readL L q.1 ≠ 0 → (q.1, readL L q.1) ∈ cellsTo L k)
  | 0, _ => by
    have e : cellsTo L 0 = [] := by simp [cellsTo]
    rw [e]
    exact ⟨List.Pairwise.nil, fun p hp => by simp at hp, fun q hq => by simp at hq⟩
  | k + 1, hk => by
    obtain ⟨h1, h2, h3⟩ := cellsTo_ok L k (by omega)
    have lk : k < L.length := by omega
    have tk : L.take (k + 1) = L.take k ++ [L[k]] := by rw [List.take_succ_eq_append_getElem lk]
    rw [cellsTo_succ L k lk, tk]
    by_cases c : readL L L[k].1 = 0
    · rw [c, insC_zero]
      refine ⟨h1, fun p hp => ?_, fun q hq hr => ?_⟩
      · obtain ⟨a, b, q, hq, e⟩ := h2 p hp
        exact ⟨a, b, q, List.mem_append_left _ hq, e⟩
      · rcases List.mem_append.1 hq with hq | hq
        · exact h3 q hq hr
        · rw [List.mem_singleton] at hq
          subst hq
          exact absurd c hr
    · obtain ⟨i1, i2⟩ := insC_ok L[k].1 _ c (cellsTo L k) h1
      refine ⟨i1, fun p hp => ?_, fun q hq hr => ?_⟩
      · rcases (i2 p).1 hp with hp | ⟨rfl, _⟩
        · obtain ⟨a, b, q, hq, e⟩ := h2 p hp
          exact ⟨a, b, q, List.mem_append_left _ hq, e⟩
        · exact ⟨rfl, c, L[k], List.mem_append_right _ (List.mem_singleton.2 rfl), rfl⟩
      · rcases List.mem_append.1 hq with hq | hq
        · exact (i2 _).2 (.inl (h3 q hq hr))
        · rw [List.mem_singleton] at hq
          subst hq
          rw [i2]
          by_cases d : ∀ q ∈ cellsTo L k, q.1 ≠ L[k].1
          · exact .inr ⟨rfl, d⟩
          · simp only [Classical.not_forall, Decidable.not_not] at d
            obtain ⟨q, hq, e⟩ := d
            left
            have e2 := (h2 q hq).1
            rw [e] at e2
            have : q = (L[k].1, readL L L[k].1) := Prod.ext e e2
            rw [← this]
            exact hq
def up (L : List (Nat × Int)) : List (Int × Int) := L.map fun p => ((p.1 : Int), p.2)
theorem assoc_cons (p : Nat × Int) (L : List (Nat × Int)) (x : Nat) : assoc (p :: L) x = if p.1 = x then some p.2 else assoc L x := by
  unfold assoc
  by_cases c : p.1 = x
  · simp [List.find?, c]
  · rw [List.find?_cons_of_neg (by simpa using c), if_neg c]
theorem assoc_mem {L : List (Nat × Int)} (h : Rises L) (x : Nat) (v : Int) : assoc L x = some v ↔ (x, v) ∈ L := by
  induction L with
  | nil => simp [assoc]
  | cons p L ih =>
    have h' := List.pairwise_cons.1 h
    rw [assoc_cons, List.mem_cons]
    by_cases c : p.1 = x
    · rw [if_pos c]
      constructor
      · intro e
        injection e with e
        exact .inl (Prod.ext c.symm e.symm)
      · rintro (e | e)
        · rw [← e]
        · have := h'.1 _ e
          simp only at this
          omega
    · rw [if_neg c, ih h'.2]
      constructor
      · exact .inr
      · rintro (e | e)
        · exact absurd (by rw [← e]) c
        · exact e
/-- THE PAGE's CELLS ARE THE TREE's PAIRS -/
theorem cells_eq {t : Option Tr} {L : List (Int × Int)} (hw : WFO t) (hp : ∀ p ∈ L, 0 ≤ p.1) (hr : ∀ x : Nat, lookO t x = if readL L (x : Int) = 0 then none else some (readL L (x : Int))) : cellsTo L L.length = up (toLO t) := by
  obtain ⟨s1, s2, s3⟩ := cellsTo_ok L L.length (Nat.le_refl _)
  rw [List.take_length] at s2 s3
  have pos : ∀ p ∈ cellsTo L L.length, 0 ≤ p.1 := fun p h => by
    obtain ⟨_, _, q, hq, e⟩ := s2 p h
    rw [← e]; exact hp q hq
  obtain ⟨C, hC⟩ : ∃ C, C = cellsTo L L.length := ⟨_, rfl⟩
  rw [← hC] at s1 s2 s3 pos ⊢
  have back : C = up (C.map fun p => (p.1.toNat, p.2)) := by
    unfold up
    rw [List.map_map]
    conv => lhs; rw [← List.map_id C]
    refine List.map_congr_left fun p h => ?_
    refine Prod.ext ?_ rfl
    have := pos p h
    simp
    omega
  rw [back]
  congr 1
  have rise : Rises (C.map fun p => (p.1.toNat, p.2)) := by
    refine List.pairwise_map.2 ?_
    refine List.Pairwise.imp_of_mem ?_ s1
    intro p q h1 h2 h
    have := pos p h1
    have := pos q h2
    show p.1.toNat < q.1.toNat
    omega
  have tor : Rises (toLO t) := by
    cases t with
    | none => exact List.Pairwise.nil
    | some t => exact rises hw
  refine rises_eq rise tor fun x => ?_
  have ta : assoc (toLO t) x = lookO t x := by
    cases t with
    | none => rfl
    | some t => exact (look_toL hw x).symm
  rw [ta, hr x]
  have mem : ∀ v, assoc (C.map fun p => (p.1.toNat, p.2)) x = some v ↔ ((x : Int), v) ∈ C := fun v => by
    rw [assoc_mem rise, List.mem_map]
    constructor
    · rintro ⟨p, h, e⟩
      have := pos p h
      have e1 : p.1.toNat = x := congrArg (·.1) e
      have e2 : p.2 = v := congrArg (·.2) e
      have : p = ((x : Int), v) := Prod.ext (by show p.1 = (x : Int); omega) e2
      rw [← this]; exact h
    · intro h
      exact ⟨_, h, by simp⟩
  by_cases c : readL L (x : Int) = 0
  · rw [if_pos c]
    cases e : assoc (C.map fun p => (p.1.toNat, p.2)) x with
    | none => rfl
    | some v =>
      have := s2 _ ((mem v).1 e)
      simp only at this
      rw [c] at this
      exact absurd this.1 this.2.1
  · rw [if_neg c, mem]
    have : ∃ q ∈ L, q.1 = (x : Int) := by
      refine Classical.byContradiction fun h => c (readL_no L (x : Int) fun p hp e => h ⟨p, hp, e⟩)
    obtain ⟨q, hq, e⟩ := this
    have := s3 q hq (by rw [e]; exact c)
    rw [e] at this
    exact this
end GrS
namespace Go.Proofs.Ytnpgpbcpgniloaa
open Go.RowKit GrS

theorem cells_tree {t : Option Tr} {L : List (Int × Int)} (hw : WFO t) (hb : Bd L) (hr : RelT t L) : cellsTo L L.length = up (toLO t) := cells_eq hw (fun p h => (hb p h).1.1) hr
theorem up_len (L : List (Nat × Int)) : (up L).length = L.length := by unfold up; rw [List.length_map]
/-- a write's code is the page's -/
theorem wr_code {t : Option Tr} {L : List (Int × Int)} {a v : Int} (h : RelT t L) (hw : WFO t) (hb : Bd L) (a0 : 0 ≤ a) (a1 : a < 18446744073709551616) (v0 : 0 ≤ v) (v1 : v < 18446744073709551616) (hl : (toLO t).length ≤ 256) :
    (wrM t a.toNat v).2 = (wrL L a v).2 ∧ ((wrM t a.toNat v).2 = 0 → (wrL L a v).1 = L ++ [(a, v)]) ∧ (¬ (wrM t a.toNat v).2 = 0 → (wrM t a.toNat v).1 = t ∧ (wrL L a v).1 = L) := by
  have ea : (a.toNat : Int) = a := by omega
  have hb2 : Bd (L ++ [(a, v)]) := fun p hp => by
    rcases List.mem_append.1 hp with hp | hp
    · exact hb p hp
    · rw [List.mem_singleton] at hp; subst hp; exact ⟨⟨a0, a1⟩, v0, v1⟩
  have key : ∀ x : Nat, (a = (x : Int)) ↔ (x = a.toNat) := fun x => by omega
  unfold wrM wrL
  rw [ea]
  by_cases c : codeA a = 0
  · rw [if_pos c, if_pos c]
    by_cases d : v = 0
    · rw [if_pos d]
      obtain ⟨h1, h2, h3⟩ := delO_ok (t := t) (k := a.toNat) hw
      have rel : RelT (delO t a.toNat) (L ++ [(a, v)]) := fun x => by
        rw [h2, readL_app, h x]
        by_cases e : x = a.toNat
        · rw [if_pos e, if_pos ((key x).2 e), if_pos d]
        · rw [if_neg e, if_neg (fun e2 => e ((key x).1 e2))]
      have ce := cells_tree h1 hb2 rel
      rw [if_neg (by rw [ce, up_len]; omega)]
      exact ⟨rfl, fun _ => rfl, fun h => absurd rfl h⟩
    · rw [if_neg d]
      obtain ⟨h1, h2, h3⟩ := insO_ok (t := t) (k := a.toNat) (v := v) hw (by omega)
      have rel : RelT (some (insO t a.toNat v)) (L ++ [(a, v)]) := fun x => by
        show (insO t a.toNat v).look x = _
        rw [h2, readL_app, h x]
        by_cases e : x = a.toNat
        · rw [if_pos e, if_pos ((key x).2 e), if_neg d]
        · rw [if_neg e, if_neg (fun e2 => e ((key x).1 e2))]
      have ce := cells_tree (t := some (insO t a.toNat v)) h1 hb2 rel
      rw [ce, up_len]
      show (if 256 < (insO t a.toNat v).toL.length then (t, (2 : Int)) else _).2 = _ ∧ _
      by_cases g : 256 < (insO t a.toNat v).toL.length
      · rw [if_pos g, if_pos (show 256 < (toLO (some (insO t a.toNat v))).length from g)]
        exact ⟨rfl, fun h => by simp at h, fun _ => ⟨rfl, rfl⟩⟩
      · rw [if_neg g, if_neg (show ¬ 256 < (toLO (some (insO t a.toNat v))).length from g)]
        exact ⟨rfl, fun _ => rfl, fun h => absurd rfl h⟩
  · rw [if_neg c, if_neg c]
    exact ⟨rfl, fun h => absurd h c, fun _ => ⟨rfl, rfl⟩⟩
/-- the code of Of behind k writes -/
def ofC (L : List (Int × Int)) : Nat → Int
  | 0 => 0
  | k + 1 => if ofC L k = 0 then (match L[k]? with | some p => (wrL (L.take k) p.1 p.2).2 | none => 0) else ofC L k
theorem ofC_stay {L : List (Int × Int)} {k m : Nat} (h : ofC L k ≠ 0) (hm : k ≤ m) : ofC L m = ofC L k := by
  induction m with
  | zero =>
    have : k = 0 := by omega
    subst this
    rfl
  | succ m ih =>
    by_cases c : k = m + 1
    · subst c; rfl
    · have := ih (by omega)
      show (if ofC L m = 0 then _ else _) = _
      rw [if_neg (by rw [this]; exact h), this]
theorem ofC_step {L : List (Int × Int)} {k : Nat} (h : ofC L k = 0) (hk : k < L.length) : ofC L (k + 1) = (wrL (L.take k) L[k].1 L[k].2).2 := by
  show (if ofC L k = 0 then _ else _) = _
  rw [if_pos h, List.getElem?_eq_getElem hk]
theorem Bd.take {L : List (Int × Int)} (h : Bd L) (k : Nat) : Bd (L.take k) := fun p hp => h p (List.mem_of_mem_take hp)
end Go.Proofs.Ytnpgpbcpgniloaa

namespace Go.Proofs.Ytnpgpbcpgniloaa
open Go.RowKit Go.Shelf GrS
attribute [local go_sem] Oper.semAt_some

theorem grown_drew' (w : World) : w.grownBy w.drew none := ⟨rfl, rfl, rfl, Nat.le_refl _, fun _ _ _ => rfl⟩
theorem grown_drewN' (w : World) (m : Nat) : w.grownBy (w.drewN m) none := ⟨rfl, rfl, rfl, Nat.le_refl _, fun _ _ _ => rfl⟩
theorem below_drewN (B : Nat) (w : World) (m : Nat) : Below B w (w.drewN m) := ⟨rfl, rfl, rfl, Nat.le_refl _, fun _ _ => rfl⟩
theorem room_none {F : Fence} (hd : F.depth = none) (k : Nat) : F.room k := fun d h => by rw [hd] at h; cases h
theorem round_anyDepth {F : Fence} (hd : F.depth = none) {m m' : Nat} {P : Program} {l : Nat} {f : FuncId} {tmps : Array Value} {assign body : Code} {w : World} {R : Ending → World → Prop}
    (h : RoundIn F m P l f tmps assign body w R) : RoundIn F m' P l f tmps assign body w R := ⟨h.1, fun c cs _ => h.2 c cs (room_none hd _)⟩
theorem yield_anyDepth {F : Fence} (hd : F.depth = none) {m : Nat} (m' : Nat) {P : Program} {l : Nat} {args : Array Value} {W : World} {R : Ending → World → Prop} (h : YieldAt F m P l args W R) : YieldAt F m' P l args W R := by
  obtain ⟨fn, tmps, assign, body, hy, hR⟩ := h
  exact ⟨fn, tmps, assign, body, hy, round_anyDepth hd hR⟩
abbrev encP (x : Nat × Int) : Array Value := #[.int .u64 (x.1 : Int), .int .u64 x.2]

set_option maxRecDepth 100000 in
set_option maxHeartbeats 1000000 in
theorem each_in (F : Fence) (hd : F.depth = none) (h6 : F.fn 69) (hro : F.round = none) (l n₀ N : Nat) (J Jx : List (Nat × Int) → World → Prop) (hJ : ∀ s W W', J s W → W.grownBy W' none → J s W')
    (hY : ∀ m pre (x : Nat × Int) W, J pre W → pre.length < N → YieldAt F m Try.prog l #[.int .u64 (x.1 : Int), .int .u64 x.2] W fun e W' =>
      (e = .returned (.bool true) ∧ J (pre ++ [x]) W' ∧ Below n₀ W W') ∨ (e = .returned (.bool false) ∧ Jx (pre ++ [x]) W')) (t : Tr) :
    ∀ (n B : Nat) (pre : List (Nat × Int)) (W : World), TrS W (fun C => C < n₀) B t → J pre W → pre.length + t.toL.length ≤ N →
      CallsIn F n Try.prog 69 #[.pointer (some ⟨B, 0, none⟩), .func (.yield l) #[] #[]] W fun e W' =>
        (e = .returned (.bool true) ∧ J (pre ++ t.toL) W' ∧ Below n₀ W W') ∨ (e = .returned (.bool false) ∧ ∃ q, q <+: t.toL ∧ Jx (pre ++ q) W') := by
  induction t with
  | leaf k v =>
    intro n B pre W ht hJ0 hN
    have e0 : W.cell? ⟨B, 0, none⟩ = some (.int .u64 (k : Int)) := Row.cell ht.2 0
    have e1 : W.cell? ⟨B, 1, none⟩ = some (.int .u64 v) := Row.cell ht.2 1
    have e3 : W.cell? ⟨B, 3, none⟩ = some (.pointer none) := Row.cell ht.2 3
    have hdd : ∀ k : Nat, (F.depth.isSome = true → 1 ≤ k) := fun k h => by rw [hd] at h; cases h
    have YY := Lib.hid (fun m => YieldAt.mono (R' := fun e W' => ∃ c : Bool, e = .returned (.bool c) ∧ (c = true → J (pre ++ [(k, v)]) W' ∧ Below n₀ W W') ∧ (c = false → Jx (pre ++ [(k, v)]) W')) (hY (n - 1) pre (k, v) (W.drewN m) (hJ _ _ _ hJ0 (grown_drewN' W m)) (by simp [Tr.toL] at hN; omega)) (fun e W' h => h.elim (fun ⟨a, b, d⟩ => ⟨true, a, fun _ => ⟨b, (below_drewN _ _ _).trans d⟩, fun e => by cases e⟩) (fun ⟨a, b⟩ => ⟨false, a, (fun e => by cases e), fun _ => b⟩)))
    clear hY hJ hJ0 ht
    refine callsIn_of_wp Try.func69 rfl h6 ?_ hro
    simp only [Try.ntmps69, List.size_toArray, List.length_cons, List.length_nil, Nat.reduceAdd, Nat.reduceSub, Array.replicate_succ, Array.replicate_zero, List.push_toArray, List.append_toArray, List.nil_append, List.cons_append]
    gi_wp2
    refine wpIn_region_drew_tail hro 9 (by kernel_rfl) (by kernel_rfl) ?_
    simp only [List.take_succ_cons, List.take_zero, List.drop_succ_cons, List.drop_zero]
    repeat (gi_big_quiet_step (fail))
    refine wpQuietIn_nil ?_
    rintro _ ⟨m, rfl⟩
    obtain ⟨fn, tmps, assign, body, hy, hR⟩ := YY.out m
    clear YY
    gi_wp2_with ((try refine ⟨hdd _, ?_⟩); refine hR.mono ?_; clear hR; rintro e W2 ⟨c, rfl, hc⟩; have HC := Lib.hid hc; clear hc)
    go_ret
    cases c with
    | true => exact .inl ⟨rfl, (HC.out.1 rfl).1, (HC.out.1 rfl).2⟩
    | false => exact .inr ⟨rfl, [(k, v)], ⟨[], rfl⟩, HC.out.2 rfl⟩
  | node k b tl tr ihl ihr =>
    intro n B pre W ht hJ0 hN
    obtain ⟨hB, x, y, hr, hl, hrr⟩ := ht
    have e3 : W.cell? ⟨B, 3, none⟩ = some (.pointer (some ⟨x, 0, none⟩)) := Row.cell hr 3
    have hdd : ∀ k : Nat, (F.depth.isSome = true → 1 ≤ k) := fun k h => by rw [hd] at h; cases h
    simp only [Tr.toL, List.length_append] at hN
    have IH2 := Lib.hid (fun W1 (h1 : J (pre ++ tl.toL) W1) (h2 : Below n₀ W W1) => ihr (n - 1) y (pre ++ tl.toL) W1 (TrS.upto h2 (fun _ h => h) tr y hrr) h1 (by simp only [List.length_append]; omega))
    have ih1 := (ihl (n - 1) x pre W hl hJ0 (by omega)).mono (R' := fun e W1 =>
        (e = .returned (.bool true) ∧ W1.cell? ⟨B, 4, none⟩ = some (.pointer (some ⟨y, 0, none⟩)) ∧ J (pre ++ tl.toL) W1 ∧ Below n₀ W W1) ∨ (e = .returned (.bool false) ∧ ∃ q, q <+: tl.toL ∧ Jx (pre ++ q) W1))
      (fun e W1 h => h.elim (fun ⟨he, hj, hb1⟩ => .inl ⟨he, (Row.cell (Row.upto hr hb1 hB) 4), hj, hb1⟩) .inr)
    clear hY hJ ihl ihr hl hrr hr hJ0 hN
    refine callsIn_of_wp Try.func69 rfl h6 ?_ hro
    simp only [Try.ntmps69, List.size_toArray, List.length_cons, List.length_nil, Nat.reduceAdd, Nat.reduceSub, Array.replicate_succ, Array.replicate_zero, List.push_toArray, List.append_toArray, List.nil_append, List.cons_append]
    gi_wp2_with (first
      | ((try refine ⟨hdd _, ?_⟩); gi_at_call 69; refine ih1.mono ?_; clear ih1; rintro e W1 (⟨rfl, e4, hJ1, hb1⟩ | ⟨rfl, q, hq, hx1⟩))
      | ((try refine ⟨hdd _, ?_⟩); gi_at_call 69; refine (IH2.out _ hJ1 hb1).mono ?_; rintro e W2 (⟨rfl, hJ2, hb2⟩ | ⟨rfl, q, hq, hx2⟩)))
    · go_ret
      exact .inl ⟨rfl, by rw [Tr.toL, ← List.append_assoc]; exact hJ2, hb1.trans hb2⟩
    · go_ret
      obtain ⟨rest, hrest⟩ := hq
      exact .inr ⟨rfl, tl.toL ++ q, ⟨rest, by rw [Tr.toL, List.append_assoc, hrest]⟩, by rw [← List.append_assoc]; exact hx2⟩
    · go_ret
      exact .inr ⟨rfl, q, hq.trans (List.prefix_append _ _), hx1⟩

theorem each_none (F : Fence) (hd : F.depth = none) (h6 : F.fn 69) (hro : F.round = none) (n l : Nat) (W : World) :
    CallsIn F n Try.prog 69 #[.pointer none, .func (.yield l) #[] #[]] W fun e W' => e = .returned (.bool true) ∧ W = W' := by
  refine callsIn_of_wp Try.func69 rfl h6 ?_ hro
  simp only [Try.ntmps69, List.size_toArray, List.length_cons, List.length_nil, Nat.reduceAdd, Nat.reduceSub, Array.replicate_succ, Array.replicate_zero, List.push_toArray, List.append_toArray, List.nil_append, List.cons_append]
  gi_wp2
  go_ret
  exact ⟨rfl, rfl⟩

set_option maxRecDepth 100000 in
set_option maxHeartbeats 2000000 in
theorem eachf_in (F : Fence) (hd : F.depth = none) (n : Nat) (h5 : F.fn 68) (h6 : F.fn 69) (hro : F.round = none) (l Bm n₀ : Nat) (p : Option Addr) (t : Option Tr) (J Jx : List (Nat × Int) → World → Prop)
    (hJ : ∀ s W W', J s W → W.grownBy W' none → J s W')
    (hY : ∀ pre (x : Nat × Int) W, J pre W → pre.length < (toLO t).length → YieldAt F (n - 1) Try.prog l (encP x) W fun e W' =>
      (e = .returned (.bool true) ∧ J (pre ++ [x]) W' ∧ Below n₀ W W') ∨ (e = .returned (.bool false) ∧ Jx (pre ++ [x]) W'))
    (W : World) (hB : W.cell? ⟨Bm, 0, none⟩ = some (.pointer p)) (hT : PS W (fun C => C < n₀) p t) (h0 : J [] W) :
    CallsIn F n Try.prog 68 #[.func (.yield l) #[] #[], .pointer (some ⟨Bm, 0, none⟩)] W fun e W' => (∃ v, e = .returned v) ∧
      ((∃ ys, ys = toLO t ∧ J ys W') ∨ (∃ pre, pre <+: toLO t ∧ Jx pre W')) := by
  have hdd : ∀ k : Nat, (F.depth.isSome = true → 1 ≤ k) := fun k h => by rw [hd] at h; cases h
  cases t with
  | none =>
    obtain rfl : p = none := hT
    have hp := each_none F hd h6 hro (n - 1) l W
    have H0 := Lib.hid h0
    clear hY hJ h0
    refine callsIn_of_wp Try.func68 rfl h5 ?_ hro
    simp only [Try.ntmps68, List.size_toArray, List.length_cons, List.length_nil, Nat.reduceAdd, Nat.reduceSub, Array.replicate_succ, Array.replicate_zero, List.push_toArray, List.append_toArray, List.nil_append, List.cons_append]
    gi_wp2_with ((try refine ⟨hdd _, ?_⟩); gi_at_call 69; refine hp.mono ?_; clear hp; rintro e W1 ⟨rfl, rfl⟩)
    go_end0
    exact ⟨⟨_, rfl⟩, .inl ⟨_, rfl, H0.out⟩⟩
  | some t =>
    obtain ⟨B, rfl, hT⟩ := hT
    have hp := each_in F hd h6 hro l n₀ t.toL.length J Jx hJ (fun m pre x W hj hl => yield_anyDepth hd m (hY pre x W hj hl)) t (n - 1) B [] W hT h0 (by simp)
    clear hY hJ h0 hT
    refine callsIn_of_wp Try.func68 rfl h5 ?_ hro
    simp only [Try.ntmps68, List.size_toArray, List.length_cons, List.length_nil, Nat.reduceAdd, Nat.reduceSub, Array.replicate_succ, Array.replicate_zero, List.push_toArray, List.append_toArray, List.nil_append, List.cons_append]
    gi_wp2_with ((try refine ⟨hdd _, ?_⟩); gi_at_call 69; refine hp.mono ?_; clear hp; rintro e W1 (⟨rfl, hJ1, _⟩ | ⟨rfl, q, hq, hx⟩))
    · go_end0
      exact ⟨⟨_, rfl⟩, .inl ⟨_, rfl, by simpa [toLO] using hJ1⟩⟩
    · go_end0
      exact ⟨⟨_, rfl⟩, .inr ⟨q, hq, by simpa using hx⟩⟩

theorem eachm_any (p : Option Addr) (m : Int) (w : World) :
    Calls Try.prog 50 #[.agg #[.pointer p, .int .i64 m]] w fun e w' => e = .returned (.func (.func 68) #[] #[.pointer (some ⟨w.heap.size, 0, none⟩)]) ∧ w' = w.alloc (.cells #[.pointer p, .int .i64 m] 36) := by
  go_enter Try.func50, Try.ntmps50
  go_wp2
  go_ret
  exact ⟨rfl, rfl⟩

theorem PS.upto {V U : World} {n₀ : Nat} {p : Option Addr} {t : Option Tr} (k : Below n₀ V U) (h : PS V (fun C => C < n₀) p t) : PS U (fun C => C < n₀) p t := by
  cases t with
  | none => exact h
  | some t => obtain ⟨B, e, h⟩ := h; exact ⟨B, e, TrS.upto k (fun _ h => h) t B h⟩
theorem each_stops (F : Fence) (hd : F.depth = none) (n : Nat) (h5 : F.fn 68) (h6 : F.fn 69) (hro : F.round = none) (Bm n₀ : Nat) (p : Option Addr) (t : Option Tr) (w : World) (hBm : Bm < w.heap.size) (hn₀ : n₀ ≤ w.heap.size)
    (hc : w.cell? ⟨Bm, 0, none⟩ = some (.pointer p)) (hT : PS w (fun C => C < n₀) p t) :
    SeqStopsK F n Try.prog 68 #[.pointer (some ⟨Bm, 0, none⟩)] encP (Below n₀) (fun ys => ys = toLO t) (fun pre => pre <+: toLO t) (toLO t).length w := fun l J Jx W hW hJ _ hY h0 =>
  eachf_in F hd n h5 h6 hro l Bm n₀ p t J Jx (fun s A B h g => hJ s A B none h g (fun r e => by cases e)) hY W ((hW.cell (p := ⟨Bm, 0, none⟩) hBm).trans hc) (PS.upto (hW.mono hn₀) hT) h0
end Go.Proofs.Ytnpgpbcpgniloaa

namespace Go.Proofs.Ytnpgpbcpgniloaa
open Go.RowKit Go.Shelf GrS
attribute [local go_sem] Oper.semAt_some

theorem up_snoc (L : List (Nat × Int)) (x : Nat × Int) : up (L ++ [x]) = up L ++ [((x.1 : Int), x.2)] := by unfold up; simp
theorem PAt.lt' {V : World} {p : Option Addr} {t : Option Tr} (h : PAt V p t) : PS V (fun C => C < V.heap.size) p t := PS.lt h

set_option maxRecDepth 100000 in
set_option maxHeartbeats 4000000 in
theorem memcells_any (p : Option Addr) (m : Int) (t : Option Tr) (w : World) (h : MAt w p m t) (hm : m ≤ 1000) :
    Calls Try.prog 24 #[.agg #[.pointer p, .int .i64 m]] w fun e w' => ∃ v, e = .returned v ∧ w'.ownsRow w.heap.size 64 2 v (toLO t).length (cellsL (up (toLO t))) ∧ Below w.heap.size w w' := by
  obtain ⟨i0, hi, hz0, hz1, hz2⟩ := info_parts cbytes
  obtain ⟨q, hq⟩ : ∃ q, q = (toLO t).length := ⟨_, rfl⟩
  obtain rfl : m = (q : Int) := by rw [hq]; exact h.n
  have HM := Lib.hid h
  have HQ := Lib.hid hq
  clear h hq
  have q9 : q ≤ 1000 := by omega
  have mk0 := fun w => run_make (P := Try.prog) w 23 64 i0 _ Try.underlying23 hi hz0 .i64 .i64 0 (q : Int) (Int.le_refl _) (by omega) (by rw [hz2]; omega) (by omega)
  simp only [Int.toNat_zero, Int.toNat_natCast] at mk0
  obtain ⟨C, hC⟩ : ∃ C, C = madeCells (Value.agg #[Value.int IntKind.u64 0, Value.int IntKind.u64 0]).cells (q * i0.size) := ⟨_, rfl⟩
  rw [← hC] at mk0
  have CS := Lib.hid (show C.size = q * 2 by rw [hC, size_madeCells, hz1])
  clear hC hm
  refine callsIn_wide (n := 6).1 ?_
  refine callsIn_of_wp_marks Try.func24 rfl trivial ?_ rfl
  simp only [Try.ntmps24, List.size_toArray, List.length_cons, List.length_nil, Nat.reduceAdd, Nat.reduceSub, Array.replicate_succ, Array.replicate_zero, List.push_toArray, List.append_toArray, List.nil_append, List.cons_append]
  refine wpIn_wide.2 ?_
  go_upto_region 1 with fail
  refine to_cls ?_
  intro U hU z
  have r_m : ∀ z : Wb U, Row z.at w.heap.size [.pointer p, .int .i64 (q : Int)] 38 := Row.next (Row.new _ [.pointer p, .int .i64 (q : Int)] _) hU
  have KK := Lib.hid (KB.next (KB.alloc (Below.refl _ _) _) hU)
  have m0 : ∀ z : Wb U, z.at.cell? ⟨w.heap.size, 0, none⟩ = some (.pointer p) := fun z => (r_m z).cell 0
  have m1 : ∀ z : Wb U, z.at.cell? ⟨w.heap.size, 1, none⟩ = some (.int .i64 (q : Int)) := fun z => (r_m z).cell 1
  go_wp2_with fail
  refine (maplen_any p (q : Int) _).mono ?_
  rintro e w1 ⟨rfl, g⟩
  obtain ⟨x1, rfl⟩ := Wb.next (x := z) g
  clear g
  go_upto_region 2 with fail
  have RM := Lib.hid (r_m x1)
  have KX := Lib.hid (KK.out x1)
  have MX := Lib.hid (HM.out.below KX.out)
  clear m0 m1 r_m hU KK mk0
  obtain ⟨sA, hsA⟩ : ∃ b, b = x1.at.heap.size := ⟨_, rfl⟩
  refine to_cls ?_
  intro U2 hU2 z2
  have OW := Lib.hid (show z2.at.ownsRow w.heap.size 64 2 (.slice (some ⟨x1.at.heap.size, 0, none⟩) 0 q) 0 [] from own_below (own_below (World.ownsRow.alloc (World.ownsRow_made x1.at C q KX.out.size (by unfold maxLen; omega) CS.out) _) hU2) z2.bel)
  have r_m : Row z2.at w.heap.size [.pointer p, .int .i64 (q : Int)] 38 := (Row.next ((RM.out.old _).old _) hU2) z2
  have r_l : Row z2.at (x1.at.heap.size + 1) [.slice (some ⟨x1.at.heap.size, 0, none⟩) 0 q] 23 := (Row.next (Row.new' _ [.slice (some ⟨x1.at.heap.size, 0, none⟩) 0 q] _ _ (by simp)) hU2) z2
  have KZ := Lib.hid (KB.next (KB.alloc (KB.alloc KX.out _) _) hU2 z2)
  have MZ := Lib.hid (show MAt z2.at p (q : Int) t from ((MX.out.below (KB.alloc (KB.alloc (Below.refl _ _) _) _)).below hU2).below z2.bel)
  have SZ := Lib.hid (show w.heap.size ≤ sA + 1 by rw [hsA]; have := KX.out.size; omega)
  rw [← hsA] at r_l OW ⊢
  clear hsA hU2
  have RL := Lib.hid r_l
  have m0 : z2.at.cell? ⟨w.heap.size, 0, none⟩ = some (.pointer p) := r_m.cell 0
  have m1 : z2.at.cell? ⟨w.heap.size, 1, none⟩ = some (.int .i64 (q : Int)) := r_m.cell 1
  clear r_m r_l RM KX MX
  go_wp2_with fail
  refine (eachm_any p (q : Int) _).mono ?_
  rintro e w1 ⟨rfl, rfl⟩
  go_wp2_with fail
  have sA1 := Lib.hid (show w.heap.size ≤ sA + 1 ∧ sA + 1 < z2.at.heap.size from ⟨SZ.out, RL.out.lt⟩)
  have BX := Lib.hid (show Boxed (z2.at.alloc (.cells #[.pointer p, .int .i64 (q : Int)] 36)) (sA + 1) 23 (.slice (some ⟨sA, 0, none⟩) 0 q) from RL.out.old _)
  have OX := Lib.hid (World.ownsRow.alloc OW.out (.cells #[.pointer p, .int .i64 (q : Int)] 36))
  have TX := Lib.hid (show PS (z2.at.alloc (.cells #[.pointer p, .int .i64 (q : Int)] 36)) (fun C => C < w.heap.size) p t from PS.upto (KB.alloc KZ.out _) (PS.lt HM.out.at'))
  have BZ := Lib.hid (show Below w.heap.size w (z2.at.alloc (.cells #[.pointer p, .int .i64 (q : Int)] 36)) from KB.alloc KZ.out _)
  have CZ := Lib.hid (show (z2.at.alloc (.cells #[.pointer p, .int .i64 (q : Int)] 36)).cell? ⟨z2.at.heap.size, 0, none⟩ = some (.pointer p) from (Row.new z2.at [.pointer p, .int .i64 (q : Int)] _).cell 0)
  obtain ⟨zS, hzS⟩ : ∃ b, b = z2.at.heap.size := ⟨_, rfl⟩
  have SW := Lib.hid (show (z2.at.alloc (.cells #[.pointer p, .int .i64 (q : Int)] 36)).heap.size = zS + 1 by rw [hzS]; simp)
  rw [← hzS] at CZ sA1 ⊢
  obtain ⟨W0, hW0⟩ : ∃ W0, W0 = z2.at.alloc (.cells #[.pointer p, .int .i64 (q : Int)] 36) := ⟨_, rfl⟩
  rw [← hW0] at BX OX TX BZ CZ SW ⊢
  clear hW0 hzS OW KZ MZ RL SZ m0 m1 HM
  refine wpIn_wide (n := 6).1 ?_
  refine wpIn_rangeFunc_ownG (F := Fence.wide) rfl (by omega) (gf := 68) (lb := #[.pointer (some ⟨zS, 0, none⟩)]) rfl trivial (enters_of Try.func68 (by kernel_rfl) rfl)
    (each_stops Fence.wide rfl (6 - 1) trivial trivial rfl zS w.heap.size p t W0 (by rw [SW.out]; omega) BZ.out.size CZ.out TX.out) belowK_t (belowK_b BZ.out.size) (Below.refl _ _) (fun _ => rfl)
    (fun pre W => (∃ v, Boxed W (sA + 1) 23 v ∧ W.ownsRow w.heap.size 64 2 v pre.length (cellsL (up pre)) ∧ True) ∧ Below w.heap.size w W)
    (fun _ _ _ => False)
    (OwnFrom.and (Own.from (holdsRow_own w.heap.size (sA + 1) 23 64 2 (fun pre : List (Nat × Int) => pre.length) (fun pre => cellsL (up pre)) (fun _ _ => True)) _) (ownFrom_below (Nat.le_refl _) BZ.out.size))
    (fun _ _ _ _ _ hs _ _ => hs)
    ⟨⟨_, BX.out, OX.out, trivial⟩, BZ.out⟩
    (fun x => { tmps := #[.agg #[.pointer p, .int .i64 (q : Int)], .pointer (some ⟨w.heap.size, 0, none⟩), .slice none 0 0, .pointer (some ⟨sA + 1, 0, none⟩), .int .u64 (x.1 : Int), .int .u64 x.2, .pointer (some ⟨w.heap.size, 0, none⟩), .agg #[.pointer p, .int .i64 (q : Int)], .int .i64 (q : Int), .slice (some ⟨sA, 0, none⟩) 0 q, .pointer (some ⟨w.heap.size, 0, none⟩), .agg #[.pointer p, .int .i64 (q : Int)], .func (.func 68) #[] #[.pointer (some ⟨zS, 0, none⟩)], .int .u64 (x.1 : Int), .int .u64 x.2, undef, undef, undef, undef, undef, undef, undef], defers := [] }) ?assign ?body ?done ?stop
  case assign =>
    intro l x W K hK
    gi_wp2
    exact hK
  case body =>
    rintro l pre x W ⟨⟨v, hv, hrow, _⟩, hB⟩ hlt
    have hc := hv.cell
    have hlt2 : pre.length < q := by rw [HQ.out]; exact hlt
    have HB := Lib.hid hB
    have HR := Lib.hid hrow
    have HV := Lib.hid hv
    have NW := Lib.hid (fun T => app_two W (.int .u64 (x.1 : Int)) (.int .u64 x.2) T)
    have N1 := Lib.hid (show ∀ u ∈ [Value.int .u64 (x.1 : Int), .int .u64 x.2], u.oneCell' = true by simp [Value.oneCell'])
    have S5 := Lib.hid (show ∀ o : Obj, w.heap.size ≤ (W.alloc o).heap.size from fun o => by have := HB.out.size; simp only [World.size_alloc]; omega)
    clear hlt hB hrow hv
    gi_wp2_with (gi_at_builtin; refine wpListIn_append_own _ rfl _ _ 23 rfl w.heap.size 64 i0 (.agg #[.int .u64 0, .int .u64 0]) 2 16 Try.underlying23 hi hz0 hz1 hz2 rfl (by decide) _ _ _ rfl (HR.out.alloc _) ⟨W.heap.size, 0, none⟩ 1 1 [.int .u64 (x.1 : Int), .int .u64 x.2] rfl rfl (NW.out _) N1.out (by unfold maxLen; omega) (by omega) (S5.out _) ?_; intro v' w1 hown' hgrow _; obtain ⟨g', cap', rfl⟩ := ownsRow_succ hown'; obtain ⟨hv1, hv2, hr2, hk2, hb2⟩ := HV.out.appended (by decide) HR.out HB.out.size sA1.out.1 hown' hgrow; have hc1 := hv1.cell; have hf1 := hv1.frozen)
    exact ⟨hk2.from _, hb2, ⟨_, hv2, by rw [up_snoc, cellsL_app, List.length_append]; exact hr2, trivial⟩, HB.out.trans hb2⟩
  case done =>
    rintro D ys W hD rfl ⟨⟨v, hv, hrow, _⟩, hB⟩ hK
    have hc := hv.cell
    go_wp2
    refine ⟨by simp, .inl ⟨_, _, rfl, run_takeDeferred hK, ?_⟩⟩
    exact ⟨_, results_tmp rfl _ _ _, v, rfl, ownsRow_putObj hrow _ hK rfl, hB.trans (belowK_b (w := w) (Nat.le_refl _) W D _ _ (Nat.le_trans BZ.out.size hD) hK rfl rfl)⟩
  case stop =>
    rintro D c pre W _ _ h _
    exact h.elim
end Go.Proofs.Ytnpgpbcpgniloaa

namespace Go.Proofs.Ytnpgpbcpgniloaa
open Go.RowKit GrS

theorem SlP.addr {W : World} {p : Option Addr} {n c : Nat} {L : List (Int × Int)} (h : SlP W (.slice p n c) L) (hn : 0 < n) : ∃ a, p = some a := by
  obtain ⟨_, ⟨e, h0⟩ | ⟨a, cp, e, _⟩⟩ := h
  · injection e with e1 e2 e3
    omega
  · injection e with e1 e2 e3
    exact ⟨a, e1⟩

set_option maxRecDepth 100000 in
set_option maxHeartbeats 3200000 in
theorem rsame_any (v1 v2 : Value) (L1 L2 : List (Int × Int)) (w : World) (h1 : SlP w v1 L1) (h2 : SlP w v2 L2) (hn : L1.length ≤ 1000000) :
    Calls Try.prog 23 #[v1, v2] w fun e w' => e = .returned (.bool (decide (L1 = L2))) ∧ Below w.heap.size w w' := by
  obtain ⟨p1, n1, c1, rfl⟩ := SlAt.form h1
  obtain ⟨p2, n2, c2, rfl⟩ := SlAt.form h2
  have e1 := h1.len
  have e2 := h2.len
  by_cases en : n1 = n2
  · subst en
    obtain ⟨V, rfl⟩ : ∃ V, V = w := ⟨_, rfl⟩
    have H1 := Lib.hid h1
    have H2 := Lib.hid h2
    have E1 := Lib.hid e1
    have E2 := Lib.hid e2
    have q9 : (n1 : Int) ≤ 1000000 := by omega
    clear h1 h2 e1 e2 hn
    go_enter Try.func23, Try.ntmps23
    go_wp2_with fail
    go_loopw [5] (fun i wr => ∃ k : Nat, k ≤ n1 ∧ i = .int .i64 (k : Int) ∧ L1.take k = L2.take k ∧ Below V.heap.size V wr) (fun i _ => n1 - (intOf i).toNat)
    case atStart => exact ⟨0, by omega, rfl, by simp, Below.refl _ _⟩
    case round =>
      obtain ⟨k, hk, rfl, htk, hb⟩ := hrel
      have TK := Lib.hid htk
      have BB := Lib.hid hb
      clear htk hb
      by_cases ck : k < n1
      · have l1 : k < L1.length := by have := E1.out; omega
        have l2 : k < L2.length := by have := E2.out; omega
        obtain ⟨a1, rfl⟩ := SlP.addr H1.out (by omega)
        obtain ⟨a2, rfl⟩ := SlP.addr H2.out (by omega)
        have z1 := Lib.hid (fun y : Wb wr => (H1.out.below (BB.out.trans (y.bel.mono BB.out.size))).at k l1)
        have z2 := Lib.hid (fun y : Wb wr => (H2.out.below (BB.out.trans (y.bel.mono BB.out.size))).at k l2)
        have S1 := Lib.hid (show L1.take (k + 1) = L1.take k ++ [L1[k]] from List.take_succ_eq_append_getElem l1)
        have S2 := Lib.hid (show L2.take (k + 1) = L2.take k ++ [L2[k]] from List.take_succ_eq_append_getElem l2)
        have NE := Lib.hid (show L1[k] ≠ L2[k] → L1 ≠ L2 from fun h e => h (by subst e; rfl))
        obtain ⟨⟨u, v⟩, hu⟩ : ∃ p, p = L1[k] := ⟨_, rfl⟩
        obtain ⟨⟨s, t⟩, hs⟩ : ∃ p, p = L2[k] := ⟨_, rfl⟩
        rw [← hu] at z1 S1 NE
        rw [← hs] at z2 S2 NE
        clear hu hs
        have x0 := fun y : Wb wr => (z1.out y).1
        have x1 := fun y : Wb wr => (z1.out y).2
        have x2 := fun y : Wb wr => (z2.out y).1
        have x3 := fun y : Wb wr => (z2.out y).2
        clear z1 z2 l1 l2
        have i0 : (0 : Int) ≤ (k : Int) := by omega
        have i1 : (k : Int) < (n1 : Int) := by omega
        by_cases c1 : u = s
        · subst c1
          by_cases c2 : v = t
          · subst c2
            go_wp2_with fail
            refine wp_region_wb (by kernel_rfl) (by kernel_rfl) ?_
            repeat (go_big_quiet_step (fail))
            refine wpQuiet_nil ?_
            rintro _ ⟨y, rfl⟩
            go_wp2
            go_roundw
            case rel => exact ⟨k + 1, by omega, by go_num, by rw [S1.out, S2.out, TK.out], BB.out.trans (y.bel.mono BB.out.size)⟩
            case measure => simp [intOf]; omega
          · have b2 : (v == t) = false := by simpa using c2
            go_wp2_with fail
            refine wp_region_wb (by kernel_rfl) (by kernel_rfl) ?_
            repeat (go_big_quiet_step (fail))
            refine wpQuiet_nil ?_
            rintro _ ⟨y, rfl⟩
            go_wp2
            go_ret
            exact ⟨(by rw [decide_eq_false (NE.out (by simp; omega))]; rfl), (BB.out.trans (y.bel.mono BB.out.size))⟩
        · have b1 : (u == s) = false := by simpa using c1
          go_wp2_with fail
          refine wp_region_wb (by kernel_rfl) (by kernel_rfl) ?_
          repeat (go_big_quiet_step (fail))
          refine wpQuiet_nil ?_
          rintro _ ⟨y, rfl⟩
          go_wp2
          go_ret
          exact ⟨(by rw [decide_eq_false (NE.out (by simp; omega))]; rfl), (BB.out.trans (y.bel.mono BB.out.size))⟩
      · obtain rfl : k = n1 := by omega
        have EQ := Lib.hid (show L1 = L2 by have := TK.out; rwa [List.take_of_length_le (by have := E1.out; omega), List.take_of_length_le (by have := E2.out; omega)] at this)
        have i2 : ¬ (k : Int) < (k : Int) := by omega
        go_wp2
        go_ret
        exact ⟨(by rw [decide_eq_true EQ.out]; rfl), BB.out⟩
  · have ne : decide (L1 = L2) = false := decide_eq_false (fun e => en (by rw [e1, e2, e]))
    have d : ((n1 : Int) != (n2 : Int)) = true := by simp; omega
    rw [ne]
    clear h1 h2 e1 e2 en ne hn
    go_enter Try.func23, Try.ntmps23
    go_wp2
    go_ret
    exact ⟨rfl, Below.refl _ _⟩

set_option maxRecDepth 100000 in
set_option maxHeartbeats 6400000 in
theorem same_any (p1 p2 : Option Addr) (m1 m2 : Int) (t1 t2 : Option Tr) (w : World) (h1 : MAt w p1 m1 t1) (h2 : MAt w p2 m2 t2) (hm1 : m1 ≤ 1000) (hm2 : m2 ≤ 1000) :
    Calls Try.prog 30 #[.agg #[.pointer p1, .int .i64 m1], .agg #[.pointer p2, .int .i64 m2]] w fun e w' => e = .returned (.bool (decide (up (toLO t1) = up (toLO t2)))) ∧ Below w.heap.size w w' := by
  have M1 := Lib.hid h1
  have M2 := Lib.hid h2
  obtain ⟨L1, hL1⟩ : ∃ L, L = up (toLO t1) := ⟨_, rfl⟩
  obtain ⟨L2, hL2⟩ : ∃ L, L = up (toLO t2) := ⟨_, rfl⟩
  have EL1 := Lib.hid (show (toLO t1).length = L1.length by rw [hL1, up_len])
  have EL2 := Lib.hid (show (toLO t2).length = L2.length by rw [hL2, up_len])
  have C1 := Lib.hid (fun (U : World) (k : Below w.heap.size w U) => memcells_any p1 m1 t1 U (M1.out.below k) hm1)
  have C2 := Lib.hid (fun (U : World) (k : Below w.heap.size w U) => memcells_any p2 m2 t2 U (M2.out.below k) hm2)
  rw [← hL1] at C1 ⊢
  rw [← hL2] at C2 ⊢
  have HM1 := Lib.hid hm1
  clear hL1 hL2 h1 h2 hm1 hm2
  go_enter Try.func30, Try.ntmps30
  go_upto_region 1 with fail
  have RA := Lib.hid (show Row ((w.alloc (.cells #[.pointer p1, .int .i64 m1] 38)).alloc (.cells #[.pointer p2, .int .i64 m2] 38)) w.heap.size [.pointer p1, .int .i64 m1] 38 from (Row.new _ [.pointer p1, .int .i64 m1] _).old _)
  have RB := Lib.hid (show Row ((w.alloc (.cells #[.pointer p1, .int .i64 m1] 38)).alloc (.cells #[.pointer p2, .int .i64 m2] 38)) (w.heap.size + 1) [.pointer p2, .int .i64 m2] 38 from Row.new' _ [.pointer p2, .int .i64 m2] _ _ (by simp))
  have KW := Lib.hid (KB.alloc (KB.alloc (Below.refl w.heap.size w) (.cells #[.pointer p1, .int .i64 m1] 38)) (.cells #[.pointer p2, .int .i64 m2] 38))
  obtain ⟨V0, hV0⟩ : ∃ V0, V0 = (w.alloc (.cells #[.pointer p1, .int .i64 m1] 38)).alloc (.cells #[.pointer p2, .int .i64 m2] 38) := ⟨_, rfl⟩
  rw [← hV0] at RA RB KW ⊢
  clear hV0
  have SS := Lib.hid (fun (U : World) (k : Below V0.heap.size V0 U) => (show U.cell? ⟨w.heap.size, 0, none⟩ = some (.pointer p1) ∧ U.cell? ⟨w.heap.size, 1, none⟩ = some (.int .i64 m1) ∧ U.cell? ⟨w.heap.size + 1, 0, none⟩ = some (.pointer p2) ∧ U.cell? ⟨w.heap.size + 1, 1, none⟩ = some (.int .i64 m2) from ⟨(RA.out.below k).cell 0, (RA.out.below k).cell 1, (RB.out.below k).cell 0, (RB.out.below k).cell 1⟩))
  have K0 := Lib.hid (SS.out V0.drew (Below.refl _ _).drew)
  have b0 := Lib.hid (show Below V0.heap.size V0 V0.drew from (Below.refl _ _).drew)
  go_region_held3 (fun w' => w'.cell? ⟨w.heap.size, 0, none⟩ = some (.pointer p1) ∧ w'.cell? ⟨w.heap.size, 1, none⟩ = some (.int .i64 m1) ∧ w'.cell? ⟨w.heap.size + 1, 0, none⟩ = some (.pointer p2) ∧ w'.cell? ⟨w.heap.size + 1, 1, none⟩ = some (.int .i64 m2))
    (first | exact K0.out | exact K1.out | exact K2.out)
    (first
      | (go_at_call 24; (with_reducible refine (C1.out _ (KW.out.trans (b2.out.mono KW.out.size))).mono ?_); rintro e w3 ⟨x1, rfl, o1, g1⟩; have B3 := Lib.hid (b2.out.trans (g1.mono b2.out.size)); have Q1 := Lib.hid o1; have Q2 := Lib.hid (own_below O2.out g1); have K2 := Lib.hid (SS.out w3 B3.out); clear g1 o1)
      | (go_at_call 24; (with_reducible refine (C2.out _ (KW.out.trans (b1.out.mono KW.out.size))).mono ?_); rintro e w3 ⟨x2, rfl, o2, g2⟩; have B3 := Lib.hid (b1.out.trans (g2.mono b1.out.size)); have Q2 := Lib.hid o2; have Q1 := Lib.hid (own_below O1.out g2); have K2 := Lib.hid (SS.out w3 B3.out); clear g2 o2)
      | (go_at_call 24; (with_reducible refine (C1.out _ (KW.out.trans (b0.out.mono KW.out.size))).mono ?_); rintro e w2 ⟨x1, rfl, o1, g1⟩; have b1 := Lib.hid (b0.out.trans (g1.mono b0.out.size)); have O1 := Lib.hid o1; have K1 := Lib.hid (SS.out w2 b1.out); clear g1 o1)
      | (go_at_call 24; (with_reducible refine (C2.out _ (KW.out.trans (b0.out.mono KW.out.size))).mono ?_); rintro e w2 ⟨x2, rfl, o2, g2⟩; have b2 := Lib.hid (b0.out.trans (g2.mono b0.out.size)); have O2 := Lib.hid o2; have K1 := Lib.hid (SS.out w2 b2.out); clear g2 o2))
  all_goals
    have H1 := Lib.hid (show SlP w3 x1 L1 by have := SlAt.own Q1.out; rw [EL1.out] at this; exact this)
    have H2 := Lib.hid (show SlP w3 x2 L2 by have := SlAt.own Q2.out; rw [EL2.out] at this; exact this)
    have KV := Lib.hid (KW.out.trans (B3.out.mono KW.out.size))
    obtain ⟨r1, n1, c1, rfl⟩ := SlAt.form H1.out
    obtain ⟨r2, n2, c2, rfl⟩ := SlAt.form H2.out
    have E1 := Lib.hid H1.out.len
    have E2 := Lib.hid H2.out.len
    have q9 : (n1 : Int) ≤ 1000000 := by have := E1.out; have := EL1.out; have := M1.out.n; have := HM1.out; omega
    obtain ⟨V, rfl⟩ : ∃ V, V = w3 := ⟨_, rfl⟩
    clear SS K2 Q1 Q2 B3 RA RB KW C1 C2
    by_cases en : n1 = n2
    · subst en
      go_wp2_with fail
      go_loopw [19] (fun i wr => ∃ k : Nat, k ≤ n1 ∧ i = .int .i64 (k : Int) ∧ L1.take k = L2.take k ∧ Below V.heap.size V wr) (fun i _ => n1 - (intOf i).toNat)
      case atStart => exact ⟨0, by omega, rfl, by simp, Below.refl _ _⟩
      case round =>
        obtain ⟨k, hk, rfl, htk, hb⟩ := hrel
        have TK := Lib.hid htk
        have BB := Lib.hid hb
        clear htk hb
        by_cases ck : k < n1
        · have l1 : k < L1.length := by have := E1.out; omega
          have l2 : k < L2.length := by have := E2.out; omega
          obtain ⟨a1, rfl⟩ := SlP.addr H1.out (by omega)
          obtain ⟨a2, rfl⟩ := SlP.addr H2.out (by omega)
          have z1 := Lib.hid (fun y : Wb wr => (H1.out.below (BB.out.trans (y.bel.mono BB.out.size))).at k l1)
          have z2 := Lib.hid (fun y : Wb wr => (H2.out.below (BB.out.trans (y.bel.mono BB.out.size))).at k l2)
          have S1 := Lib.hid (show L1.take (k + 1) = L1.take k ++ [L1[k]] from List.take_succ_eq_append_getElem l1)
          have S2 := Lib.hid (show L2.take (k + 1) = L2.take k ++ [L2[k]] from List.take_succ_eq_append_getElem l2)
          have NE := Lib.hid (show L1[k] ≠ L2[k] → L1 ≠ L2 from fun h e => h (by subst e; rfl))
          obtain ⟨⟨u, v⟩, hu⟩ : ∃ p, p = L1[k] := ⟨_, rfl⟩
          obtain ⟨⟨s, t⟩, hs⟩ : ∃ p, p = L2[k] := ⟨_, rfl⟩
          rw [← hu] at z1 S1 NE
          rw [← hs] at z2 S2 NE
          clear hu hs
          have x0 := fun y : Wb wr => (z1.out y).1
          have x1 := fun y : Wb wr => (z1.out y).2
          have x2 := fun y : Wb wr => (z2.out y).1
          have x3 := fun y : Wb wr => (z2.out y).2
          clear z1 z2 l1 l2
          have i0 : (0 : Int) ≤ (k : Int) := by omega
          have i1 : (k : Int) < (n1 : Int) := by omega
          by_cases c1 : u = s
          · subst c1
            by_cases c2 : v = t
            · subst c2
              go_wp2_with fail
              refine wp_region_wb (by kernel_rfl) (by kernel_rfl) ?_
              repeat (go_big_quiet_step (fail))
              refine wpQuiet_nil ?_
              rintro _ ⟨y, rfl⟩
              go_wp2
              go_roundw
              case rel => exact ⟨k + 1, by omega, by go_num, by rw [S1.out, S2.out, TK.out], BB.out.trans (y.bel.mono BB.out.size)⟩
              case measure => simp [intOf]; omega
            · have b2 : (v == t) = false := by simpa using c2
              go_wp2_with fail
              refine wp_region_wb (by kernel_rfl) (by kernel_rfl) ?_
              repeat (go_big_quiet_step (fail))
              refine wpQuiet_nil ?_
              rintro _ ⟨y, rfl⟩
              go_wp2
              go_ret
              exact ⟨(by rw [decide_eq_false (NE.out (by simp; omega))]; rfl), (KV.out.trans ((BB.out.trans (y.bel.mono BB.out.size)).mono KV.out.size))⟩
          · have b1 : (u == s) = false := by simpa using c1
            go_wp2_with fail
            refine wp_region_wb (by kernel_rfl) (by kernel_rfl) ?_
            repeat (go_big_quiet_step (fail))
            refine wpQuiet_nil ?_
            rintro _ ⟨y, rfl⟩
            go_wp2
            go_ret
            exact ⟨(by rw [decide_eq_false (NE.out (by simp; omega))]; rfl), (KV.out.trans ((BB.out.trans (y.bel.mono BB.out.size)).mono KV.out.size))⟩
        · obtain rfl : k = n1 := by omega
          have EQ := Lib.hid (show L1 = L2 by have := TK.out; rwa [List.take_of_length_le (by have := E1.out; omega), List.take_of_length_le (by have := E2.out; omega)] at this)
          have i2 : ¬ (k : Int) < (k : Int) := by omega
          go_wp2
          go_ret
          exact ⟨(by rw [decide_eq_true EQ.out]; rfl), KV.out.trans (BB.out.mono KV.out.size)⟩
    · have ne : decide (L1 = L2) = false := decide_eq_false (fun e => en (by rw [E1.out, E2.out, e]))
      have d : ((n1 : Int) != (n2 : Int)) = true := by simp; omega
      have NE0 := Lib.hid ne
      clear ne en
      go_wp2
      go_ret
      exact ⟨by rw [NE0.out]; rfl, KV.out⟩
end Go.Proofs.Ytnpgpbcpgniloaa

namespace Go.Proofs.Ytnpgpbcpgniloaa
open Go.RowKit GrS

/-- what is there behind Of -/
def fin (L : List (Int × Int)) : List (Int × Int) := if ofC L L.length = 0 then L else []
theorem fin_ok {L : List (Int × Int)} (h : ofC L L.length = 0) : fin L = L := if_pos h
theorem fin_bad {L : List (Int × Int)} {k : Nat} {C : Int} (hk : k + 1 ≤ L.length) (h : ofC L (k + 1) = C) (h0 : C ≠ 0) : ofC L L.length = C ∧ fin L = [] := by
  have e : ofC L L.length = C := by rw [ofC_stay (by rw [h]; exact h0) hk, h]
  exact ⟨e, if_neg (by rw [e]; exact h0)⟩
theorem wrL_ok {L : List (Int × Int)} {a x : Int} (h : (wrL L a x).2 = 0) : (wrL L a x).1 = L ++ [(a, x)] := by
  unfold wrL at h ⊢
  by_cases c : codeA a = 0
  · rw [if_pos c] at h ⊢
    by_cases d : 256 < (cellsTo (L ++ [(a, x)]) (L ++ [(a, x)]).length).length
    · rw [if_pos d] at h; simp at h
    · rw [if_neg d]
  · rw [if_neg c] at h
    exact absurd h c
theorem Bd.fin {L : List (Int × Int)} (h : Bd L) : Bd (fin L) := by
  unfold Go.Proofs.Ytnpgpbcpgniloaa.fin
  split
  · exact h
  · intro p hp; simp at hp

set_option maxRecDepth 100000 in
set_option maxHeartbeats 6400000 in
theorem rofS_some (a : Addr) (n cp : Nat) (L : List (Int × Int)) (w : World) (h : SlP w (.slice (some a) n cp) L) (hb : Bd L) (hn : n ≤ 1000) :
    Calls Try.prog 20 #[.slice (some a) n cp] w fun e w' => ∃ v2, e = .returned (.tuple #[v2, .int .i64 (ofC L L.length)]) ∧ Below w.heap.size w w' ∧ SlP w' v2 (fin L) := by
  have HN := Lib.hid h.len
  have HS := Lib.hid h
  have HB := Lib.hid hb
  clear h hb
  go_enter Try.func20, Try.ntmps20
  go_wp2_with fail
  go_loopw [4, 5] (fun lv i wr => ∃ (k : Nat) (M : List (Int × Int)), k ≤ n ∧ i = .int .i64 (k : Int) ∧ SlP wr lv M ∧ (M = L.take k ∧ ofC L k = 0) ∧ Below w.heap.size w wr) (fun _ i _ => n - (intOf i).toNat)
  case atStart => exact ⟨0, [], by omega, rfl, SlAt.nil _ _, ⟨by simp, rfl⟩, Below.refl _ _⟩
  case round =>
    obtain ⟨k, M, hk, rfl, hm, hml, hbel⟩ := hrel
    have HM := Lib.hid hm
    have BB := Lib.hid hbel
    have ML := Lib.hid hml
    clear hm hbel hml
    by_cases ck : k < n
    · have lk : k < L.length := by have := HN.out; omega
      have YY := Lib.hid (fun (U : World) (b : Below w.heap.size w U) => (HS.out.below b).at k lk)
      have BD := Lib.hid (HB.out L[k] (List.getElem_mem lk))
      have ST := Lib.hid (show ofC L (k + 1) = (wrL M L[k].1 L[k].2).2 by rw [ML.out.1]; exact ofC_step ML.out.2 lk)
      have TK := Lib.hid (show L.take (k + 1) = M ++ [L[k]] by rw [ML.out.1]; exact List.take_succ_eq_append_getElem lk)
      have FT := Lib.hid (fun (C : Int) (h : ofC L (k + 1) = C) (h0 : C ≠ 0) => show ofC L L.length = C ∧ fin L = [] from fin_bad (by omega) h h0)
      obtain ⟨⟨x0, x1⟩, hx⟩ : ∃ p, p = L[k] := ⟨_, rfl⟩
      rw [← hx] at YY BD ST TK
      clear hx lk
      have i0 : (0 : Int) ≤ (k : Int) := by omega
      have i1 : (k : Int) < (n : Int) := by omega
      have WC := Lib.hid (fun (U : World) (b : Below wr.heap.size wr U) => rwrite_any _ M x0 x1 U (HM.out.below b) BD.out.1.1 BD.out.1.2 (by rw [ML.out.1, List.length_take]; omega))
      obtain ⟨C, hC⟩ : ∃ C, C = (wrL M x0 x1).2 := ⟨_, rfl⟩
      obtain ⟨M2, hM2⟩ : ∃ C, C = (wrL M x0 x1).1 := ⟨_, rfl⟩
      have M2L := Lib.hid (show C = 0 → M2 = L.take (k + 1) ∧ ofC L (k + 1) = 0 from fun h => ⟨by rw [hM2, TK.out]; exact wrL_ok (hC.symm.trans h), by rw [ST.out]; exact hC.symm.trans h⟩)
      have SC := Lib.hid (show ofC L (k + 1) = C by rw [ST.out, hC])
      rw [← hC, ← hM2] at WC
      clear hC hM2
      have K0 := Lib.hid (YY.out wr.drew BB.out.drew)
      go_wp2_with fail
      go_region_held3 (fun w' => w'.cell? (a.add (k * 2)) = some (.int .u64 x0) ∧ w'.cell? ⟨(a.add (k * 2)).block, (a.add (k * 2)).off + 1, none⟩ = some (.int .u64 x1))
        (first | exact K0.out | exact K3.out)
        (first | (go_at_call 29; refine (WC.out _ (Below.refl _ _).drew).mono ?_; rintro e w3 ⟨v2, rfl, b3, s3⟩; have B3 := Lib.hid (BB.out.trans ((((Below.refl wr.heap.size wr).drew).trans b3).mono BB.out.size)); have S3 := Lib.hid s3; have K3 := Lib.hid (YY.out w3 B3.out); clear b3 s3))
      by_cases cc : C = 0
      · have cb : (C != 0) = false := by simpa using cc
        have RX := Lib.hid (M2L.out cc)
        clear cc
        go_wp2
        go_roundw
        case rel => exact ⟨k + 1, M2, by omega, by go_num, S3.out, RX.out, B3.out⟩
        case measure => simp [intOf]; omega
      · have cb : (C != 0) = true := by simpa using cc
        have RX := Lib.hid (FT.out C SC.out cc)
        clear cc
        go_wp2
        exact bodyPost_ret (v := .tuple #[.slice none 0 0, .int .i64 C]) (by simp [results, Try.results20, go_sem, *]) rfl ⟨_, by rw [RX.out.1], B3.out, by rw [RX.out.2]; exact SlAt.nil _ _⟩
    · obtain rfl : n = k := by omega
      have BK := BB
      have RX := Lib.hid (show ofC L L.length = 0 ∧ fin L = M from by rw [← HN.out]; exact ⟨ML.out.2, by rw [ML.out.1, HN.out, List.take_length]; exact fin_ok (by rw [← HN.out]; exact ML.out.2)⟩)
      have HM2 := HM
      go_wp2
      exact bodyPost_ret (v := .tuple #[u4, .int .i64 0]) (by simp [results, Try.results20, go_sem, *]) rfl ⟨_, by rw [RX.out.1], BK.out, by rw [RX.out.2]; exact HM2.out⟩
theorem rofS_any (v : Value) (L : List (Int × Int)) (w : World) (h : SlP w v L) (hb : Bd L) (hn : L.length ≤ 1000) :
    Calls Try.prog 20 #[v] w fun e w' => ∃ v2, e = .returned (.tuple #[v2, .int .i64 (ofC L L.length)]) ∧ Below w.heap.size w w' ∧ SlP w' v2 (fin L) := by
  have h' := h
  obtain ⟨_, ⟨rfl, h0⟩ | ⟨a, c, rfl, _⟩⟩ := h'
  · obtain rfl : L = [] := List.eq_nil_of_length_eq_zero h0
    go_enter Try.func20, Try.ntmps20
    go_wp2_with fail
    refine wp_loop_rounds 2 ?_
    rw [rounds_succ]
    go_wp2
    exact bodyPost_ret (v := .tuple #[.slice none 0 0, .int .i64 0]) (by simp [results, Try.results20, go_sem, *]) rfl ⟨_, rfl, Below.refl _ _, SlAt.nil _ _⟩
  · exact rofS_some a _ c L w h hb hn

set_option maxRecDepth 100000 in
set_option maxHeartbeats 6400000 in
theorem ofS_some (a : Addr) (n cp : Nat) (L : List (Int × Int)) (w : World) (h : SlP w (.slice (some a) n cp) L) (hb : Bd L) (hn : n ≤ 1000) :
    Calls Try.prog 19 #[.slice (some a) n cp] w fun e w' => ∃ p m t, e = .returned (.tuple #[.agg #[.pointer p, .int .i64 m], .int .i64 (ofC L L.length)]) ∧ Below w.heap.size w w' ∧ MAt w' p m t ∧ m ≤ 256 ∧ RelT t (fin L) := by
  have HN := Lib.hid h.len
  have HS := Lib.hid h
  have HB := Lib.hid hb
  clear h hb
  go_enter Try.func19, Try.ntmps19
  go_upto_region 2 with fail
  refine to_cls ?_
  intro U0 hU0 z0
  have r_R := Lib.hid (show Row z0.at w.heap.size [.pointer none, .int .i64 0] 38 from (Row.next ((Row.new w [.pointer none, .int .i64 0] _).old _) hU0) z0)
  have r_M := Lib.hid (show Row z0.at (w.heap.size + 1) [.pointer none, .int .i64 0] 38 from (Row.next (Row.new' _ [.pointer none, .int .i64 0] _ _ (by simp)) hU0) z0)
  have B0 := Lib.hid (show Below w.heap.size w z0.at from KB.next (KB.alloc (KB.alloc (Below.refl _ _) _) _) hU0 z0)
  obtain ⟨R, hR⟩ : ∃ R, R = w.heap.size := ⟨_, rfl⟩
  obtain ⟨M, hM⟩ : ∃ M, M = w.heap.size + 1 := ⟨_, rfl⟩
  rw [← hM] at r_M
  simp only [← hM]
  rw [← hR] at r_R
  simp only [← hR]
  have HR := Lib.hid hR
  have HM := Lib.hid hM
  clear hR hM hU0
  go_wp2_with fail
  go_loopw [11] (fun i wr => ∃ (k : Nat) (p : Option Addr) (m : Int) (t : Option Tr), k ≤ n ∧ i = .int .i64 (k : Int) ∧ Row wr M [.pointer p, .int .i64 m] 38 ∧ Row wr R [.pointer none, .int .i64 0] 38 ∧ MAt wr p m t ∧ (RelT t (L.take k) ∧ ofC L k = 0) ∧ m ≤ 256 ∧ Below w.heap.size w wr) (fun i _ => n - (intOf i).toNat)
  case atStart => exact ⟨0, none, 0, none, by omega, rfl, r_M.out, r_R.out, ⟨rfl, rfl, trivial⟩, ⟨RelT.nil, rfl⟩, by omega, B0.out⟩
  case round =>
    obtain ⟨k, p, m, t, hk, rfl, hm, hr, hma, hrel2, hm2, hbel⟩ := hrel
    have RM := Lib.hid hm
    have RR := Lib.hid hr
    have MA := Lib.hid hma
    have RT := Lib.hid hrel2
    have BB := Lib.hid hbel
    have mm := Lib.hid hm2
    clear hm hr hma hrel2 hbel hm2
    have wM := Lib.hid (show w.heap.size ≤ M by rw [HM.out]; omega)
    have wR := Lib.hid (show w.heap.size ≤ R by rw [HR.out]; omega)
    have MR := Lib.hid (show M ≠ R by rw [HM.out, HR.out]; omega)
    by_cases ck : k < n
    · have lk : k < L.length := by have := HN.out; omega
      obtain ⟨y0, y1⟩ := (HS.out.below BB.out).at k lk
      have BD := Lib.hid (HB.out L[k] (List.getElem_mem lk))
      have ST := Lib.hid (show ofC L (k + 1) = (wrL (L.take k) L[k].1 L[k].2).2 from ofC_step RT.out.2 lk)
      have WQ := Lib.hid (wr_code RT.out.1 MA.out.wf (HB.out.take k) (HB.out L[k] (List.getElem_mem lk)).1.1 (HB.out L[k] (List.getElem_mem lk)).1.2 (HB.out L[k] (List.getElem_mem lk)).2.1 (HB.out L[k] (List.getElem_mem lk)).2.2 (by have := MA.out.n; have := mm.out; omega)).1
      have FT := Lib.hid (fun (C : Int) (h : ofC L (k + 1) = C) (h0 : C ≠ 0) => show ofC L L.length = C ∧ fin L = [] from fin_bad (by omega) h h0)
      have TK := Lib.hid (show L.take (k + 1) = L.take k ++ [L[k]] from List.take_succ_eq_append_getElem lk)
      obtain ⟨⟨x0, x1⟩, hx⟩ : ∃ p, p = L[k] := ⟨_, rfl⟩
      rw [← hx] at y0 y1 BD TK ST WQ
      clear hx lk
      have i0 : (0 : Int) ≤ (k : Int) := by omega
      have i1 : (k : Int) < (n : Int) := by omega
      go_upto_region 5 with fail
      refine to_cls ?_
      intro U hU z
      have r_o : ∀ z : Wb U, Row z.at wr.heap.size [.int .u64 x0, .int .u64 x1] 64 := Row.next (Row.new _ [.int .u64 x0, .int .u64 x1] _) hU
      have r_m : ∀ z : Wb U, Row z.at M [.pointer p, .int .i64 m] 38 := Row.next (RM.out.old _) hU
      have r_r : ∀ z : Wb U, Row z.at R [.pointer none, .int .i64 0] 38 := Row.next (RR.out.old _) hU
      have bU := Lib.hid (show Below wr.heap.size wr U from (KB.alloc (Below.refl _ _) _).trans (hU.mono (by simp)))
      have o0 : ∀ z : Wb U, z.at.cell? ⟨wr.heap.size, 0, none⟩ = some (.int .u64 x0) := fun z => (r_o z).cell 0
      have o1 : ∀ z : Wb U, z.at.cell? ⟨wr.heap.size, 1, none⟩ = some (.int .u64 x1) := fun z => (r_o z).cell 1
      have m0 : ∀ z : Wb U, z.at.cell? ⟨M, 0, none⟩ = some (.pointer p) := fun z => (r_m z).cell 0
      have m1 : ∀ z : Wb U, z.at.cell? ⟨M, 1, none⟩ = some (.int .i64 m) := fun z => (r_m z).cell 1
      have WC := Lib.hid (Write_any p m t x0 x1 z.at (MA.out.below (bU.out.trans (z.bel.mono bU.out.size))) BD.out.1.1 BD.out.1.2 (by have := mm.out; omega))
      have WR2 := Lib.hid (fun h0 => wrM_rel (v := x1) RT.out.1 MA.out.wf BD.out.1.1 BD.out.1.2 (by have := MA.out.n; have := mm.out; omega) h0)
      obtain ⟨C, hC⟩ : ∃ C, C = (wrM t x0.toNat x1).2 := ⟨_, rfl⟩
      obtain ⟨t2, ht2⟩ : ∃ C, C = (wrM t x0.toNat x1).1 := ⟨_, rfl⟩
      have SC := Lib.hid (show ofC L (k + 1) = C by rw [ST.out, ← WQ.out, hC])
      rw [← hC, ← ht2] at WC WR2
      clear hC ht2 y0 y1
      go_wp2_with fail
      refine WC.out.mono ?_
      rintro e w2 ⟨p2, m2, rfl, b2, ma2⟩
      have MA2 := Lib.hid ma2
      clear ma2 WC
      obtain ⟨z2, rfl⟩ := Wb.next (x := z) b2
      clear b2
      go_upto_region 6 with fail
      refine to_cls ?_
      intro U2 hU2 z3
      have r_q : ∀ z : Wb U2, Row z.at z2.at.heap.size [.pointer p2, .int .i64 m2] 38 := Row.next (Row.new _ [.pointer p2, .int .i64 m2] _) hU2
      have r_m2 : ∀ z : Wb U2, Row z.at M [.pointer p, .int .i64 m] 38 := Row.next ((r_m z2).old _) hU2
      have r_r2 : ∀ z : Wb U2, Row z.at R [.pointer none, .int .i64 0] 38 := Row.next ((r_r z2).old _) hU2
      have q2 : Below w.heap.size w z2.at := BB.out.trans ((bU.out.trans (z2.bel.mono bU.out.size)).mono BB.out.size)
      have bU2 := Lib.hid (show Below w.heap.size w U2 from (KB.alloc q2 _).trans (hU2.mono (KB.alloc q2 _).size))
      have MA3 := Lib.hid (fun z : Wb U2 => MAt.below (MA2.out.below (KB.alloc (Below.refl _ _) _ : Below z2.at.heap.size z2.at _)) (hU2.trans (z.bel.mono hU2.size)))
      clear hU2 o0 o1 m0 m1
      obtain ⟨Q, hQ⟩ : ∃ Q, Q = z2.at.heap.size := ⟨_, rfl⟩
      rw [← hQ] at r_q
      simp only [← hQ]
      clear hQ
      have q0 : ∀ z : Wb U2, z.at.cell? ⟨Q, 0, none⟩ = some (.pointer p2) := fun z => (r_q z).cell 0
      have q1 : ∀ z : Wb U2, z.at.cell? ⟨Q, 1, none⟩ = some (.int .i64 m2) := fun z => (r_q z).cell 1
      have m0 : ∀ z : Wb U2, z.at.cell? ⟨M, 0, none⟩ = some (.pointer p) := fun z => (r_m2 z).cell 0
      have m1 : ∀ z : Wb U2, z.at.cell? ⟨M, 1, none⟩ = some (.int .i64 m) := fun z => (r_m2 z).cell 1
      have fm : ∀ (z : Wb U2) (i : Nat), z.at.frozen? ⟨M, i, none⟩ = false := fun z i => (r_m2 z).free i
      have s0 : ∀ z : Wb U2, z.at.cell? ⟨R, 0, none⟩ = some (.pointer none) := fun z => (r_r2 z).cell 0
      have s1 : ∀ z : Wb U2, z.at.cell? ⟨R, 1, none⟩ = some (.int .i64 0) := fun z => (r_r2 z).cell 1
      have fs : ∀ (z : Wb U2) (i : Nat), z.at.frozen? ⟨R, i, none⟩ = false := fun z i => (r_r2 z).free i
      have q3 := Lib.hid (show Below w.heap.size w z3.at from bU2.out.trans (z3.bel.mono bU2.out.size))
      by_cases cc : C = 0
      · have cb : (C != 0) = false := by simpa using cc
        have RX := Lib.hid (WR2.out cc)
        have RZ := Lib.hid (show ofC L (k + 1) = 0 by rw [SC.out]; exact cc)
        clear cc
        go_wp2
        go_roundw
        case rel => exact ⟨k + 1, p2, m2, t2, by omega, by go_num, ((r_m2 z3).set 0 _).set 1 _, ((r_r2 z3).oth MR.out.symm 0 _).oth MR.out.symm 1 _, (((MA3.out z3).set (r_m2 z3) (by simp) 0 _).set ((r_m2 z3).set 0 _) (by simp) 1 _), ⟨by rw [TK.out]; exact RX.out.1, RZ.out⟩, by have := (MA3.out z3).n; have := RX.out.2; omega, KB.put (KB.put q3.out wM.out 0 _) wM.out 1 _⟩
        case measure => simp [intOf]; omega
      · have cb : (C != 0) = true := by simpa using cc
        have CC := Lib.hid (FT.out C SC.out cc)
        clear cc
        go_wp2
        refine bodyPost_ret (v := .tuple #[.agg #[.pointer none, .int .i64 0], .int .i64 C]) (by simp [results, Try.results19, go_sem, *]) rfl ⟨none, 0, none, by rw [CC.out.1], ?_, ⟨rfl, rfl, trivial⟩, by omega, by rw [CC.out.2]; exact RelT.nil⟩
        exact KB.put (KB.put q3.out wR.out 0 _) wR.out 1 _
    · obtain rfl : n = k := by omega
      have RX := Lib.hid (show ofC L L.length = 0 ∧ fin L = L from by rw [← HN.out]; exact ⟨RT.out.2, fin_ok (by rw [← HN.out]; exact RT.out.2)⟩)
      have m0 : wr.cell? ⟨M, 0, none⟩ = some (.pointer p) := RM.out.cell 0
      have m1 : wr.cell? ⟨M, 1, none⟩ = some (.int .i64 m) := RM.out.cell 1
      have s0 : wr.cell? ⟨R, 0, none⟩ = some (.pointer none) := RR.out.cell 0
      have s1 : wr.cell? ⟨R, 1, none⟩ = some (.int .i64 0) := RR.out.cell 1
      have f0 : wr.frozen? ⟨R, 0, none⟩ = false := RR.out.free 0
      have f1 : wr.frozen? ⟨R, 1, none⟩ = false := RR.out.free 1
      go_wp2
      refine bodyPost_ret (v := .tuple #[.agg #[.pointer p, .int .i64 m], .int .i64 0]) (by simp [results, Try.results19, go_sem, *]) rfl ⟨p, m, t, by rw [RX.out.1], KB.put (KB.put BB.out wR.out 0 _) wR.out 1 _, ((MA.out.set RR.out (by simp) 0 _).set (RR.out.set 0 _) (by simp) 1 _), mm.out, by have := RT.out.1; rw [HN.out, List.take_length] at this; rw [RX.out.2]; exact this⟩
theorem ofS_any (v : Value) (L : List (Int × Int)) (w : World) (h : SlP w v L) (hb : Bd L) (hn : L.length ≤ 1000) :
    Calls Try.prog 19 #[v] w fun e w' => ∃ p m t, e = .returned (.tuple #[.agg #[.pointer p, .int .i64 m], .int .i64 (ofC L L.length)]) ∧ Below w.heap.size w w' ∧ MAt w' p m t ∧ m ≤ 256 ∧ RelT t (fin L) := by
  have h' := h
  obtain ⟨_, ⟨rfl, h0⟩ | ⟨a, c, rfl, _⟩⟩ := h'
  · obtain rfl : L = [] := List.eq_nil_of_length_eq_zero h0
    clear h hb hn h0
    go_enter Try.func19, Try.ntmps19
    go_wp2_with fail
    refine wp_loop_rounds 2 ?_
    rw [rounds_succ]
    go_wp2
    refine bodyPost_ret (v := .tuple #[.agg #[.pointer none, .int .i64 0], .int .i64 0]) (by simp [results, Try.results19, go_sem, *]) rfl ⟨none, 0, none, rfl, ?_, ⟨rfl, rfl, trivial⟩, by omega, RelT.nil⟩
    repeat' (first | (with_reducible exact Below.refl _ _) | (with_reducible refine Below.setCell ?_ ?_ _) | (with_reducible refine Below.alloc ?_ ?_ _) | (simp; done) | (simp; omega))
  · exact ofS_some a _ c L w h hb hn
end Go.Proofs.Ytnpgpbcpgniloaa
