/-
  Layer 1, the numbers: things in an order, the least first.
-/
import Derived.Test.YtjgfnemdklljmaaAj
set_option linter.unusedSimpArgs false
set_option linter.unusedVariables false
namespace GrR
open Go
/-- nothing that isn't done is ahead of a -/
def freeB (n : Nat) (T : Mx) (D : List Nat) (a : Nat) : Bool := !D.contains a && (List.range n).all fun k => D.contains k || !T k a
def pickO (n : Nat) (T : Mx) (D : List Nat) : Option Nat := (List.range n).find? (freeB n T D)
def sortL (n : Nat) (T : Mx) : Nat → List Nat → List Nat
  | 0, D => D
  | f + 1, D => match pickO n T D with
    | none => D
    | some a => sortL n T f (D ++ [a])
theorem freeB_iff {n : Nat} {T : Mx} {D : List Nat} {a : Nat} : freeB n T D a = true ↔ a ∉ D ∧ ∀ k, k < n → k ∈ D ∨ T k a = false := by
  simp [freeB]
structure OrdG (n : Nat) (T : Mx) (D : List Nat) : Prop where
  nodup : D.Nodup
  bd : ∀ a ∈ D, a < n
  closed : ∀ a ∈ D, ∀ k, T k a = true → k ∈ D
  irr : ∀ a ∈ D, ¬ Re T a a
theorem OrdG.nil (n : Nat) (T : Mx) : OrdG n T [] := ⟨List.Pairwise.nil, by simp, by simp, by simp⟩
theorem OrdG.anc {n : Nat} {T : Mx} {D : List Nat} (h : OrdG n T D) {a b : Nat} (k : Re T a b) : b ∈ D → a ∈ D := by
  induction k with
  | one k => exact fun hb => h.closed _ hb _ k
  | more k _ ih => exact fun hb => h.closed _ (ih hb) _ k
theorem OrdG.step {n : Nat} {T : Mx} {D : List Nat} (s : Sup n T) (h : OrdG n T D) {a : Nat} (ha : a < n) (hf : freeB n T D a = true) : OrdG n T (D ++ [a]) := by
  obtain ⟨h1, h2⟩ := freeB_iff.1 hf
  have pred : ∀ k, T k a = true → k ∈ D := fun k e => by
    rcases h2 k (s k a e).1 with h | h
    · exact h
    · rw [e] at h; cases h
  have na : ¬ Re T a a := fun e => by
    obtain ⟨b, hb, e | e⟩ := e.last
    · subst e; exact h1 (pred _ hb)
    · exact h1 (h.anc e (pred _ hb))
  refine ⟨?_, fun b hb => ?_, fun b hb k e => ?_, fun b hb => ?_⟩
  · rw [List.nodup_append]
    refine ⟨h.nodup, by simp, fun x hx y hy e => ?_⟩
    simp at hy
    subst hy; subst e
    exact h1 hx
  all_goals
    rw [List.mem_append, List.mem_singleton] at hb
  · exact hb.elim (h.bd b) (fun e => e ▸ ha)
  · rw [List.mem_append]
    rcases hb with hb | rfl
    · exact .inl (h.closed b hb k e)
    · exact .inl (pred k e)
  · rcases hb with hb | rfl
    · exact h.irr b hb
    · exact na
theorem sub_le : ∀ (l D : List Nat), l.Nodup → (∀ x ∈ l, x ∈ D) → l.length ≤ D.length
  | [], _, _, _ => by simp
  | x :: l, D, hn, hs => by
    have hx := hs x (List.mem_cons_self ..)
    rw [List.nodup_cons] at hn
    have := sub_le l (D.erase x) hn.2 (fun y hy => (List.mem_erase_of_ne (fun (e : y = x) => hn.1 (e ▸ hy))).2 (hs y (List.mem_cons_of_mem _ hy)))
    have h2 := List.length_erase_of_mem hx
    have h3 : 0 < D.length := List.length_pos_of_mem hx
    simp only [List.length_cons]
    omega
theorem OrdG.le {n : Nat} {T : Mx} {D : List Nat} (h : OrdG n T D) : D.length ≤ n := by
  have := sub_le D (List.range n) h.nodup (fun x hx => List.mem_range.2 (h.bd x hx))
  simpa using this
theorem OrdG.full {n : Nat} {T : Mx} {D : List Nat} (h : OrdG n T D) (e : D.length = n) (a : Nat) (ha : a < n) : a ∈ D := by
  by_cases c : a ∈ D
  · exact c
  · have := sub_le (a :: D) (List.range n) (List.nodup_cons.2 ⟨c, h.nodup⟩) (fun x hx => by
      rcases List.mem_cons.1 hx with rfl | hx
      · exact List.mem_range.2 ha
      · exact List.mem_range.2 (h.bd x hx))
    simp at this
    omega
theorem missing {n : Nat} {D : List Nat} (h : D.length < n) : ∃ a, a < n ∧ a ∉ D := by
  apply Classical.byContradiction
  intro no
  have := sub_le (List.range n) D List.nodup_range (fun x hx => Classical.byContradiction fun e => no ⟨x, List.mem_range.1 hx, e⟩)
  simp at this
  omega
theorem least_in {T : Mx} : ∀ (S : List Nat), S ≠ [] → (∀ x ∈ S, ¬ Re T x x) → ∃ m ∈ S, ∀ k ∈ S, ¬ Re T k m
  | [], h, _ => absurd rfl h
  | x :: S, _, hi => by
    by_cases e : S = []
    · subst e
      exact ⟨x, by simp, fun k hk => by simp at hk; subst hk; exact hi k (by simp)⟩
    · obtain ⟨m, hm, hk⟩ := least_in S e fun y hy => hi y (List.mem_cons_of_mem _ hy)
      by_cases c : Re T x m
      · refine ⟨x, List.mem_cons_self .., fun k hk' r => ?_⟩
        rcases List.mem_cons.1 hk' with rfl | hk'
        · exact hi _ (List.mem_cons_self ..) r
        · exact hk k hk' (r.trans c)
      · refine ⟨m, List.mem_cons_of_mem _ hm, fun k hk' r => ?_⟩
        rcases List.mem_cons.1 hk' with rfl | hk'
        · exact c r
        · exact hk k hk' r
theorem acyc_re {n : Nat} {T : Mx} (s : Sup n T) : acyc n T = true ↔ ∀ i, ¬ Re T i i := by
  rw [acyc_iff]
  constructor
  · intro h i r
    have := h i (r.sup s).1
    rw [(wars_iff s i i).2 r] at this
    cases this
  · intro h i _
    cases c : wars T n i i with
    | false => rfl
    | true => exact absurd (wars_re T n i i c) (h i)
theorem pick_some {n : Nat} {T : Mx} {D : List Nat} {a : Nat} (h : pickO n T D = some a) : a < n ∧ freeB n T D a = true :=
  ⟨List.mem_range.1 (List.mem_of_find?_eq_some h), List.find?_some h⟩
theorem pick_acyc {n : Nat} {T : Mx} {D : List Nat} (s : Sup n T) (h : acyc n T = true) (hl : D.length < n) : ∃ a, pickO n T D = some a := by
  cases c : pickO n T D with
  | some a => exact ⟨a, rfl⟩
  | none =>
    exfalso
    have no := List.find?_eq_none.1 c
    obtain ⟨x, hx, hxd⟩ := missing hl
    obtain ⟨m, hm, hk⟩ := least_in (T := T) ((List.range n).filter fun a => !D.contains a) (by
      intro e
      have : x ∈ (List.range n).filter fun a => !D.contains a := by simp [hx, hxd]
      rw [e] at this
      cases this) (fun y _ => (acyc_re s).1 h y)
    simp at hm
    refine no m (List.mem_range.2 hm.1) (freeB_iff.2 ⟨hm.2, fun k hkn => ?_⟩)
    by_cases d : k ∈ D
    · exact .inl d
    · refine .inr ?_
      cases t : T k m with
      | false => rfl
      | true => exact absurd (.one t) (hk k (by simp [hkn, d]))
theorem sortL_good {n : Nat} {T : Mx} (s : Sup n T) : ∀ (f : Nat) (D : List Nat), OrdG n T D → OrdG n T (sortL n T f D)
  | 0, D, h => h
  | f + 1, D, h => by
    unfold sortL
    cases c : pickO n T D with
    | none => exact h
    | some a => exact sortL_good s f _ (h.step s (pick_some c).1 (pick_some c).2)
theorem sortL_len {n : Nat} {T : Mx} (s : Sup n T) (h : acyc n T = true) : ∀ (f : Nat) (D : List Nat), D.length + f = n → (sortL n T f D).length = n
  | 0, D, e => e
  | f + 1, D, e => by
    obtain ⟨a, ha⟩ := pick_acyc (D := D) s h (by omega)
    unfold sortL
    rw [ha]
    exact sortL_len s h f _ (by simp; omega)
theorem sortL_acyc {n : Nat} {T : Mx} (s : Sup n T) : (sortL n T n []).length = n ↔ acyc n T = true := by
  refine ⟨fun e => ?_, fun h => sortL_len s h n [] (by simp)⟩
  have g := sortL_good s n [] (OrdG.nil n T)
  exact (acyc_re s).2 fun i r => g.irr i (g.full e i (r.sup s).1) r
theorem sortL_le {n : Nat} {T : Mx} (s : Sup n T) : (sortL n T n []).length ≤ n := (sortL_good s n [] (OrdG.nil n T)).le

/-- what is ahead of a and not done -/
def cntA (n : Nat) (T : Mx) (D : List Nat) (a : Nat) : Nat := (List.range n).countP fun k => !D.contains k && T k a
theorem cntA_zero {n : Nat} {T : Mx} {D : List Nat} {a : Nat} (h : a ∉ D) : cntA n T D a = 0 ↔ freeB n T D a = true := by
  rw [freeB_iff]
  unfold cntA
  rw [List.countP_eq_zero]
  constructor
  · refine fun q => ⟨h, fun k hk => ?_⟩
    have := q k (List.mem_range.2 hk)
    by_cases d : k ∈ D
    · exact .inl d
    · simp [d] at this
      exact .inr this
  · rintro ⟨_, q⟩ k hk
    rcases q k (List.mem_range.1 hk) with d | d
    · simp [d]
    · simp [d]
theorem countP_one (l : List Nat) (a : Nat) (f : Nat → Bool) (hn : l.Nodup) (ha : a ∈ l) : l.countP f = l.countP (fun k => !(k == a) && f k) + (f a).toNat := by
  induction l with
  | nil => cases ha
  | cons x l ih =>
    rw [List.nodup_cons] at hn
    simp only [List.countP_cons]
    by_cases c : x = a
    · subst c
      have e : l.countP (fun k => !(k == x) && f k) = l.countP f := List.countP_congr fun k hk => by
        have : k ≠ x := fun e => hn.1 (e ▸ hk)
        simp [this]
      rw [e]
      cases f x <;> simp
    · have := ih hn.2 (by rcases List.mem_cons.1 ha with e | e; exact absurd e.symm c; exact e)
      have c' : (x == a) = false := by simp [c]
      rw [this, c']
      simp only [Bool.not_false, Bool.true_and]
      omega
theorem cntA_add {n : Nat} {T : Mx} {D : List Nat} {a b : Nat} (ha : a < n) (hd : a ∉ D) : cntA n T D b = cntA n T (D ++ [a]) b + (T a b).toNat := by
  unfold cntA
  rw [countP_one (List.range n) a _ List.nodup_range (List.mem_range.2 ha)]
  have e1 : (!D.contains a && T a b) = T a b := by simp [hd]
  have e2 : (fun k => !(k == a) && (!D.contains k && T k b)) = fun k => !(D ++ [a]).contains k && T k b := by
    funext k
    by_cases c : k = a
    · simp [c]
    · have c' : (k == a) = false := by simp [c]
      simp [c, c']
  rw [e1, e2]
theorem cntA_le (n : Nat) (T : Mx) (D : List Nat) (a : Nat) : cntA n T D a ≤ n := by
  have := List.countP_le_length (p := fun k => !D.contains k && T k a) (l := List.range n)
  simpa [cntA] using this
def optI : Option Nat → Int
  | none => -1
  | some a => (a : Int)
/-- what is counted, when D is done -/
structure AhOk (n : Nat) (T : Mx) (D : List Nat) (f : Nat → Int) : Prop where
  inD : ∀ a, a < n → a ∈ D → f a < 0
  out : ∀ a, a < n → a ∉ D → f a = (cntA n T D a : Int)
  low : ∀ a, a < n → -(D.length : Int) ≤ f a
theorem AhOk.find {n : Nat} {T : Mx} {D : List Nat} {f : Nat → Int} (h : AhOk n T D f) : (List.range n).find? (fun a => f a == 0) = pickO n T D := by
  unfold pickO
  apply find_congr
  intro a ha
  have ha := List.mem_range.1 ha
  rw [Bool.eq_iff_iff, beq_iff_eq]
  by_cases d : a ∈ D
  · have := h.inD a ha d
    rw [freeB_iff]
    constructor
    · intro e; omega
    · intro e; exact absurd d e.1
  · rw [h.out a ha d, ← cntA_zero d]
    omega
where
  find_congr {l : List Nat} {f g : Nat → Bool} (h : ∀ a ∈ l, f a = g a) : l.find? f = l.find? g := by
    induction l with
    | nil => rfl
    | cons x l ih =>
      rw [List.find?_cons, List.find?_cons, h x (List.mem_cons_self ..), ih fun a ha => h a (List.mem_cons_of_mem _ ha)]
theorem AhOk.step {n : Nat} {T : Mx} {D : List Nat} {f : Nat → Int} (h : AhOk n T D f) {a : Nat} (ha : a < n) (hf : freeB n T D a = true) :
    AhOk n T (D ++ [a]) (fun b => (if b = a then -1 else f b) - ((T a b).toNat : Int)) := by
  obtain ⟨hd, hp⟩ := freeB_iff.1 hf
  have haa : T a a = false := by
    rcases hp a ha with e | e
    · exact absurd e hd
    · exact e
  refine ⟨fun b hb hm => ?_, fun b hb hm => ?_, fun b hb => ?_⟩
  · rw [List.mem_append, List.mem_singleton] at hm
    by_cases c : b = a
    · rw [if_pos c]; omega
    · have := h.inD b hb (hm.elim id (fun e => absurd e c))
      rw [if_neg c]; omega
  · rw [List.mem_append, List.mem_singleton] at hm
    have c : ¬ b = a := fun e => hm (.inr e)
    have := h.out b hb (fun e => hm (.inl e))
    have := cntA_add (T := T) (b := b) ha hd
    rw [if_neg c]; omega
  · have := h.low b hb
    have q : (T a b).toNat ≤ 1 := by cases T a b <;> simp
    rw [List.length_append, List.length_singleton]
    by_cases c : b = a
    · subst c; rw [if_pos rfl, haa]; simp; omega
    · rw [if_neg c]; omega
def bst (F : Nat → Bool) (n : Nat) : Nat → Int
  | 0 => -1
  | j + 1 => if F (n - 1 - j) = true then ((n - 1 - j : Nat) : Int) else bst F n j
theorem bst_find (F : Nat → Bool) (n : Nat) : ∀ j, j ≤ n → bst F n j = optI ((List.range' (n - j) j).find? F)
  | 0, _ => rfl
  | j + 1, h => by
    unfold bst
    rw [show List.range' (n - (j + 1)) (j + 1) = (n - (j + 1)) :: List.range' (n - j) j by rw [List.range'_succ]; congr 2; omega, List.find?_cons, bst_find F n j (by omega), show n - 1 - j = n - (j + 1) by omega]
    cases F (n - (j + 1)) <;> rfl
theorem bst_pick (n : Nat) (T : Mx) (D : List Nat) : bst (freeB n T D) n n = optI (pickO n T D) := by
  rw [bst_find _ _ n (Nat.le_refl _), Nat.sub_self, ← List.range_eq_range']
  rfl
end GrR
