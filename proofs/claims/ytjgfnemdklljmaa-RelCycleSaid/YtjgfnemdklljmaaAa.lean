/-
  Layer 1, the numbers: relations over numbers, what can be reached, Warshall's rounds, the page's rounds.
-/
set_option linter.unusedSimpArgs false
set_option linter.unusedVariables false
namespace GrR
abbrev Mx := Nat → Nat → Bool
/-- no pairs but of the first n -/
def Sup (n : Nat) (T : Mx) : Prop := ∀ a b, T a b = true → a < n ∧ b < n
/-- reached in one step or more -/
inductive Re (T : Mx) : Nat → Nat → Prop
  | one {a b : Nat} : T a b = true → Re T a b
  | more {a b c : Nat} : T a b = true → Re T b c → Re T a c
theorem Re.trans {T : Mx} {a b c : Nat} (h : Re T a b) (k : Re T b c) : Re T a c := by
  induction h with
  | one h => exact .more h k
  | more h _ ih => exact .more h (ih k)
theorem Re.sup {n : Nat} {T : Mx} (s : Sup n T) {a b : Nat} (h : Re T a b) : a < n ∧ b < n := by
  induction h with
  | one h => exact s _ _ h
  | more h _ ih => exact ⟨(s _ _ h).1, ih.2⟩
theorem Re.mono {T U : Mx} (h : ∀ a b, T a b = true → Re U a b) {a b : Nat} (k : Re T a b) : Re U a b := by
  induction k with
  | one k => exact h _ _ k
  | more k _ ih => exact (h _ _ k).trans ih
theorem Re.last {T : Mx} {a c : Nat} (h : Re T a c) : ∃ b, T b c = true ∧ (a = b ∨ Re T a b) := by
  induction h with
  | one h => exact ⟨_, h, Or.inl rfl⟩
  | more h _ ih =>
    obtain ⟨b, hb, e | e⟩ := ih
    · exact ⟨b, hb, Or.inr (e ▸ .one h)⟩
    · exact ⟨b, hb, Or.inr (.more h e)⟩

/-- one round of Warshall's -/
def stepW (y : Nat) (T : Mx) : Mx := fun a b => T a b || (T a y && T y b)
def wars (T : Mx) : Nat → Mx
  | 0 => T
  | k + 1 => stepW k (wars T k)
theorem wars_in (T : Mx) (a b : Nat) (h : T a b = true) : ∀ k, wars T k a b = true
  | 0 => h
  | k + 1 => by simp [wars, stepW, wars_in T a b h k]
theorem wars_re (T : Mx) : ∀ (k : Nat) (a b : Nat), wars T k a b = true → Re T a b
  | 0, a, b, h => .one h
  | k + 1, a, b, h => by
    simp only [wars, stepW, Bool.or_eq_true, Bool.and_eq_true] at h
    rcases h with h | ⟨h, g⟩
    · exact wars_re T k a b h
    · exact (wars_re T k a k h).trans (wars_re T k k b g)
theorem wars_cl (T : Mx) : ∀ (k y a b : Nat), y < k → wars T k a y = true → wars T k y b = true → wars T k a b = true
  | 0, y, a, b, hy, _, _ => by omega
  | k + 1, y, a, b, hy, h, g => by
    have ih := fun y a b => wars_cl T k y a b
    simp only [wars, stepW, Bool.or_eq_true, Bool.and_eq_true] at h g ⊢
    by_cases c : y = k
    · subst c
      have h' : wars T y a y = true := by rcases h with h | h; exact h; exact h.1
      have g' : wars T y y b = true := by rcases g with g | g; exact g; exact g.2
      exact Or.inr ⟨h', g'⟩
    · have hy' : y < k := by omega
      rcases h with h | ⟨h1, h2⟩
      · rcases g with g | ⟨g1, g2⟩
        · exact Or.inl (ih y a b hy' h g)
        · exact Or.inr ⟨ih y a k hy' h g1, g2⟩
      · rcases g with g | ⟨g1, g2⟩
        · exact Or.inr ⟨h1, ih y k b hy' h2 g⟩
        · exact Or.inr ⟨h1, g2⟩
theorem wars_iff {n : Nat} {T : Mx} (s : Sup n T) (a b : Nat) : wars T n a b = true ↔ Re T a b := by
  refine ⟨wars_re T n a b, fun h => ?_⟩
  induction h with
  | one h => exact wars_in T _ _ h n
  | more h k ih => exact wars_cl T n _ _ _ (k.sup s).1 (wars_in T _ _ h n) ih

/-- two relations one behind the other -/
def thenM (n : Nat) (A B : Mx) : Mx := fun a b => (List.range n).any fun k => A a k && B k b
def unionM (A B : Mx) : Mx := fun a b => A a b || B a b
def minusM (A B : Mx) : Mx := fun a b => A a b && !B a b
def interM (A B : Mx) : Mx := fun a b => A a b && B a b
def invM (A : Mx) : Mx := fun a b => A b a
def emptyM : Mx := fun _ _ => false
theorem thenM_iff {n : Nat} {A B : Mx} {a b : Nat} : thenM n A B a b = true ↔ ∃ k, k < n ∧ A a k = true ∧ B k b = true := by
  simp [thenM]
theorem Sup.union {n : Nat} {A B : Mx} (h : Sup n A) (k : Sup n B) : Sup n (unionM A B) := fun a b e => by
  simp only [unionM, Bool.or_eq_true] at e
  exact e.elim (h a b) (k a b)
theorem Sup.minus {n : Nat} {A B : Mx} (h : Sup n A) : Sup n (minusM A B) := fun a b e => by
  simp only [minusM, Bool.and_eq_true] at e
  exact h a b e.1
theorem Sup.inter {n : Nat} {A B : Mx} (h : Sup n A) : Sup n (interM A B) := fun a b e => by
  simp only [interM, Bool.and_eq_true] at e
  exact h a b e.1
theorem Sup.inv {n : Nat} {A : Mx} (h : Sup n A) : Sup n (invM A) := fun a b e => (h b a e).symm
theorem Sup.then {n : Nat} {A B : Mx} (h : Sup n A) (k : Sup n B) : Sup n (thenM n A B) := fun a b e => by
  obtain ⟨m, _, e1, e2⟩ := thenM_iff.1 e
  exact ⟨(h a m e1).1, (k m b e2).2⟩
theorem Sup.empty (n : Nat) : Sup n emptyM := fun a b e => by simp [emptyM] at e
theorem Sup.wars {n : Nat} {T : Mx} (s : Sup n T) (k : Nat) : Sup n (wars T k) := fun a b e => (wars_re T k a b e).sup s

/-- one round of the page's -/
def nextM (n : Nat) (C : Mx) : Mx := unionM C (thenM n C C)
theorem page_fix {n : Nat} {T C : Mx} (s : Sup n T) (h1 : ∀ a b, T a b = true → C a b = true) (h2 : ∀ a b, C a b = true → Re T a b) (h3 : ∀ a b, a < n → b < n → nextM n C a b = C a b) (a b : Nat) : C a b = true ↔ Re T a b := by
  refine ⟨h2 a b, fun h => ?_⟩
  induction h with
  | one h => exact h1 _ _ h
  | @more a b c h k ih =>
    rw [← h3 _ _ (s _ _ h).1 (k.sup s).2]
    simp only [nextM, unionM, Bool.or_eq_true]
    exact Or.inr (thenM_iff.2 ⟨b, (s _ _ h).2, h1 _ _ h, ih⟩)
theorem next_re {n : Nat} {T C : Mx} (h : ∀ a b, C a b = true → Re T a b) (a b : Nat) (e : nextM n C a b = true) : Re T a b := by
  simp only [nextM, unionM, Bool.or_eq_true] at e
  rcases e with e | e
  · exact h a b e
  · obtain ⟨k, _, e1, e2⟩ := thenM_iff.1 e
    exact (h _ _ e1).trans (h _ _ e2)

/-- how many pairs -/
def cntR (n : Nat) (f : Nat → Bool) : Nat := (List.range n).countP f
def cntM (n : Nat) (C : Mx) : Nat := ((List.range n).map fun a => cntR n (C a)).sum
theorem cntR_le (n : Nat) (f : Nat → Bool) : cntR n f ≤ n := by
  have := List.countP_le_length (p := f) (l := List.range n)
  simpa [cntR] using this
theorem sum_le (l : List Nat) (m : Nat) (h : ∀ x ∈ l, x ≤ m) : l.sum ≤ l.length * m := by
  induction l with
  | nil => simp
  | cons x l ih =>
    have := ih fun y hy => h y (List.mem_cons_of_mem _ hy)
    have := h x (List.mem_cons_self ..)
    simp only [List.sum_cons, List.length_cons, Nat.add_mul]
    omega
theorem cntM_le (n : Nat) (C : Mx) : cntM n C ≤ n * n := by
  have := sum_le ((List.range n).map fun a => cntR n (C a)) n (fun x hx => by
    obtain ⟨a, _, rfl⟩ := List.mem_map.1 hx
    exact cntR_le n _)
  simpa [cntM] using this
theorem countP_mono_lt (l : List Nat) (f g : Nat → Bool) (h : ∀ x ∈ l, f x = true → g x = true) : l.countP f ≤ l.countP g ∧ ((∃ x ∈ l, f x = false ∧ g x = true) → l.countP f < l.countP g) := by
  induction l with
  | nil => simp
  | cons x l ih =>
    obtain ⟨i1, i2⟩ := ih fun y hy => h y (List.mem_cons_of_mem _ hy)
    have hx := h x (List.mem_cons_self ..)
    simp only [List.countP_cons]
    refine ⟨?_, ?_⟩
    · cases hf : f x <;> cases hg : g x <;> simp_all <;> omega
    · rintro ⟨y, hy, hf, hg⟩
      rcases List.mem_cons.1 hy with rfl | hy
      · simp [hf, hg]; omega
      · have := i2 ⟨y, hy, hf, hg⟩
        cases hf : f x <;> cases hg : g x <;> simp_all <;> omega
theorem sum_mono_lt (l : List Nat) (f g : Nat → Nat) (h : ∀ x ∈ l, f x ≤ g x) : (l.map f).sum ≤ (l.map g).sum ∧ ((∃ x ∈ l, f x < g x) → (l.map f).sum < (l.map g).sum) := by
  induction l with
  | nil => simp
  | cons x l ih =>
    obtain ⟨i1, i2⟩ := ih fun y hy => h y (List.mem_cons_of_mem _ hy)
    have hx := h x (List.mem_cons_self ..)
    simp only [List.map_cons, List.sum_cons]
    refine ⟨by omega, ?_⟩
    rintro ⟨y, hy, hl⟩
    rcases List.mem_cons.1 hy with rfl | hy
    · omega
    · have := i2 ⟨y, hy, hl⟩; omega
theorem cntM_lt {n : Nat} {C : Mx} (h : ∃ a b, a < n ∧ b < n ∧ nextM n C a b ≠ C a b) : cntM n C < cntM n (nextM n C) := by
  obtain ⟨a, b, ha, hb, e⟩ := h
  have m : ∀ a b, C a b = true → nextM n C a b = true := fun a b e => by simp [nextM, unionM, e]
  refine (sum_mono_lt _ _ _ fun x _ => (countP_mono_lt _ _ _ fun y _ => m x y).1).2 ⟨a, List.mem_range.2 ha, ?_⟩
  refine (countP_mono_lt _ _ _ fun y _ => m a y).2 ⟨b, List.mem_range.2 hb, ?_⟩
  cases h1 : C a b
  · refine ⟨rfl, ?_⟩
    cases h2 : nextM n C a b
    · exact absurd (h2.trans h1.symm) e
    · rfl
  · exact absurd ((m a b h1).trans h1.symm) e
end GrR
