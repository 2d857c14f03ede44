/-
  Layer 9, numbers: the order of entries; where one stands in a row that rises; putting in, taking out, leaving some.
-/
import Derived.Test.YteiokenijmaloaaTn
set_option linter.unusedSimpArgs false
set_option linter.unusedVariables false
namespace GrT
theorem E.ext' {a b : E} (h1 : a.space = b.space) (h2 : a.page = b.page) (h3 : a.first = b.first) (h4 : a.last = b.last) : a = b := by
  cases a; cases b; simp only at h1 h2 h3 h4; subst h1 h2 h3 h4; rfl
instance : DecidableEq E := fun a b =>
  if h : a.space = b.space ∧ a.page = b.page ∧ a.first = b.first ∧ a.last = b.last then isTrue (E.ext' h.1 h.2.1 h.2.2.1 h.2.2.2)
  else isFalse fun e => h (by subst e; exact ⟨rfl, rfl, rfl, rfl⟩)
/-- which of two is ahead -/
def ltP (a b : E) : Prop := a.space < b.space ∨ (a.space = b.space ∧ (a.page < b.page ∨ (a.page = b.page ∧ (a.first < b.first ∨ (a.first = b.first ∧ a.last < b.last)))))
instance (a b : E) : Decidable (ltP a b) := by unfold ltP; infer_instance
def ltB (a b : E) : Bool := decide (ltP a b)
theorem lt_irr (a : E) : ¬ ltP a a := by unfold ltP; omega
theorem lt_trans {a b c : E} (h : ltP a b) (k : ltP b c) : ltP a c := by unfold ltP at *; omega
theorem lt_or (a b : E) : ltP a b ∨ a = b ∨ ltP b a := by
  by_cases h : a = b
  · exact .inr (.inl h)
  · have : ¬ (a.space = b.space ∧ a.page = b.page ∧ a.first = b.first ∧ a.last = b.last) := fun k => h (E.ext' k.1 k.2.1 k.2.2.1 k.2.2.2)
    unfold ltP
    omega
theorem lt_ne {a b : E} (h : ltP a b) : a ≠ b := fun e => lt_irr a (by rw [← e] at h; exact h)
theorem lt_not {a b : E} (h : ltP a b) : ¬ ltP b a := fun k => lt_irr a (lt_trans h k)
def cmpI (a b : Int) : Int := if a < b then -1 else if b < a then 1 else 0
def orI (a b c d : Int) : Int := if a = 0 then (if b = 0 then (if c = 0 then d else c) else b) else a
def cmp (a b : E) : Int := orI (cmpI a.space b.space) (cmpI a.page b.page) (cmpI a.first b.first) (cmpI a.last b.last)
theorem cmpI_neg (a b : Int) : cmpI a b < 0 ↔ a < b := by unfold cmpI; repeat' split
                                                          all_goals omega
theorem cmpI_zero (a b : Int) : cmpI a b = 0 ↔ a = b := by unfold cmpI; repeat' split
                                                           all_goals omega
theorem cmp_neg (a b : E) : cmp a b < 0 ↔ ltP a b := by
  have h1 := cmpI_neg a.space b.space
  have h2 := cmpI_neg a.page b.page
  have h3 := cmpI_neg a.first b.first
  have h4 := cmpI_neg a.last b.last
  have k1 := cmpI_zero a.space b.space
  have k2 := cmpI_zero a.page b.page
  have k3 := cmpI_zero a.first b.first
  unfold cmp orI ltP
  repeat' split
  all_goals omega
theorem cmp_zero (a b : E) : cmp a b = 0 ↔ a = b := by
  have k1 := cmpI_zero a.space b.space
  have k2 := cmpI_zero a.page b.page
  have k3 := cmpI_zero a.first b.first
  have k4 := cmpI_zero a.last b.last
  constructor
  · intro h
    unfold cmp orI at h
    split at h
    · split at h
      · split at h
        · exact E.ext' (k1.1 (by assumption)) (k2.1 (by assumption)) (k3.1 (by assumption)) (k4.1 h)
        · omega
      · omega
    · omega
  · rintro rfl
    unfold cmp orI
    rw [if_pos (k1.2 rfl), if_pos (k2.2 rfl), if_pos (k3.2 rfl)]
    exact k4.2 rfl
def Rise (L : List E) : Prop := L.Pairwise ltP
def posE (L : List E) (e : E) : Nat := (L.takeWhile (fun x => ltB x e)).length
theorem posE_nil (e : E) : posE [] e = 0 := rfl
theorem posE_cons (p : E) (l : List E) (e : E) : posE (p :: l) e = if ltP p e then posE l e + 1 else 0 := by
  unfold posE
  by_cases c : ltP p e
  · simp [List.takeWhile_cons, ltB, c]
  · simp [List.takeWhile_cons, ltB, c]
theorem posE_le (L : List E) (e : E) : posE L e ≤ L.length := (List.takeWhile_prefix _).length_le
theorem posE_eq (e : E) : ∀ (L : List E) (n : Nat) (hn : n ≤ L.length) (h : ∀ j (hj : j < n), ltP (L[j]'(by omega)) e) (k : ∀ (h : n < L.length), ¬ ltP (L[n]) e), posE L e = n
  | [], n, hn, _, _ => by simp at hn; subst hn; rfl
  | p :: l, 0, _, _, k => by rw [posE_cons, if_neg (show ¬ ltP p e from k (by simp))]
  | p :: l, n + 1, hn, h, k => by
    rw [posE_cons, if_pos (show ltP p e from h 0 (by omega)), posE_eq e l n (by simpa using hn) (fun j hj => by simpa using h (j + 1) (by omega)) (fun hl => show ¬ ltP (l[n]'hl) e from k (by simpa using hl))]
/-- putting one in -/
def insE (L : List E) (e : E) : List E := if L[posE L e]? = some e then L else L.take (posE L e) ++ [e] ++ L.drop (posE L e)
/-- taking one out, at its place -/
def delE (L : List E) (e : E) : List E := if L[posE L e]? = some e then L.take (posE L e) ++ L.drop (posE L e + 1) else L
theorem insE_cons (p : E) (l : List E) (e : E) : insE (p :: l) e = if ltP p e then p :: insE l e else if p = e then p :: l else e :: p :: l := by
  unfold insE
  rw [posE_cons]
  by_cases c : ltP p e
  · rw [if_pos c, if_pos c, List.getElem?_cons_succ]
    split <;> simp
  · rw [if_neg c, if_neg c, List.getElem?_cons_zero]
    by_cases d : p = e
    · rw [if_pos (by rw [d]), if_pos d]
    · rw [if_neg (by simpa using d), if_neg d]; simp
theorem delE_cons (p : E) (l : List E) (e : E) : delE (p :: l) e = if ltP p e then p :: delE l e else if p = e then l else p :: l := by
  unfold delE
  rw [posE_cons]
  by_cases c : ltP p e
  · rw [if_pos c, if_pos c, List.getElem?_cons_succ]
    split <;> simp
  · rw [if_neg c, if_neg c, List.getElem?_cons_zero]
    by_cases d : p = e
    · rw [if_pos (by rw [d]), if_pos d]; simp
    · rw [if_neg (by simpa using d), if_neg d]
theorem insE_mem {L : List E} (h : Rise L) (e x : E) : x ∈ insE L e ↔ x = e ∨ x ∈ L := by
  induction L with
  | nil => simp [insE, posE_nil]
  | cons p l ih =>
    rw [insE_cons]
    have h' := List.pairwise_cons.1 h
    split
    · rw [List.mem_cons, ih h'.2, List.mem_cons]
      constructor
      · rintro (a | a | a)
        · exact .inr (.inl a)
        · exact .inl a
        · exact .inr (.inr a)
      · rintro (a | a | a)
        · exact .inr (.inl a)
        · exact .inl a
        · exact .inr (.inr a)
    · split
      · rename_i c
        subst c
        simp
      · rw [List.mem_cons]
theorem insE_rise {L : List E} (h : Rise L) (e : E) : Rise (insE L e) := by
  induction L with
  | nil => simp [insE, posE_nil, Rise]
  | cons p l ih =>
    rw [insE_cons]
    have h' := List.pairwise_cons.1 h
    split
    · rename_i c
      refine List.pairwise_cons.2 ⟨fun x hx => ?_, ih h'.2⟩
      rcases (insE_mem h'.2 e x).1 hx with rfl | hx
      · exact c
      · exact h'.1 x hx
    · split
      · exact h
      · rename_i c d
        have c' : ltP e p := by
          rcases lt_or p e with k | k | k
          · exact absurd k c
          · exact absurd k d
          · exact k
        refine List.pairwise_cons.2 ⟨fun x hx => ?_, h⟩
        rcases List.mem_cons.1 hx with rfl | hx
        · exact c'
        · exact lt_trans c' (h'.1 x hx)
/-- in a row that rises it is left out -/
theorem delE_filter {L : List E} (h : Rise L) (e : E) : delE L e = L.filter (fun x => decide (x ≠ e)) := by
  induction L with
  | nil => simp [delE, posE_nil]
  | cons p l ih =>
    rw [delE_cons]
    have h' := List.pairwise_cons.1 h
    split
    · rename_i c
      rw [ih h'.2, List.filter_cons_of_pos (by simpa using lt_ne c)]
    · split
      · rename_i c d
        subst d
        rw [List.filter_cons_of_neg (by simp)]
        symm
        refine List.filter_eq_self.2 fun x hx => ?_
        have := lt_ne (h'.1 x hx)
        simpa using Ne.symm this
      · rename_i c d
        have c' : ltP e p := by
          rcases lt_or p e with k | k | k
          · exact absurd k c
          · exact absurd k d
          · exact k
        symm
        refine List.filter_eq_self.2 fun x hx => ?_
        rcases List.mem_cons.1 hx with rfl | hx
        · simpa using d
        · simpa using (lt_ne (lt_trans c' (h'.1 x hx))).symm
theorem rise_filter {L : List E} (h : Rise L) (f : E → Bool) : Rise (L.filter f) := List.Pairwise.sublist List.filter_sublist h
theorem rise_del {L : List E} (h : Rise L) (e : E) : Rise (delE L e) := by rw [delE_filter h]; exact rise_filter h _
/-- is it there? -/
theorem there_iff {L : List E} (h : Rise L) (e : E) : L[posE L e]? = some e ↔ e ∈ L := by
  induction L with
  | nil => simp
  | cons p l ih =>
    have h' := List.pairwise_cons.1 h
    rw [posE_cons]
    split
    · rename_i c
      rw [List.getElem?_cons_succ, ih h'.2, List.mem_cons]
      constructor
      · exact .inr
      · rintro (rfl | k)
        · exact absurd c (lt_irr _)
        · exact k
    · rename_i c
      rw [List.getElem?_cons_zero, List.mem_cons]
      constructor
      · intro k
        injection k with k
        exact .inl k.symm
      · rintro (rfl | k)
        · rfl
        · exact absurd (h'.1 e k) c
theorem insE_len (L : List E) (e : E) : (insE L e).length ≤ L.length + 1 := by
  unfold insE
  split
  · omega
  · simp; omega
theorem delE_len (L : List E) (e : E) : (delE L e).length ≤ L.length := by
  unfold delE
  split
  · simp; omega
  · omega
/-- bounds of an entry's words -/
def EB (e : E) : Prop := (0 ≤ e.page ∧ e.page < 18446744073709551616) ∧ (0 ≤ e.first ∧ e.first < 18446744073709551616) ∧ 0 ≤ e.last ∧ e.last < 18446744073709551616
def LB (L : List E) : Prop := ∀ e ∈ L, EB e
theorem LB.ins {L : List E} (hr : Rise L) (h : LB L) {e : E} (he : EB e) : LB (insE L e) := fun x hx => by
  rcases (insE_mem hr e x).1 hx with rfl | hx
  · exact he
  · exact h x hx
theorem LB.filter {L : List E} (h : LB L) (f : E → Bool) : LB (L.filter f) := fun x hx => h x (List.mem_filter.1 hx).1
/-- bisection -/
theorem half_up {L : List E} (h : Rise L) (e : E) {m q : Nat} (hm : m < L.length) (c : ltP L[m] e) (hq : q < L.length) (k : q ≤ m) : ltP L[q] e := by
  by_cases d : q = m
  · subst d; exact c
  · exact lt_trans (List.pairwise_iff_getElem.1 h q m hq hm (by omega)) c
theorem half_down {L : List E} (h : Rise L) (e : E) {m q : Nat} (hm : m < L.length) (c : ¬ ltP L[m] e) (hq : q < L.length) (k : m ≤ q) : ¬ ltP L[q] e := by
  by_cases d : q = m
  · subst d; exact c
  · exact fun x => c (lt_trans (List.pairwise_iff_getElem.1 h m q hm hq (by omega)) x)
end GrT
