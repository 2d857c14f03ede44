/-
  PLAIN LAYER 10: rows and tokens of a text, as lists. No program in sight.
-/
import Derived.Test.YtlpejfoeiaogcaaGreatDoorHa
import Derived.Lib.IndexMore
import Derived.Lib.SlTrimSet
set_option linter.unusedSimpArgs false
set_option linter.unusedVariables false
namespace GrL
open Go GrP
abbrev Tx := List UInt8
def blankB (c : UInt8) : Bool := c == 32 || c == 9 || c == 13
def letterB (c : UInt8) : Bool := (decide (97 ≤ c.toNat) && decide (c.toNat ≤ 122)) || (decide (65 ≤ c.toNat) && decide (c.toNat ≤ 90)) || (decide (48 ≤ c.toNat) && decide (c.toNat ≤ 57)) || c == 95
def okB (c : UInt8) : Bool := c == 10 || blankB c || (decide (32 ≤ c.toNat) && decide (c.toNat ≤ 126))
/-- how many letters a text begins with -/
def run (l : Tx) : Nat := (l.takeWhile letterB).length
theorem tw_at {p : UInt8 → Bool} : ∀ {l : Tx} {n : Nat}, n ≤ l.length → (∀ j (h : j < l.length), j < n → p l[j] = true) → (∀ h : n < l.length, p l[n] = false) → (l.takeWhile p).length = n
  | [], n, h, _, _ => by simp at h; simp [h]
  | c :: l, 0, _, _, h2 => by
    have := h2 (by simp)
    simp only [List.getElem_cons_zero] at this
    simp [this]
  | c :: l, n + 1, h, h1, h2 => by
    have h0 := h1 0 (by simp) (by omega)
    simp only [List.getElem_cons_zero] at h0
    have := tw_at (p := p) (l := l) (n := n) (by simpa using h) (fun j hj hn => h1 (j + 1) (by simpa using hj) (by omega)) (fun hn => h2 (by simpa using hn))
    simp [h0, this]
theorem tw_le (p : UInt8 → Bool) (l : Tx) : (l.takeWhile p).length ≤ l.length := List.IsPrefix.length_le (List.takeWhile_prefix p)
theorem tw_take (p : UInt8 → Bool) (l : Tx) : l.take (l.takeWhile p).length = l.takeWhile p :=
  (List.prefix_iff_eq_take.1 (List.takeWhile_prefix p)).symm
theorem tw_drop (p : UInt8 → Bool) (l : Tx) : l.drop (l.takeWhile p).length = l.dropWhile p := by
  induction l with
  | nil => rfl
  | cons c l ih =>
    by_cases h : p c = true
    · simp [h, ih]
    · simp [h]

/-- Check: the first byte that may not be, behind k that may -/
def bad (l : Tx) : Nat := (l.takeWhile okB).length
def checkL (l : Tx) : Nat × Nat := if 16384 < l.length then (2, 0) else if bad l < l.length then (100, bad l) else (0, 0)

/-! Signs and tokens. -/
def ones : List UInt8 := [61, 91, 93, 40, 41, 58, 44, 126]
def sgn (l : Tx) : Nat := if l.take 2 = [47, 92] ∨ l.take 2 = [92, 47] then 2 else if l.headD 0 ∈ ones then 1 else 0
theorem sgn_le {l : Tx} (h : l ≠ []) : sgn l ≤ l.length := by
  unfold sgn
  split
  · next h2 =>
    have : (l.take 2).length = 2 := by rcases h2 with h2 | h2 <;> rw [h2] <;> rfl
    simp at this
    omega
  · split
    · cases l with
      | nil => exact absurd rfl h
      | cons c l => simp
    · omega
/-- what a text that isn't empty begins with: kind, length; or an error's number -/
def one (l : Tx) : Nat × Nat × Nat :=
  if 0 < sgn l then (0, 3, sgn l) else
  if run l = 0 then (100, 1, 0) else
  if 24 < run l then (101, 1, run l) else
  if 48 ≤ (l.headD 0).toNat ∧ (l.headD 0).toNat ≤ 57 then ((parse (strL (l.take (run l)))).2, 2, run l) else (0, 1, run l)
theorem one_le {l : Tx} (h : l ≠ []) : (one l).2.2 ≤ l.length := by
  have h1 := sgn_le h
  have h2 : run l ≤ l.length := tw_le _ _
  unfold one
  split
  · exact h1
  · split
    · simp
    · split
      · exact h2
      · split
        · exact h2
        · exact h2
theorem one_pos {l : Tx} (h0 : (one l).1 = 0) : 0 < (one l).2.2 := by
  unfold one at h0 ⊢
  split
  · assumption
  · next hs =>
    rw [if_neg hs] at h0
    split
    · next hr => rw [if_pos hr] at h0; simp at h0
    · split
      · simp; omega
      · split
        · simp; omega
        · simp; omega

structure Tok where
  kind : Nat
  text : Tx
  pos : Nat
/-- the tokens of l from its byte i on (places counted from l's beginning), with k rounds at most; the error's number and place -/
def toks (l : Tx) : Nat → Nat → List Tok × Option (Nat × Nat)
  | 0, _ => ([⟨4, [], l.length⟩], none)
  | k + 1, i =>
    if h : i < l.length then
      if blankB l[i] = true then toks l k (i + 1) else
      let o := one (l.drop i)
      if o.1 ≠ 0 then ([], some (o.1, i)) else
      let r := toks l k (i + o.2.2)
      (⟨o.2.1, (l.drop i).take o.2.2, i⟩ :: r.1, r.2)
    else ([⟨4, [], l.length⟩], none)
theorem toks_at {l : Tx} {i : Nat} (k : Nat) (h : i < l.length) : toks l (k + 1) i = if blankB l[i] = true then toks l k (i + 1) else
      if (one (l.drop i)).1 ≠ 0 then ([], some ((one (l.drop i)).1, i)) else
      (⟨(one (l.drop i)).2.1, (l.drop i).take (one (l.drop i)).2.2, i⟩ :: (toks l k (i + (one (l.drop i)).2.2)).1, (toks l k (i + (one (l.drop i)).2.2)).2) := by
  rw [show toks l (k + 1) i = if h : i < l.length then
      if blankB l[i] = true then toks l k (i + 1) else
      let o := one (l.drop i)
      if o.1 ≠ 0 then ([], some (o.1, i)) else
      let r := toks l k (i + o.2.2)
      (⟨o.2.1, (l.drop i).take o.2.2, i⟩ :: r.1, r.2)
    else ([⟨4, [], l.length⟩], none) from rfl, dif_pos h]
theorem toks_out {l : Tx} {i : Nat} (h : ¬ i < l.length) : ∀ k, toks l k i = ([⟨4, [], l.length⟩], none)
  | 0 => rfl
  | k + 1 => by
    rw [show toks l (k + 1) i = if h : i < l.length then
      if blankB l[i] = true then toks l k (i + 1) else
      let o := one (l.drop i)
      if o.1 ≠ 0 then ([], some (o.1, i)) else
      let r := toks l k (i + o.2.2)
      (⟨o.2.1, (l.drop i).take o.2.2, i⟩ :: r.1, r.2)
    else ([⟨4, [], l.length⟩], none) from rfl, dif_neg h]
theorem toks_more (l : Tx) : ∀ k i, l.length ≤ i + k → toks l (k + 1) i = toks l k i
  | 0, i, h => by rw [toks_out (by omega), toks_out (by omega)]
  | k + 1, i, h => by
    by_cases hi : i < l.length
    · rw [toks_at (k + 1) hi, toks_at k hi, toks_more l k (i + 1) (by omega)]
      by_cases e : (one (l.drop i)).1 ≠ 0
      · simp only [if_pos e]
      · have := one_pos (l := l.drop i) (by omega)
        rw [toks_more l k (i + (one (l.drop i)).2.2) (by omega)]
    · rw [toks_out hi, toks_out hi]
/-- behind L, at i: what is left comes to the whole -/
def Tks (l : Tx) (L : List Tok) (i : Nat) : Prop := i ≤ l.length ∧ L.length ≤ i ∧ (∀ x ∈ L, x.pos + x.text.length ≤ i) ∧ (toks l l.length 0).2 = (toks l (l.length - i) i).2 ∧ ((toks l l.length 0).2 = none → (toks l l.length 0).1 = L ++ (toks l (l.length - i) i).1)
theorem Tks.start (l : Tx) : Tks l [] 0 := ⟨by omega, by simp, by simp, by simp, by simp⟩
theorem toks_open {l : Tx} {i : Nat} (h : i < l.length) : toks l (l.length - i) i = if blankB l[i] = true then toks l (l.length - (i + 1)) (i + 1) else
      if (one (l.drop i)).1 ≠ 0 then ([], some ((one (l.drop i)).1, i)) else
      (⟨(one (l.drop i)).2.1, (l.drop i).take (one (l.drop i)).2.2, i⟩ :: (toks l (l.length - (i + 1)) (i + (one (l.drop i)).2.2)).1, (toks l (l.length - (i + 1)) (i + (one (l.drop i)).2.2)).2) := by
  obtain ⟨k, hk⟩ : ∃ k, l.length - i = k + 1 := ⟨l.length - i - 1, by omega⟩
  rw [hk, show l.length - (i + 1) = k by omega]
  exact toks_at k h
theorem toks_enough (l : Tx) : ∀ j k i, l.length ≤ i + k → toks l (k + j) i = toks l k i
  | 0, k, i, h => rfl
  | j + 1, k, i, h => by rw [show k + (j + 1) = k + j + 1 by omega, toks_more l (k + j) i (by omega), toks_enough l j k i h]
theorem Tks.blank {l : Tx} {L : List Tok} {i : Nat} (h : Tks l L i) (hi : i < l.length) (hb : blankB l[i] = true) : Tks l L (i + 1) := by
  obtain ⟨h1, h2, h3, h4, h5⟩ := h
  rw [toks_open hi, if_pos hb] at h4 h5
  exact ⟨by omega, by omega, fun x hx => by have := h3 x hx; omega, h4, h5⟩
theorem Tks.bad {l : Tx} {L : List Tok} {i : Nat} (h : Tks l L i) (hi : i < l.length) (hb : blankB l[i] = false) (he : (one (l.drop i)).1 ≠ 0) : (toks l l.length 0).2 = some ((one (l.drop i)).1, i) := by
  obtain ⟨h1, h2, h3, h4, h5⟩ := h
  rw [toks_open hi, if_neg (by simp [hb]), if_pos he] at h4
  exact h4
theorem Tks.good {l : Tx} {L : List Tok} {i : Nat} (h : Tks l L i) (hi : i < l.length) (hb : blankB l[i] = false) (he : (one (l.drop i)).1 = 0) : Tks l (L ++ [⟨(one (l.drop i)).2.1, (l.drop i).take (one (l.drop i)).2.2, i⟩]) (i + (one (l.drop i)).2.2) := by
  obtain ⟨h1, h2, h3, h4, h5⟩ := h
  have hp := one_pos he
  have hl := one_le (l := l.drop i) (by intro e; have := congrArg List.length e; simp at this; omega)
  rw [List.length_drop] at hl
  have e1 : toks l (l.length - (i + 1)) (i + (one (l.drop i)).2.2) = toks l (l.length - (i + (one (l.drop i)).2.2)) (i + (one (l.drop i)).2.2) := by
    rw [show l.length - (i + 1) = l.length - (i + (one (l.drop i)).2.2) + ((one (l.drop i)).2.2 - 1) by omega]
    exact toks_enough l _ _ _ (by omega)
  rw [toks_open hi, if_neg (by simp [hb]), if_neg (by simp [he]), e1] at h4 h5
  refine ⟨by omega, by simp; omega, fun x hx => ?_, h4, fun e => by rw [h5 e]; simp⟩
  rcases List.mem_append.1 hx with hx | hx
  · have := h3 x hx; omega
  · simp at hx
    subst hx
    simp
    omega
theorem Tks.done {l : Tx} {L : List Tok} (h : Tks l L l.length) : toks l l.length 0 = (L ++ [⟨4, [], l.length⟩], none) := by
  obtain ⟨h1, h2, h3, h4, h5⟩ := h
  have e : toks l (l.length - l.length) l.length = ([⟨4, [], l.length⟩], none) := by
    rw [Nat.sub_self]; rfl
  rw [e] at h4 h5
  exact Prod.ext (h5 h4) h4

/-! Rows. -/
/-- how long the line at f is -/
def lineN (s : Tx) (f : Nat) : Nat := ((s.drop f).takeWhile (· != 10)).length
theorem lineN_le (s : Tx) (f : Nat) (h : f ≤ s.length) : f + lineN s f ≤ s.length := by
  have := tw_le (· != 10) (s.drop f)
  rw [List.length_drop] at this
  unfold lineN
  omega
/-- the first remark's place in l at or behind j, or l's length -/
def remark (l : Tx) (j : Nat) : Nat := if h : j < l.length then (if Lib.occAt l [47, 47] j = true then j else remark l (j + 1)) else l.length
termination_by l.length - j
theorem remark_end {l : Tx} {j : Nat} (h : l.length ≤ j) : remark l j = l.length := by rw [remark, dif_neg (by omega)]
theorem remark_at {l : Tx} {j : Nat} (h : j < l.length) : remark l j = if Lib.occAt l [47, 47] j = true then j else remark l (j + 1) := by rw [remark, dif_pos h]
theorem remark_last {l : Tx} {j : Nat} (h : l.length ≤ j + 1) : remark l j = l.length := by
  by_cases hj : j < l.length
  · rw [remark_at hj, if_neg, remark_end h]
    intro ho
    rcases Lib.occAt_room ho with h | h
    · simp at h; omega
    · cases h
  · exact remark_end (by omega)
theorem remark_le (l : Tx) : ∀ n j, l.length - j = n → remark l j ≤ l.length
  | 0, j, h => by rw [remark_end (by omega)]; omega
  | n + 1, j, h => by
    rw [remark_at (by omega)]
    split
    · omega
    · exact remark_le l n (j + 1) (by omega)
theorem remark_find (l : Tx) : ∀ n j, l.length - j = n → j ≤ l.length → (remark l j = l.length ∧ ∀ k, j ≤ k → k ≤ l.length → Lib.occAt l [47, 47] k = false) ∨ (j ≤ remark l j ∧ remark l j < l.length ∧ Lib.occAt l [47, 47] (remark l j) = true ∧ ∀ k, j ≤ k → k < remark l j → Lib.occAt l [47, 47] k = false)
  | 0, j, h, hj => by
    left
    refine ⟨remark_end (by omega), fun k h1 h2 => ?_⟩
    have : k = l.length := by omega
    subst this
    simp [Lib.occAt]
  | n + 1, j, h, hj => by
    rw [remark_at (by omega)]
    by_cases c : Lib.occAt l [47, 47] j = true
    · rw [if_pos c]
      exact .inr ⟨by omega, by omega, c, fun k h1 h2 => by omega⟩
    · rw [if_neg c]
      rcases remark_find l n (j + 1) (by omega) (by omega) with ⟨a, b⟩ | ⟨a, b, d, e⟩
      · refine .inl ⟨a, fun k h1 h2 => ?_⟩
        by_cases hk : k = j
        · subst hk; simpa using c
        · exact b k (by omega) h2
      · refine .inr ⟨by omega, b, d, fun k h1 h2 => ?_⟩
        by_cases hk : k = j
        · subst hk; simpa using c
        · exact e k (by omega) h2
theorem cut_remark (l : Tx) : (Lib.cut l [47, 47]).1 = l.take (remark l 0) := by
  unfold Lib.cut
  rcases remark_find l _ 0 rfl (by omega) with ⟨a, b⟩ | ⟨a, b, c, d⟩
  · rw [Lib.index_none (fun j hj => b j (by omega) hj), if_neg (by decide), a]
    simp
  · rw [Lib.index_first (by omega) c (fun j hj => d j (by omega) hj), if_pos (by omega)]
    simp
def trimR (l : Tx) : Tx := (l.reverse.dropWhile blankB).reverse
/-- the row of the line at f, if it is one -/
def rowAt (s : Tx) (f : Nat) : List (Tx × Nat) :=
  let t := ((s.drop f).take (lineN s f)).take (remark ((s.drop f).take (lineN s f)) 0)
  let r := trimR (t.dropWhile blankB)
  if r = [] then [] else [(r, f + (t.takeWhile blankB).length)]
def rows (s : Tx) : Nat → Nat → List (Tx × Nat)
  | 0, _ => []
  | k + 1, f => if f ≤ s.length then rowAt s f ++ rows s k (f + lineN s f + 1) else []
def rowsL (s : Tx) : List (Tx × Nat) := rows s (s.length + 1) 0
theorem rows_at (s : Tx) (k f : Nat) : rows s (k + 1) f = if f ≤ s.length then rowAt s f ++ rows s k (f + lineN s f + 1) else [] := rfl
theorem rows_out {s : Tx} {f : Nat} (h : ¬ f ≤ s.length) : ∀ k, rows s k f = []
  | 0 => rfl
  | k + 1 => by rw [rows_at, if_neg h]
theorem rows_more (s : Tx) : ∀ k f, s.length < f + k → rows s (k + 1) f = rows s k f
  | 0, f, h => by rw [rows_out (by omega), rows_out (by omega)]
  | k + 1, f, h => by rw [rows_at s (k + 1) f, rows_at s k f, rows_more s k (f + lineN s f + 1) (by omega)]
theorem rows_enough (s : Tx) : ∀ j k f, s.length < f + k → rows s (k + j) f = rows s k f
  | 0, k, f, h => rfl
  | j + 1, k, f, h => by rw [show k + (j + 1) = k + j + 1 by omega, rows_more s (k + j) f (by omega), rows_enough s j k f h]
def Rws (s : Tx) (L : List (Tx × Nat)) (f : Nat) : Prop := f ≤ s.length + 1 ∧ L.length ≤ f ∧ rowsL s = L ++ rows s (s.length + 1 - f) f
theorem Rws.start (s : Tx) : Rws s [] 0 := ⟨by omega, by simp, by simp [rowsL]⟩
theorem rowAt_len (s : Tx) (f : Nat) : (rowAt s f).length ≤ 1 := by
  unfold rowAt
  simp only
  split <;> simp
theorem Rws.next {s : Tx} {L : List (Tx × Nat)} {f : Nat} (h : Rws s L f) (hf : f ≤ s.length) : Rws s (L ++ rowAt s f) (f + lineN s f + 1) := by
  obtain ⟨h1, h2, h3⟩ := h
  have hl := lineN_le s f hf
  have h4 := rowAt_len s f
  refine ⟨by omega, by simp; omega, ?_⟩
  rw [h3, show s.length + 1 - f = s.length - f + 1 by omega, rows_at, if_pos hf, List.append_assoc]
  congr 2
  rw [show s.length - f = s.length + 1 - (f + lineN s f + 1) + lineN s f by omega]
  exact rows_enough s _ _ _ (by omega)
theorem Rws.done {s : Tx} {L : List (Tx × Nat)} {f : Nat} (h : Rws s L f) (hf : s.length < f) : rowsL s = L := by
  obtain ⟨h1, h2, h3⟩ := h
  rw [h3, show s.length + 1 - f = 0 by omega]
  simp [rows]
theorem trimLeft_is (l : Tx) : Lib.trimLeftS l [32, 9, 13] = l.dropWhile blankB := by
  unfold Lib.trimLeftS
  congr 1
  funext c
  simp [blankB, Bool.or_assoc, Bool.beq_eq_decide_eq]
theorem trimRight_is (l : Tx) : Lib.trimRightS l [32, 9, 13] = trimR l := by
  unfold Lib.trimRightS trimR
  congr 2
  funext c
  simp [blankB, Bool.or_assoc, Bool.beq_eq_decide_eq]

/-! Places: tokens and rows stand where they say, in order. -/
def Chain (l : Tx) : List Tok → Nat → Prop
  | [], lo => lo ≤ l.length
  | x :: L, lo => lo ≤ x.pos ∧ x.pos + x.text.length ≤ l.length ∧ (l.drop x.pos).take x.text.length = x.text ∧ Chain l L (x.pos + x.text.length)
theorem Chain.lower {l : Tx} {L : List Tok} {lo lo' : Nat} (h : Chain l L lo') (hl : lo ≤ lo') : Chain l L lo := by
  cases L with
  | nil => exact Nat.le_trans hl h
  | cons x L => exact ⟨Nat.le_trans hl h.1, h.2⟩
theorem toks_chain (l : Tx) : ∀ k i, i ≤ l.length → (toks l k i).2 = none → Chain l (toks l k i).1 i
  | 0, i, hi, _ => ⟨by simpa using hi, by simp, by simp, by simp [Chain]⟩
  | k + 1, i, hi, h => by
    by_cases c : i < l.length
    · rw [toks_at k c] at h ⊢
      by_cases hb : blankB l[i] = true
      · rw [if_pos hb] at h ⊢
        exact (toks_chain l k (i + 1) (by omega) h).lower (by omega)
      · rw [if_neg hb] at h ⊢
        by_cases e : (one (l.drop i)).1 ≠ 0
        · rw [if_pos e] at h
          cases h
        · rw [if_neg e] at h ⊢
          have hl := one_le (l := l.drop i) (by intro e; have := congrArg List.length e; simp at this; omega)
          rw [List.length_drop] at hl
          have hlen : ((l.drop i).take (one (l.drop i)).2.2).length = (one (l.drop i)).2.2 := by rw [List.length_take, List.length_drop]; omega
          refine ⟨Nat.le_refl _, ?_, ?_, ?_⟩
          · simp only [hlen]; omega
          · simp only [hlen]
          · simp only [hlen]
            exact toks_chain l k (i + (one (l.drop i)).2.2) (by omega) h
    · rw [toks_out c]
      exact ⟨by simpa using hi, by simp, by simp, by simp [Chain]⟩
theorem toks_place (l : Tx) : ∀ k i e p, (toks l k i).2 = some (e, p) → i ≤ p ∧ p < l.length ∧ e ≠ 0
  | 0, i, e, p, h => by cases h
  | k + 1, i, e, p, h => by
    by_cases c : i < l.length
    · rw [toks_at k c] at h
      by_cases hb : blankB l[i] = true
      · rw [if_pos hb] at h
        have := toks_place l k (i + 1) e p h
        exact ⟨by omega, this.2⟩
      · rw [if_neg hb] at h
        by_cases e0 : (one (l.drop i)).1 ≠ 0
        · rw [if_pos e0] at h
          injection h with h
          injection h with h1 h2
          subst h1; subst h2
          exact ⟨by omega, c, e0⟩
        · rw [if_neg e0] at h
          have := toks_place l k (i + (one (l.drop i)).2.2) e p h
          exact ⟨by omega, this.2⟩
    · rw [toks_out c] at h
      cases h
theorem trimR_prefix (l : Tx) : trimR l <+: l := by
  unfold trimR
  have := List.dropWhile_suffix (l := l.reverse) blankB
  rw [← List.reverse_prefix] at this
  simpa using this
def RChain (s : Tx) : List (Tx × Nat) → Nat → Prop
  | [], _ => True
  | x :: L, lo => lo ≤ x.2 ∧ x.2 + x.1.length ≤ s.length ∧ (s.drop x.2).take x.1.length = x.1 ∧ RChain s L (x.2 + x.1.length)
theorem RChain.lower {s : Tx} {L : List (Tx × Nat)} {lo lo' : Nat} (h : RChain s L lo') (hl : lo ≤ lo') : RChain s L lo := by
  cases L with
  | nil => trivial
  | cons x L => exact ⟨Nat.le_trans hl h.1, h.2⟩
theorem rowAt_spec (s : Tx) (f : Nat) (hf : f ≤ s.length) : ∀ x ∈ rowAt s f, f ≤ x.2 ∧ x.2 + x.1.length ≤ f + lineN s f ∧ (s.drop x.2).take x.1.length = x.1 := by
  intro x hx
  unfold rowAt at hx
  simp only at hx
  have hn := lineN_le s f hf
  have ht : ((s.drop f).take (lineN s f)).take (remark ((s.drop f).take (lineN s f)) 0) = (s.drop f).take (remark ((s.drop f).take (lineN s f)) 0) := by
    rw [List.take_take]
    have h1 := remark_le ((s.drop f).take (lineN s f)) _ 0 rfl
    rw [List.length_take, List.length_drop] at h1
    rw [Nat.min_eq_left (by omega)]
  have hr : remark ((s.drop f).take (lineN s f)) 0 ≤ lineN s f := by
    have h1 := remark_le ((s.drop f).take (lineN s f)) _ 0 rfl
    rw [List.length_take, List.length_drop] at h1
    omega
  rw [ht] at hx
  obtain ⟨m, hm⟩ : ∃ m, m = remark ((s.drop f).take (lineN s f)) 0 := ⟨_, rfl⟩
  rw [← hm] at hx hr
  clear hm ht
  obtain ⟨t, hT⟩ : ∃ t, t = (s.drop f).take m := ⟨_, rfl⟩
  rw [← hT] at hx
  have tl : t.length = m := by rw [hT, List.length_take, List.length_drop]; omega
  split at hx
  · cases hx
  · simp only [List.mem_singleton] at hx
    subst hx
    have ha := tw_le blankB t
    have hp := trimR_prefix (t.dropWhile blankB)
    have hpl := hp.length_le
    rw [← tw_drop, List.length_drop] at hpl
    rw [← tw_drop] at hp ⊢
    refine ⟨by simp, by simp only; omega, ?_⟩
    simp only
    obtain ⟨r, hr2⟩ : ∃ r, r = trimR (t.drop (t.takeWhile blankB).length) := ⟨_, rfl⟩
    rw [← hr2] at hp hpl ⊢
    have e2 : (t.drop (t.takeWhile blankB).length).take r.length = r := (List.prefix_iff_eq_take.1 hp).symm
    obtain ⟨a, hA⟩ : ∃ a, a = (t.takeWhile blankB).length := ⟨_, rfl⟩
    rw [← hA] at e2 hpl ⊢
    rw [hT, List.drop_take, List.drop_drop, List.take_take, Nat.min_eq_left (by omega)] at e2
    exact e2
theorem rows_chain (s : Tx) : ∀ k f, RChain s (rows s k f) f
  | 0, f => trivial
  | k + 1, f => by
    rw [rows_at]
    split
    · next hf =>
      have h1 := rowAt_len s f
      have h2 := rowAt_spec s f hf
      have hl := lineN_le s f hf
      have h3 := rows_chain s k (f + lineN s f + 1)
      obtain ⟨R, hR⟩ : ∃ R, R = rowAt s f := ⟨_, rfl⟩
      rw [← hR] at h1 h2 ⊢
      match R, h1, h2 with
      | [], _, _ => exact h3.lower (by omega)
      | [x], _, h2 =>
        obtain ⟨a, b, c⟩ := h2 x (by simp)
        exact ⟨a, by omega, c, h3.lower (by omega)⟩
    · trivial
theorem rowsL_chain (s : Tx) : RChain s (rowsL s) 0 := rows_chain s _ 0
end GrL
