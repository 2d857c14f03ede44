/-
  Layer 6, numbers: a tree of bits; what is looked up in it, put into it, taken out of it; that its pairs rise.
-/
import Derived.Laws.MathBits
set_option linter.unusedSimpArgs false
set_option linter.unusedVariables false
namespace GrS
inductive Tr where
  | leaf (k : Nat) (v : Int)
  | node (k b : Nat) (l r : Tr)
def Tr.key : Tr → Nat
  | .leaf k _ => k
  | .node k _ _ _ => k
def bit (b x : Nat) : Nat := x / 2 ^ b % 2
def Tr.toL : Tr → List (Nat × Int)
  | .leaf k v => [(k, v)]
  | .node _ _ l r => l.toL ++ r.toL
def Tr.keys (t : Tr) : List Nat := t.toL.map (·.1)
def Tr.look : Tr → Nat → Option Int
  | .leaf k v, x => if k = x then some v else none
  | .node _ b l r, x => if bit b x = 0 then l.look x else r.look x
def Tr.WF : Tr → Prop
  | .leaf k _ => k < 18446744073709551616
  | .node k b l r => b < 64 ∧ k < 18446744073709551616 ∧ (∀ x ∈ l.keys, bit b x = 0 ∧ x / 2 ^ (b + 1) = k / 2 ^ (b + 1)) ∧ (∀ x ∈ r.keys, bit b x = 1 ∧ x / 2 ^ (b + 1) = k / 2 ^ (b + 1)) ∧ l.WF ∧ r.WF
def join (t : Tr) (k : Nat) (v : Int) : Tr :=
  if bit (Go.bitLen (t.key ^^^ k) - 1) k = 1 then .node k (Go.bitLen (t.key ^^^ k) - 1) t (.leaf k v) else .node k (Go.bitLen (t.key ^^^ k) - 1) (.leaf k v) t
def Tr.ins : Tr → Nat → Int → Tr
  | .leaf a u, k, v => if a = k then .leaf k v else join (.leaf a u) k v
  | .node a b l r, k, v => if (a ^^^ k) / 2 ^ b / 2 = 0 then (if bit b k = 0 then .node a b (l.ins k v) r else .node a b l (r.ins k v)) else join (.node a b l r) k v
def Tr.del : Tr → Nat → Option Tr
  | .leaf _ _, _ => none
  | .node a b l r, k => if bit b k = 0 then (match l.del k with | none => some r | some l' => some (.node a b l' r)) else (match r.del k with | none => some l | some r' => some (.node a b l r'))

theorem key_lt {t : Tr} (h : t.WF) : t.key < 18446744073709551616 := by
  cases t with
  | leaf k v => exact h
  | node k b l r => exact h.2.1
theorem keys_node (k b : Nat) (l r : Tr) : (Tr.node k b l r).keys = l.keys ++ r.keys := by simp [Tr.keys, Tr.toL]
theorem keys_leaf (k : Nat) (v : Int) : (Tr.leaf k v).keys = [k] := rfl
theorem keys_lt {t : Tr} (h : t.WF) : ∀ x ∈ t.keys, x < 18446744073709551616 := by
  induction t with
  | leaf k v => intro x hx; simp [keys_leaf] at hx; subst hx; exact h
  | node k b l r ihl ihr =>
    intro x hx
    rw [keys_node, List.mem_append] at hx
    rcases hx with hx | hx
    · exact ihl h.2.2.2.2.1 x hx
    · exact ihr h.2.2.2.2.2 x hx
theorem look_mem {t : Tr} (h : t.WF) (x : Nat) : (t.look x ≠ none) ↔ x ∈ t.keys := by
  induction t with
  | leaf k v =>
    simp only [Tr.look, keys_leaf, List.mem_singleton]
    split <;> rename_i c
    · simp [c.symm]
    · simp [Ne.symm c]
  | node k b l r ihl ihr =>
    obtain ⟨_, _, hl, hr, wl, wr⟩ := h
    rw [keys_node, List.mem_append]
    simp only [Tr.look]
    split <;> rename_i c
    · rw [ihl wl]
      constructor
      · exact .inl
      · rintro (h | h)
        · exact h
        · have := (hr x h).1; omega
    · rw [ihr wr]
      constructor
      · exact .inr
      · rintro (h | h)
        · have := (hl x h).1; omega
        · exact h
theorem xor_zero (a b : Nat) : a ^^^ b = 0 ↔ a = b := by
  constructor
  · intro h
    refine Nat.eq_of_testBit_eq fun i => ?_
    have := congrArg (fun n => Nat.testBit n i) h
    simp only [Nat.testBit_xor, Nat.zero_testBit] at this
    revert this
    cases a.testBit i <;> cases b.testBit i <;> simp
  · rintro rfl
    exact Nat.xor_self a
theorem xor_div (a k n : Nat) : (a ^^^ k) / 2 ^ n = 0 ↔ a / 2 ^ n = k / 2 ^ n := by
  rw [← Nat.shiftRight_eq_div_pow, ← Nat.shiftRight_eq_div_pow, ← Nat.shiftRight_eq_div_pow, Nat.shiftRight_xor_distrib]
  exact xor_zero _ _
theorem div_succ (x b : Nat) : x / 2 ^ (b + 1) = x / 2 ^ b / 2 := by rw [Nat.pow_succ, Nat.div_div_eq_div_mul]
theorem div_ge {x y m n : Nat} (h : x / 2 ^ m = y / 2 ^ m) (hn : m ≤ n) : x / 2 ^ n = y / 2 ^ n := by
  obtain ⟨d, rfl⟩ := Nat.exists_eq_add_of_le hn
  rw [Nat.pow_add, ← Nat.div_div_eq_div_mul, ← Nat.div_div_eq_div_mul, h]
/-- where two numbers part -/
theorem parts {a k : Nat} (hne : a ≠ k) : a / 2 ^ (Go.bitLen (a ^^^ k) - 1 + 1) = k / 2 ^ (Go.bitLen (a ^^^ k) - 1 + 1) ∧ bit (Go.bitLen (a ^^^ k) - 1) a ≠ bit (Go.bitLen (a ^^^ k) - 1) k := by
  have h0 : a ^^^ k ≠ 0 := fun h => hne ((xor_zero _ _).1 h)
  obtain ⟨h1, h2⟩ := Go.bitLen_spec (a ^^^ k)
  have h2 := h2 h0
  obtain ⟨m, hm⟩ : ∃ m, Go.bitLen (a ^^^ k) = m + 1 := by
    cases e : Go.bitLen (a ^^^ k) with
    | zero => rw [e] at h1; simp at h1; exact absurd h1 h0
    | succ m => exact ⟨m, rfl⟩
  rw [hm] at h1 h2 ⊢
  simp only [Nat.add_sub_cancel] at h2 ⊢
  have e1 : a / 2 ^ (m + 1) = k / 2 ^ (m + 1) := (xor_div a k (m + 1)).1 (Nat.div_eq_of_lt h1)
  refine ⟨e1, fun e2 => ?_⟩
  have e3 : a / 2 ^ m = k / 2 ^ m := by
    unfold bit at e2
    rw [div_succ, div_succ] at e1
    omega
  have := (xor_div a k m).2 e3
  have : 2 ^ m ≤ a ^^^ k := h2
  have := Nat.div_pos this (Nat.two_pow_pos m)
  omega
theorem part_lt {a k : Nat} (ha : a < 18446744073709551616) (hk : k < 18446744073709551616) (hne : a ≠ k) : Go.bitLen (a ^^^ k) - 1 < 64 := by
  have h0 : a ^^^ k ≠ 0 := fun h => hne ((xor_zero _ _).1 h)
  have h2 := (Go.bitLen_spec (a ^^^ k)).2 h0
  have h3 : a ^^^ k < 2 ^ 64 := Nat.xor_lt_two_pow (by simpa using ha) (by simpa using hk)
  exact (Nat.pow_lt_pow_iff_right (by decide)).1 (Nat.lt_of_le_of_lt h2 h3)
/-- all keys of a tree go on as its own key does, from the bit on at which it parts from k -/
theorem below_part {t : Tr} {k : Nat} (h : t.WF) (hne : t.key ≠ k) (hn : ∀ a b l r, t = .node a b l r → (a ^^^ k) / 2 ^ b / 2 ≠ 0) : ∀ x ∈ t.keys, x / 2 ^ (Go.bitLen (t.key ^^^ k) - 1) = t.key / 2 ^ (Go.bitLen (t.key ^^^ k) - 1) := by
  cases t with
  | leaf a v => intro x hx; simp [keys_leaf] at hx; subst hx; rfl
  | node a b l r =>
    have h1 := hn a b l r rfl
    have hb : b + 1 ≤ Go.bitLen (a ^^^ k) - 1 := by
      by_cases c : b + 1 ≤ Go.bitLen (a ^^^ k) - 1
      · exact c
      · exfalso
        apply h1
        rw [Nat.div_div_eq_div_mul, ← Nat.pow_succ]
        refine Nat.div_eq_of_lt (Nat.lt_of_lt_of_le (Go.bitLen_spec (a ^^^ k)).1 (Nat.pow_le_pow_right (by decide) (by omega)))
    obtain ⟨_, _, hl, hr, _, _⟩ := h
    intro x hx
    rw [keys_node, List.mem_append] at hx
    refine div_ge ?_ hb
    rcases hx with hx | hx
    · exact (hl x hx).2
    · exact (hr x hx).2
theorem join_ok {t : Tr} {k : Nat} {v : Int} (h : t.WF) (hk : k < 18446744073709551616) (hne : t.key ≠ k) (hn : ∀ a b l r, t = .node a b l r → (a ^^^ k) / 2 ^ b / 2 ≠ 0) :
    (join t k v).WF ∧ (∀ x, (join t k v).look x = if x = k then some v else t.look x) ∧ (∀ x, x ∈ (join t k v).keys ↔ x = k ∨ x ∈ t.keys) ∧ (join t k v).toL.length = t.toL.length + 1 ∧ k ∉ t.keys := by
  have hb := below_part h hne hn
  obtain ⟨p1, p2⟩ := parts hne
  have p3 := part_lt (key_lt h) hk hne
  unfold join
  obtain ⟨b, eb⟩ : ∃ b, b = Go.bitLen (t.key ^^^ k) - 1 := ⟨_, rfl⟩
  rw [← eb] at hb p1 p2 p3 ⊢
  have kx : ∀ x ∈ t.keys, bit b x = bit b t.key ∧ x / 2 ^ (b + 1) = k / 2 ^ (b + 1) := fun x hx => ⟨by unfold bit; rw [hb x hx], by rw [← p1, div_succ, div_succ, hb x hx]⟩
  have two : ∀ y, bit b y = 0 ∨ bit b y = 1 := fun y => by unfold bit; omega
  have nk : k ∉ t.keys := fun hm => p2 (kx k hm).1.symm
  have lk : ∀ x, bit b x ≠ bit b t.key → t.look x = none := fun x hx => by
    cases e : t.look x with
    | none => rfl
    | some u => exact absurd (kx x ((look_mem h x).1 (by rw [e]; simp))).1 hx
  split <;> rename_i c
  · have ct : bit b t.key = 0 := by rcases two t.key with h | h <;> omega
    refine ⟨⟨p3, hk, fun x hx => ⟨(kx x hx).1.trans ct, (kx x hx).2⟩, fun x hx => ?_, h, hk⟩, fun x => ?_, fun x => ?_, ?_, nk⟩
    · simp [keys_leaf] at hx; subst hx; exact ⟨c, rfl⟩
    · simp only [Tr.look]
      rcases two x with hx | hx
      · rw [if_pos hx, if_neg (fun e => by rw [e] at hx; omega)]
      · rw [if_neg (by omega)]
        by_cases e : k = x
        · rw [if_pos e, if_pos e.symm]
        · rw [if_neg e, if_neg (Ne.symm e), lk x (by omega)]
    · rw [keys_node, List.mem_append, keys_leaf, List.mem_singleton, or_comm]
    · simp [Tr.toL]
  · have ck : bit b k = 0 := by rcases two k with h | h <;> omega
    have ct : bit b t.key = 1 := by rcases two t.key with h | h <;> omega
    refine ⟨⟨p3, hk, fun x hx => ?_, fun x hx => ⟨(kx x hx).1.trans ct, (kx x hx).2⟩, hk, h⟩, fun x => ?_, fun x => ?_, ?_, nk⟩
    · simp [keys_leaf] at hx; subst hx; exact ⟨ck, rfl⟩
    · simp only [Tr.look]
      rcases two x with hx | hx
      · rw [if_pos hx]
        by_cases e : k = x
        · rw [if_pos e, if_pos e.symm]
        · rw [if_neg e, if_neg (Ne.symm e), lk x (by omega)]
      · rw [if_neg (by omega), if_neg (fun e => by rw [e] at hx; omega)]
    · rw [keys_node, List.mem_append, keys_leaf, List.mem_singleton]
    · simp only [Tr.toL, List.length_append, List.length_singleton]; omega
theorem ins_ok {t : Tr} {k : Nat} {v : Int} (h : t.WF) (hk : k < 18446744073709551616) :
    (t.ins k v).WF ∧ (∀ x, (t.ins k v).look x = if x = k then some v else t.look x) ∧ (∀ x, x ∈ (t.ins k v).keys ↔ x = k ∨ x ∈ t.keys) ∧ (t.ins k v).toL.length = (if k ∈ t.keys then t.toL.length else t.toL.length + 1) := by
  induction t with
  | leaf a u =>
    simp only [Tr.ins]
    split <;> rename_i c
    · subst c
      refine ⟨hk, fun x => ?_, fun x => by simp [keys_leaf], by simp [keys_leaf, Tr.toL]⟩
      simp only [Tr.look]
      by_cases e : a = x
      · rw [if_pos e, if_pos e.symm]
      · rw [if_neg e, if_neg (Ne.symm e), if_neg e]
    · obtain ⟨h1, h2, h3, h4, h5⟩ := join_ok (t := .leaf a u) (k := k) (v := v) h hk c (fun _ _ _ _ e => by cases e)
      exact ⟨h1, h2, h3, by rw [if_neg h5, h4]⟩
  | node a b l r ihl ihr =>
    simp only [Tr.ins]
    have h' := h
    obtain ⟨hb, ha, hl, hr, wl, wr⟩ := h'
    split <;> rename_i c
    · have pk : k / 2 ^ (b + 1) = a / 2 ^ (b + 1) := by
        rw [Nat.div_div_eq_div_mul, ← Nat.pow_succ] at c
        exact ((xor_div a k (b + 1)).1 c).symm
      split <;> rename_i d
      · obtain ⟨i1, i2, i3, i4⟩ := ihl wl
        refine ⟨⟨hb, ha, fun x hx => ?_, hr, i1, wr⟩, fun x => ?_, fun x => ?_, ?_⟩
        · rcases (i3 x).1 hx with rfl | hx
          · exact ⟨d, pk⟩
          · exact hl x hx
        · simp only [Tr.look]
          by_cases e : x = k
          · subst e; rw [if_pos d, i2, if_pos rfl, if_pos rfl]
          · rw [if_neg e]
            split
            · rw [i2, if_neg e]
            · rfl
        · rw [keys_node, keys_node, List.mem_append, List.mem_append, i3, or_assoc]
        · have nr : k ∉ r.keys := fun hm => by have := (hr k hm).1; omega
          simp only [Tr.toL, List.length_append, i4, keys_node, List.mem_append]
          by_cases e : k ∈ l.keys
          · rw [if_pos e, if_pos (.inl e)]
          · rw [if_neg e, if_neg (by rintro (h | h); exact e h; exact nr h)]; omega
      · have d1 : bit b k = 1 := by unfold bit at *; omega
        obtain ⟨i1, i2, i3, i4⟩ := ihr wr
        refine ⟨⟨hb, ha, hl, fun x hx => ?_, wl, i1⟩, fun x => ?_, fun x => ?_, ?_⟩
        · rcases (i3 x).1 hx with rfl | hx
          · exact ⟨d1, pk⟩
          · exact hr x hx
        · simp only [Tr.look]
          by_cases e : x = k
          · subst e; rw [if_neg d, i2, if_pos rfl, if_pos rfl]
          · rw [if_neg e]
            split
            · rfl
            · rw [i2, if_neg e]
        · rw [keys_node, keys_node, List.mem_append, List.mem_append, i3]
          constructor
          · rintro (h | h | h)
            · exact .inr (.inl h)
            · exact .inl h
            · exact .inr (.inr h)
          · rintro (h | h | h)
            · exact .inr (.inl h)
            · exact .inl h
            · exact .inr (.inr h)
        · have nl : k ∉ l.keys := fun hm => by have := (hl k hm).1; omega
          simp only [Tr.toL, List.length_append, i4, keys_node, List.mem_append]
          by_cases e : k ∈ r.keys
          · rw [if_pos e, if_pos (.inr e)]
          · rw [if_neg e, if_neg (by rintro (h | h); exact nl h; exact e h)]; omega
    · have hne : a ≠ k := fun e => by subst e; apply c; simp
      obtain ⟨h1, h2, h3, h4, h5⟩ := join_ok (t := .node a b l r) (k := k) (v := v) h hk hne (fun a' b' l' r' e => by cases e; exact c)
      exact ⟨h1, h2, h3, by rw [if_neg h5, h4]⟩
def lookO (t : Option Tr) (x : Nat) : Option Int := match t with | none => none | some t => t.look x
def WFO (t : Option Tr) : Prop := match t with | none => True | some t => t.WF
def toLO (t : Option Tr) : List (Nat × Int) := match t with | none => [] | some t => t.toL
theorem del_ok {t : Tr} {k : Nat} (h : t.WF) (hm : k ∈ t.keys) : WFO (t.del k) ∧ (∀ x, lookO (t.del k) x = if x = k then none else t.look x) ∧ (∀ x, x ∈ (toLO (t.del k)).map (·.1) → x ∈ t.keys) ∧ (toLO (t.del k)).length + 1 = t.toL.length := by
  induction t with
  | leaf a u =>
    simp [keys_leaf] at hm
    subst hm
    refine ⟨trivial, fun x => ?_, fun x hx => by simp [Tr.del, toLO] at hx, by simp [Tr.del, toLO, Tr.toL]⟩
    simp only [Tr.del, lookO, Tr.look]
    by_cases e : k = x
    · rw [if_pos e.symm]
    · rw [if_neg (Ne.symm e), if_neg e]
  | node a b l r ihl ihr =>
    obtain ⟨hb, ha, hl, hr, wl, wr⟩ := h
    rw [keys_node, List.mem_append] at hm
    simp only [Tr.del]
    split <;> rename_i d
    · have kl : k ∈ l.keys := by
        rcases hm with h | h
        · exact h
        · have := (hr k h).1; omega
      obtain ⟨i1, i2, i3, i4⟩ := ihl wl kl
      cases e : l.del k with
      | none =>
        rw [e] at i1 i2 i3 i4
        simp only [lookO, toLO, List.length_nil] at i2 i4
        refine ⟨wr, fun x => ?_, fun x hx => by rw [keys_node, List.mem_append]; exact .inr hx, by simp [toLO, Tr.toL]; omega⟩
        simp only [lookO, Tr.look]
        by_cases c : x = k
        · rw [if_pos c]
          subst c
          cases e2 : r.look x with
          | none => rfl
          | some u => have := (hr x ((look_mem wr x).1 (by rw [e2]; simp))).1; omega
        · rw [if_neg c]
          split <;> rename_i dx
          · have := i2 x
            rw [if_neg c] at this
            rw [← this]
            cases e2 : r.look x with
            | none => rfl
            | some u => have := (hr x ((look_mem wr x).1 (by rw [e2]; simp))).1; omega
          · rfl
      | some l' =>
        rw [e] at i1 i2 i3 i4
        simp only [lookO, toLO] at i2 i3 i4
        refine ⟨⟨hb, ha, fun x hx => hl x (i3 x hx), hr, i1, wr⟩, fun x => ?_, fun x hx => ?_, by simp [toLO, Tr.toL]; omega⟩
        · simp only [lookO, Tr.look]
          split <;> rename_i dx
          · exact i2 x
          · rw [if_neg (fun c => by subst c; exact dx d)]
        · rw [keys_node, List.mem_append]
          simp only [toLO, Tr.toL, List.map_append, List.mem_append] at hx
          rcases hx with hx | hx
          · exact .inl (i3 x hx)
          · exact .inr hx
    · have kr : k ∈ r.keys := by
        rcases hm with h | h
        · have := (hl k h).1; omega
        · exact h
      obtain ⟨i1, i2, i3, i4⟩ := ihr wr kr
      cases e : r.del k with
      | none =>
        rw [e] at i1 i2 i3 i4
        simp only [lookO, toLO, List.length_nil] at i2 i4
        refine ⟨wl, fun x => ?_, fun x hx => by rw [keys_node, List.mem_append]; exact .inl hx, by simp [toLO, Tr.toL]; omega⟩
        simp only [lookO, Tr.look]
        by_cases c : x = k
        · rw [if_pos c]
          subst c
          cases e2 : l.look x with
          | none => rfl
          | some u => have := (hl x ((look_mem wl x).1 (by rw [e2]; simp))).1; omega
        · rw [if_neg c]
          split <;> rename_i dx
          · rfl
          · have := i2 x
            rw [if_neg c] at this
            rw [← this]
            cases e2 : l.look x with
            | none => rfl
            | some u => have := (hl x ((look_mem wl x).1 (by rw [e2]; simp))).1; omega
      | some r' =>
        rw [e] at i1 i2 i3 i4
        simp only [lookO, toLO] at i2 i3 i4
        refine ⟨⟨hb, ha, hl, fun x hx => hr x (i3 x hx), wl, i1⟩, fun x => ?_, fun x hx => ?_, by simp [toLO, Tr.toL]; omega⟩
        · simp only [lookO, Tr.look]
          split <;> rename_i dx
          · rw [if_neg (fun c => by subst c; exact d dx)]
          · exact i2 x
        · rw [keys_node, List.mem_append]
          simp only [toLO, Tr.toL, List.map_append, List.mem_append] at hx
          rcases hx with hx | hx
          · exact .inl hx
          · exact .inr (i3 x hx)
/-- the pairs rise -/
def Rises (L : List (Nat × Int)) : Prop := L.Pairwise fun p q => p.1 < q.1
theorem rises {t : Tr} (h : t.WF) : Rises t.toL := by
  induction t with
  | leaf k v => exact List.pairwise_singleton _ _
  | node k b l r ihl ihr =>
    obtain ⟨_, _, hl, hr, wl, wr⟩ := h
    refine List.pairwise_append.2 ⟨ihl wl, ihr wr, fun p hp q hq => ?_⟩
    obtain ⟨a1, a2⟩ := hl p.1 (List.mem_map_of_mem hp)
    obtain ⟨b1, b2⟩ := hr q.1 (List.mem_map_of_mem hq)
    have e : p.1 / 2 ^ (b + 1) = q.1 / 2 ^ (b + 1) := a2.trans b2.symm
    rw [div_succ, div_succ] at e
    unfold bit at a1 b1
    have lt : p.1 / 2 ^ b < q.1 / 2 ^ b := by omega
    by_cases c : p.1 < q.1
    · exact c
    · have := Nat.div_le_div_right (c := 2 ^ b) (Nat.le_of_not_lt c)
      omega
/-- a pair's thing in a list -/
def assoc (L : List (Nat × Int)) (x : Nat) : Option Int := (L.find? (fun p => p.1 == x)).map (·.2)
theorem assoc_app (A B : List (Nat × Int)) (x : Nat) : assoc (A ++ B) x = (assoc A x).or (assoc B x) := by
  unfold assoc
  rw [List.find?_append]
  cases A.find? (fun p => p.1 == x) <;> simp
theorem assoc_none {L : List (Nat × Int)} {x : Nat} (h : x ∉ L.map (·.1)) : assoc L x = none := by
  unfold assoc
  rw [List.find?_eq_none.2 (fun p hp e => h (by rw [← (by simpa using e : p.1 = x)]; exact List.mem_map_of_mem hp))]
  rfl
theorem look_toL {t : Tr} (h : t.WF) (x : Nat) : t.look x = assoc t.toL x := by
  induction t with
  | leaf k v => by_cases c : k = x <;> simp [Tr.look, assoc, Tr.toL, List.find?, c]
  | node k b l r ihl ihr =>
    obtain ⟨_, _, hl, hr, wl, wr⟩ := h
    simp only [Tr.look, Tr.toL]
    rw [assoc_app]
    split <;> rename_i c
    · rw [ihl wl, assoc_none (L := r.toL) (fun hm => by have := (hr x hm).1; omega)]
      simp
    · rw [ihr wr, assoc_none (L := l.toL) (fun hm => by have := (hl x hm).1; omega)]
      simp
theorem rises_eq : ∀ {A B : List (Nat × Int)}, Rises A → Rises B → (∀ x, assoc A x = assoc B x) → A = B
  | [], [], _, _, _ => rfl
  | [], q :: B, _, _, h => by have := h q.1; simp [assoc] at this
  | p :: A, [], _, _, h => by have := h p.1; simp [assoc] at this
  | p :: A, q :: B, ha, hb, h => by
    have ha' := List.pairwise_cons.1 ha
    have hb' := List.pairwise_cons.1 hb
    have no : ∀ (L : List (Nat × Int)) (p : Nat × Int), (∀ r ∈ L, p.1 < r.1) → ∀ x, x ≤ p.1 → assoc L x = none := fun L p hp x hx => assoc_none (fun hm => by
      obtain ⟨r, hr, rfl⟩ := List.mem_map.1 hm
      have := hp r hr
      omega)
    have cons : ∀ (p : Nat × Int) (L : List (Nat × Int)) x, assoc (p :: L) x = if p.1 = x then some p.2 else assoc L x := fun p L x => by
      unfold assoc
      by_cases c : p.1 = x
      · simp [List.find?, c]
      · rw [List.find?_cons_of_neg (by simpa using c), if_neg c]
    have e1 : p.1 = q.1 := by
      have h1 := h p.1
      have h2 := h q.1
      rw [cons, cons, if_pos rfl] at h1
      rw [cons, cons, if_pos (rfl : q.1 = q.1)] at h2
      by_cases c : p.1 < q.1
      · rw [if_neg (by omega), no B q hb'.1 p.1 (by omega)] at h1; cases h1
      · by_cases c2 : q.1 < p.1
        · rw [if_neg (by omega), no A p ha'.1 q.1 (by omega)] at h2; cases h2
        · omega
    have e2 : p.2 = q.2 := by
      have h1 := h p.1
      rw [cons, cons, if_pos rfl, if_pos e1.symm] at h1
      exact Option.some.inj h1
    have e : p = q := Prod.ext e1 e2
    subst e
    congr 1
    refine rises_eq ha'.2 hb'.2 fun x => ?_
    have := h x
    rw [cons, cons] at this
    by_cases c : p.1 = x
    · subst c
      rw [no A p ha'.1 p.1 (Nat.le_refl _), no B p hb'.1 p.1 (Nat.le_refl _)]
    · rw [if_neg c, if_neg c] at this
      exact this
end GrS
