/-
  Texts of one claim, merged.
-/
import Derived.Test.YtlflknfkenfpiaaGreatDoorR16
set_option linter.unusedSimpArgs false
set_option linter.unusedVariables false
namespace GrG
open Go Go.RowKit
theorem eqL_eq {f : AV → AV → Bool} (hf : ∀ a b, f a b = true → a = b) : ∀ {l m : List AV}, eqL f l m = true → l = m
  | [], [], _ => rfl
  | [], _ :: _, h => by cases h
  | _ :: _, [], h => by cases h
  | a :: l, b :: m, h => by
    simp only [eqL] at h
    split at h
    · next e => rw [hf a b e, eqL_eq hf h]
    · cases h
theorem eqA_eq : ∀ (k : Nat) (a b : AV), eqA k a b = true → a = b
  | 0, a, b, h => by cases h
  | k + 1, a, b, h => by
    have ih := eqA_eq k
    unfold eqA at h
    split at h
    · have h : (_ == _) = true := h
      rw [eq_of_beq h]
    · split at h
      · next e =>
        obtain rfl := kn_inj e
        rw [ieq_eq] at h
        rw [eq_of_beq h]
      · cases h
    · rw [leq_iff.1 h]
    · rfl
    · split at h
      · next e => rw [beq_t e, beq_t h]
      · cases h
    · rfl
    · rw [beq_t h]
    · split at h
      · next e1 e2 e3 e4 e5 e6 => rw [beq_t e1, beq_t e2, beq_t e3, beq_t e4, eq_of_beq e5, beq_t e6]
      · cases h
    · rw [eqL_eq ih h]
    · rw [eqL_eq ih h]
    · rfl
    · split at h
      · next e1 e2 => rw [beq_t e1, eqL_eq ih e2, eqL_eq ih h]
      · cases h
    · rfl
    · rw [beq_t h]
    · rfl
    · split at h
      · next e => rw [beq_t e, ih _ _ h]
      · cases h
    · rw [beq_t h]
    · rw [beq_t h]
    · rw [kn_inj h]
    · rfl
    · rfl
    · rw [eqL_eq ih h]
    · rfl
    · cases h
theorem eqa_eq {a b : AV} (h : eqa a b = true) : a = b := eqA_eq 12 a b h
def Weak (x y : Ob) : Prop := ∀ σ f z o, OC σ f z y o → OC σ f z x o
theorem Weak.refl (x : Ob) : Weak x x := fun _ _ _ _ h => h
theorem Weak.trans {x y z : Ob} (h : Weak x y) (k : Weak y z) : Weak x z := fun σ f z o q => h σ f z o (k σ f z o q)
theorem jT_get : ∀ (a b : T AV) (p : Pth) (v : AV), T.getP p (jT a b) = some v → T.getP p a = some v ∧ T.getP p b = some v
  | .leaf, b, p, v, h => by
    have : T.getP p (T.leaf : T AV) = some v := h
    rw [T.getP_leaf] at this
    cases this
  | .node l x r, .leaf, p, v, h => by
    have : T.getP p (T.leaf : T AV) = some v := h
    rw [T.getP_leaf] at this
    cases this
  | .node l x r, .node l' x' r', p, v, h => by
    cases p with
    | h =>
      have h : jO x x' = some v := h
      show x = some v ∧ x' = some v
      unfold jO at h
      split at h
      · split at h
        · next e =>
          simp only [Option.some.injEq] at h
          subst h
          rw [eqa_eq e]
          exact ⟨rfl, rfl⟩
        · cases h
      · cases h
    | l p => exact jT_get l l' p v h
    | r p => exact jT_get r r' p v h
theorem jLab_eq {a b : Option Nat} {c : Nat} (h : jLab a b = some c) : a = some c ∧ b = some c := by
  unfold jLab at h
  split at h
  · split at h
    · next e =>
      simp only [Option.some.injEq] at h
      subst h
      rw [beq_t e]
      exact ⟨rfl, rfl⟩
    · cases h
  · cases h
theorem jEs_eq : ∀ {es fs gs : List En}, jEs es fs = some gs → gs.map (fun e => (e.key, e.val)) = es.map (fun e => (e.key, e.val)) ∧ es.map (fun e => (e.key, e.val)) = fs.map (fun e => (e.key, e.val)) ∧ (∀ (i : Nat) (e g f : En), gs[i]? = some g → es[i]? = some e → fs[i]? = some f → ∀ c : Nat, g.lab = some c → e.lab = some c ∧ f.lab = some c)
  | [], [], gs, h => by
    simp only [jEs, Option.some.injEq] at h
    subst h
    exact ⟨rfl, rfl, fun i e g f h => by simp at h⟩
  | [], _ :: _, gs, h => by cases h
  | _ :: _, [], gs, h => by cases h
  | a :: l, b :: m, gs, h => by
    simp only [jEs] at h
    split at h
    · next r e1 e2 e3 =>
      simp only [Option.some.injEq] at h
      subst h
      obtain ⟨h1, h2, h3⟩ := jEs_eq e3
      refine ⟨by simp [h1], by simp [h2, eqa_eq e1, eqa_eq e2], fun i e g f hg he hf c hc => ?_⟩
      cases i with
      | zero =>
        simp only [List.getElem?_cons_zero, Option.some.injEq] at hg he hf
        subst hg
        subst he
        subst hf
        exact jLab_eq hc
      | succ i => exact h3 i e g f (by simpa using hg) (by simpa using he) (by simpa using hf) c hc
    · cases h
theorem ELRel.of {σ : Sg} : ∀ {gs es : List En} {ws : List MapEntry}, gs.map (fun e => (e.key, e.val)) = es.map (fun e => (e.key, e.val)) → (∀ (i : Nat) (e g : En), gs[i]? = some g → es[i]? = some e → ∀ c : Nat, g.lab = some c → e.lab = some c) → ELRel σ es ws → ELRel σ gs ws
  | [], [], _, _, _, .nil => .nil
  | [], _ :: _, _, h, _, _ => by simp at h
  | _ :: _, [], _, h, _, _ => by simp at h
  | g :: gs, e :: es, _, h, hl, .cons he hr => by
    simp only [List.map_cons, List.cons.injEq, Prod.mk.injEq] at h
    refine .cons ⟨by rw [h.1.1]; exact he.key, by rw [h.1.2]; exact he.val, fun j hj => he.lab j (hl 0 e g rfl rfl j hj)⟩ (ELRel.of h.2 (fun i x y hx hy => hl (i + 1) x y (by simpa using hx) (by simpa using hy)) hr)
theorem keys_of {gs es : List En} (h : gs.map (fun e => (e.key, e.val)) = es.map (fun e => (e.key, e.val))) (k : es.Pairwise fun a b => keq a.key b.key = some false) : gs.Pairwise fun a b => keq a.key b.key = some false := by
  have h1 : gs.map (·.key) = es.map (·.key) := by
    have := congrArg (List.map Prod.fst) h
    rw [List.map_map, List.map_map] at this
    exact this
  have k1 : (es.map (·.key)).Pairwise fun a b => keq a b = some false := List.pairwise_map.2 k
  rw [← h1] at k1
  exact List.pairwise_map.1 k1
theorem MRel.weak {σ : Sg} {gs es : List En} {ck ck' : Option Nat} {ws : List MapEntry} {clock : Nat} (h : MRel σ es ck ws clock) (h1 : gs.map (fun e => (e.key, e.val)) = es.map (fun e => (e.key, e.val))) (h2 : ∀ (i : Nat) (e g : En), gs[i]? = some g → es[i]? = some e → ∀ c : Nat, g.lab = some c → e.lab = some c) (h3 : ∀ c, ck' = some c → ck = some c) : MRel σ gs ck' ws clock := by
  obtain ⟨vs, p1, p2⟩ := h.perm
  exact ⟨⟨vs, p1, p2.of h1 h2⟩, keys_of h1 h.keys, h.born, h.old, fun c q => h.ck c (h3 c q)⟩
theorem jTy_eq {a b : Option Nat} {u : Nat} (h : jTy a b = some u) : a = some u ∧ b = some u := by
  unfold jTy at h
  split at h
  · split at h
    · next e => cases h; rw [beq_t e]; exact ⟨rfl, rfl⟩
    · cases h
  · cases h
theorem jOb_weak {a b : Option Ob} {x : Ob} (h : jOb a b = some x) : (∃ y, a = some y ∧ Weak x y) ∧ (∃ y, b = some y ∧ Weak x y) := by
  unfold jOb at h
  split at h
  · next t c u d =>
    simp only [Option.some.injEq] at h
    subst h
    refine ⟨⟨_, rfl, fun σ f z o q => ?_⟩, ⟨_, rfl, fun σ f z o q => ?_⟩⟩
    · obtain ⟨cs, t, h1, h0, h2, h3⟩ := q
      exact ⟨cs, t, h1, fun u hu => h0 u (jTy_eq hu).1, h2, fun j a hj => h3 j a (jT_get c d _ a hj).1⟩
    · obtain ⟨cs, t, h1, h0, h2, h3⟩ := q
      exact ⟨cs, t, h1, fun u hu => h0 u (jTy_eq hu).2, h2, fun j a hj => h3 j a (jT_get c d _ a hj).2⟩
  · next es c fs d =>
    split at h
    · next gs e =>
      simp only [Option.some.injEq] at h
      subst h
      obtain ⟨h1, h2, h3⟩ := jEs_eq e
      have hl : gs.length = es.length := by have := congrArg List.length h1; simpa using this
      have hl2 : es.length = fs.length := by have := congrArg List.length h2; simpa using this
      refine ⟨⟨_, rfl, fun σ f z o q => ?_⟩, ⟨_, rfl, fun σ f z o q => ?_⟩⟩
      · obtain ⟨h0, ws, cl, k1, k2⟩ := q
        refine ⟨h0, ws, cl, k1, k2.weak h1 (fun i e g hg he c hc => ?_) fun c hc => (jLab_eq hc).1⟩
        have hi : i < fs.length := by have := (List.getElem?_eq_some_iff.1 he).1; omega
        exact (h3 i e g _ hg he (List.getElem?_eq_getElem hi) c hc).1
      · obtain ⟨h0, ws, cl, k1, k2⟩ := q
        refine ⟨h0, ws, cl, k1, k2.weak (h1.trans h2) (fun i e g hg he c hc => ?_) fun c hc => (jLab_eq hc).2⟩
        have hi : i < es.length := by have := (List.getElem?_eq_some_iff.1 he).1; omega
        exact (h3 i _ g e hg (List.getElem?_eq_getElem hi) he c hc).2
    · cases h
  · split at h
    · next e1 e2 e3 e4 =>
      simp only [Option.some.injEq] at h
      subst h
      rw [beq_t e1, leq_iff.1 e2, leq_iff.1 e3, beq_t e4]
      exact ⟨⟨_, rfl, .refl _⟩, ⟨_, rfl, .refl _⟩⟩
    · cases h
  · simp only [Option.some.injEq] at h
    subst h
    exact ⟨⟨_, rfl, .refl _⟩, ⟨_, rfl, .refl _⟩⟩
  · cases h
theorem jW_get (a b : T Ob) : ∀ (l : List Nat) (t : T Ob) (i : Nat), (jW a b l t).get i = if i ∈ l then jOb (a.get i) (b.get i) else t.get i
  | [], t, i => by simp [jW]
  | j :: l, t, i => by
    rw [jW, jW_get a b l]
    by_cases h : i ∈ l
    · simp [h]
    · by_cases q : i = j
      · subst q
        simp [h, T.get_set_eq]
      · simp [h, q, T.get_set_ne _ _ q]
theorem lows_mem {n a : Nat} : ∀ {l : List Nat}, a ∈ lows n l ↔ a ∈ l ∧ a < n
  | [] => by simp [lows]
  | b :: l => by
    unfold lows
    split
    · next e =>
      have e := blt_t e
      rw [List.mem_cons, List.mem_cons, lows_mem]
      constructor
      · rintro (rfl | h)
        · exact ⟨.inl rfl, e⟩
        · exact ⟨.inr h.1, h.2⟩
      · rintro ⟨rfl | h, k⟩
        · exact .inl rfl
        · exact .inr ⟨h, k⟩
    · next e =>
      have e := blt_f e
      rw [List.mem_cons, lows_mem]
      constructor
      · exact fun h => ⟨.inr h.1, h.2⟩
      · rintro ⟨rfl | h, k⟩
        · exact absurd k (by omega)
        · exact ⟨h, k⟩
theorem once_mem {a : Nat} : ∀ {l : List Nat} {t : T Bool}, a ∈ l → a ∈ once l t ∨ t.get a ≠ none
  | [], t, h => by cases h
  | b :: l, t, h => by
    unfold once
    split
    · next e =>
      rcases List.mem_cons.1 h with rfl | h
      · exact .inr (by rw [e]; simp)
      · exact once_mem h
    · next e =>
      by_cases q : a = b
      · exact .inl (q ▸ List.mem_cons_self ..)
      · rcases List.mem_cons.1 h with h | h
        · exact absurd h q
        · rcases once_mem (t := t.set b (some true)) h with h | h
          · exact .inl (List.mem_cons_of_mem _ h)
          · rw [T.get_set_ne _ _ q] at h
            exact .inr h
theorem once_leaf {a : Nat} {l : List Nat} (h : a ∈ l) : a ∈ once l .leaf := by
  rcases once_mem (t := .leaf) h with h | h
  · exact h
  · exact absurd (T.get_leaf a) h
theorem once_sub {a : Nat} : ∀ {l : List Nat} {t : T Bool}, a ∈ once l t → a ∈ l
  | [], t, h => by cases h
  | b :: l, t, h => by
    unfold once at h
    split at h
    · exact List.mem_cons_of_mem _ (once_sub h)
    · rcases List.mem_cons.1 h with rfl | h
      · exact List.mem_cons_self ..
      · exact List.mem_cons_of_mem _ (once_sub h)
theorem T.lft_get {α : Type} (p : Pth) : ∀ b : T α, T.getP p b.lft = T.getP (.l p) b
  | .leaf => T.getP_leaf p
  | .node _ _ _ => rfl
theorem T.rgt_get {α : Type} (p : Pth) : ∀ b : T α, T.getP p b.rgt = T.getP (.r p) b
  | .leaf => T.getP_leaf p
  | .node _ _ _ => rfl
theorem T.val_get {α : Type} : ∀ b : T α, b.val = T.getP .h b
  | .leaf => rfl
  | .node _ _ _ => rfl
theorem jS_getP (lo : Nat) : ∀ (a : T Ob) (p : Pth) (A B : Nat) (b : T Ob), T.getP p (jS lo a A B b) = if A + B * p.num < lo then T.getP p a else jOb (T.getP p a) (T.getP p b)
  | .leaf, p, A, B, b => by
    show T.getP p (.leaf : T Ob) = _
    rw [T.getP_leaf]
    split <;> rfl
  | .node l v r, .h, A, B, b => by
    show (match Nat.blt A lo with | true => v | false => jOb v b.val) = if A + B * 0 < lo then v else jOb v (T.getP .h b)
    rw [← T.val_get, Nat.mul_zero, Nat.add_zero]
    cases e : Nat.blt A lo with
    | true => rw [if_pos (blt_t e)]
    | false => rw [if_neg (blt_f e)]
  | .node l v r, .l p, A, B, b => by
    show T.getP p (jS lo l (A + B) (2 * B) b.lft) = if A + B * (2 * p.num + 1) < lo then T.getP p l else jOb (T.getP p l) (T.getP (.l p) b)
    rw [jS_getP lo l, T.lft_get, show A + B + 2 * B * p.num = A + B * (2 * p.num + 1) by rw [Nat.mul_add, ← Nat.mul_assoc, Nat.mul_comm B 2]; omega]
  | .node l v r, .r p, A, B, b => by
    show T.getP p (jS lo r (A + 2 * B) (2 * B) b.rgt) = if A + B * (2 * p.num + 2) < lo then T.getP p r else jOb (T.getP p r) (T.getP (.r p) b)
    rw [jS_getP lo r, T.rgt_get, show A + 2 * B + 2 * B * p.num = A + B * (2 * p.num + 2) by rw [Nat.mul_add, ← Nat.mul_assoc, Nat.mul_comm B 2]; omega]
theorem jS_get (lo : Nat) (a b : T Ob) (i : Nat) : (jS lo a 0 1 b).get i = if i < lo then a.get i else jOb (a.get i) (b.get i) := by
  unfold T.get
  rw [jS_getP, num_pth, Nat.one_mul, Nat.zero_add]
structure Jn (M0 a m : Mem) : Prop where
  rd : ∀ i ∈ a.rd, i < M0.next → i ∈ m.rd
  wr : ∀ i ∈ a.wr, i < M0.next → i ∈ m.wr
  next : a.next ≤ m.next
  wk : ∀ i x, m.objs.get i = some x → ∃ y, a.objs.get i = some y ∧ Weak x y
  keep : ∀ i, i < M0.next → i ∉ m.wr → m.objs.get i = a.objs.get i
theorem Jn.refl (M0 a : Mem) : Jn M0 a a := ⟨fun _ h _ => h, fun _ h _ => h, Nat.le_refl _, fun i x h => ⟨x, h, .refl x⟩, fun _ _ _ => rfl⟩
theorem Jn.trans {M0 a b c : Mem} (h : Jn M0 a b) (k : Jn M0 b c) : Jn M0 a c :=
  ⟨fun i q l => k.rd i (h.rd i q l) l, fun i q l => k.wr i (h.wr i q l) l, Nat.le_trans h.next k.next, fun i x q => by
    obtain ⟨y, h1, h2⟩ := k.wk i x q
    obtain ⟨z, h3, h4⟩ := h.wk i y h1
    exact ⟨z, h3, h2.trans h4⟩, fun i q r => (k.keep i q r).trans (h.keep i q fun x => r (k.wr i x q))⟩
structure From (M0 a : Mem) : Prop where
  next : M0.next ≤ a.next
  keep : ∀ i, i < M0.next → i ∉ a.wr → a.objs.get i = M0.objs.get i
  top : ∀ i, a.next ≤ i → a.objs.get i = none
theorem jM_get {M0 a b : Mem} (i : Nat) : (jM M0 a b).objs.get i = if i ∈ b.wr then jOb (a.objs.get i) (b.objs.get i) else if i ∈ a.wr then jOb (a.objs.get i) (b.objs.get i) else if i < M0.next then a.objs.get i else jOb (a.objs.get i) (b.objs.get i) := by
  rw [jM]
  show T.get (jW _ _ _ _) i = _
  rw [jW_get, jW_get, jS_get]
theorem jM_jn {M0 a b : Mem} (ha : From M0 a) (hb : From M0 b) : Jn M0 a (jM M0 a b) ∧ Jn M0 b (jM M0 a b) ∧ From M0 (jM M0 a b) := by
  have hm : Nat.max a.next b.next = max a.next b.next := rfl
  have h1 := ha.next
  have h2 := hb.next
  have wka : ∀ i x, (jM M0 a b).objs.get i = some x → ∃ y, a.objs.get i = some y ∧ Weak x y := fun i x h => by
    rw [jM_get] at h
    split at h
    · exact (jOb_weak h).1
    · split at h
      · exact (jOb_weak h).1
      · split at h
        · exact ⟨x, h, .refl x⟩
        · exact (jOb_weak h).1
  have wkb : ∀ i x, (jM M0 a b).objs.get i = some x → ∃ y, b.objs.get i = some y ∧ Weak x y := fun i x h => by
    rw [jM_get] at h
    split at h
    · exact (jOb_weak h).2
    · next n1 =>
      split at h
      · exact (jOb_weak h).2
      · next n2 =>
        split at h
        · next q =>
          rw [ha.keep i q n2] at h
          exact ⟨x, by rw [hb.keep i q n1]; exact h, .refl x⟩
        · exact (jOb_weak h).2
  have hn : (jM M0 a b).next = max a.next b.next := rfl
  refine ⟨⟨fun i q _ => List.mem_append_left _ q, fun i q _ => List.mem_append_left _ q, by rw [hn]; omega, wka, fun i q r => ?_⟩, ⟨fun i q _ => List.mem_append_right _ q, fun i q _ => List.mem_append_right _ q, by rw [hn]; omega, wkb, fun i q r => ?_⟩, ⟨by rw [hn]; omega, fun i q r => ?_, fun i q => ?_⟩⟩
  · have r1 : i ∉ a.wr := fun h => r (List.mem_append_left _ h)
    have r2 : i ∉ b.wr := fun h => r (List.mem_append_right _ h)
    rw [jM_get, if_neg r2, if_neg r1, if_pos q]
  · have r1 : i ∉ a.wr := fun h => r (List.mem_append_left _ h)
    have r2 : i ∉ b.wr := fun h => r (List.mem_append_right _ h)
    rw [jM_get, if_neg r2, if_neg r1, if_pos q, ha.keep i q r1, hb.keep i q r2]
  · have r1 : i ∉ a.wr := fun h => r (List.mem_append_left _ h)
    have r2 : i ∉ b.wr := fun h => r (List.mem_append_right _ h)
    rw [jM_get, if_neg r2, if_neg r1, if_pos q, ha.keep i q r1]
  · rw [hn] at q
    cases h : (jM M0 a b).objs.get i with
    | none => rfl
    | some x =>
      obtain ⟨y, e, _⟩ := wka i x h
      rw [ha.top i (by omega)] at e
      cases e
theorem slim_log {n : Nat} {p : AV × Mem} {i : Nat} (hi : i < n) : (i ∈ p.2.rd → i ∈ (slim n p).2.rd) ∧ (i ∈ p.2.wr → i ∈ (slim n p).2.wr) :=
  ⟨fun h => once_leaf (lows_mem.2 ⟨h, hi⟩), fun h => once_leaf (lows_mem.2 ⟨h, hi⟩)⟩
theorem slim_from {M0 : Mem} {p : AV × Mem} (h : From M0 p.2) : From M0 (slim M0.next p).2 := ⟨h.next, fun i q r => h.keep i q fun x => r ((slim_log q).2 x), h.top⟩
theorem Jn.slim {M0 m : Mem} {p : AV × Mem} (h : Jn M0 (slim M0.next p).2 m) : Jn M0 p.2 m :=
  ⟨fun i q l => h.rd i ((slim_log l).1 q) l, fun i q l => h.wr i ((slim_log l).2 q) l, h.next, h.wk, fun i q r => h.keep i q r⟩
theorem jV_jn {M0 : Mem} : ∀ (l : List (AV × Mem)) (p q : AV × Mem), jV M0 p l = some q → From M0 p.2 → (∀ r ∈ l, From M0 r.2) → From M0 q.2 ∧ (∀ r ∈ p :: l, r.1 = q.1 ∧ Jn M0 r.2 q.2)
  | [], p, q, h, hp, hl => by
    simp only [jV, Option.some.injEq] at h
    subst h
    refine ⟨hp, fun r hr => ?_⟩
    rcases List.mem_cons.1 hr with rfl | hr
    · exact ⟨rfl, .refl _ _⟩
    · cases hr
  | r :: l, p, q, h, hp, hl => by
    simp only [jV] at h
    split at h
    · next e =>
      obtain ⟨j1, j2, j3⟩ := jM_jn hp (hl r (List.mem_cons_self ..))
      obtain ⟨k1, k2⟩ := jV_jn l _ q h j3 fun x hx => hl x (List.mem_cons_of_mem _ hx)
      have k0 := k2 _ (List.mem_cons_self ..)
      refine ⟨k1, fun x hx => ?_⟩
      rcases List.mem_cons.1 hx with rfl | hx
      · exact ⟨k0.1, j1.trans k0.2⟩
      · rcases List.mem_cons.1 hx with rfl | hx
        · exact ⟨(eqa_eq e).symm.trans k0.1, j2.trans k0.2⟩
        · exact k2 x (List.mem_cons_of_mem _ hx)
    · cases h
section
variable {B : World} {G : Nat} {cx : Cx} {hi : Nat} {s : At}
theorem RelM.weak {σ : Sg} {F F' : Fm} {W : World} (h : RelM B G σ F W) (hF : ∀ i x, F' i = some x → ∃ y, F i = some y ∧ Weak x y) : RelM B G σ F' W := by
  refine ⟨fun i x e => ?_, fun i j x y b f z b' f' z' e1 e2 => ?_, fun i x b f z hG e => ?_, h.base⟩
  · obtain ⟨y, h1, h2⟩ := hF i x e
    obtain ⟨b, f, z, o, q1, q2, q3⟩ := h.rep i y h1
    exact ⟨b, f, z, o, q1, q2, h2 σ f z o q3⟩
  · obtain ⟨x', h1, _⟩ := hF i x e1
    obtain ⟨y', h2, _⟩ := hF j y e2
    exact h.sep i j x' y' b f z b' f' z' h1 h2
  · obtain ⟨x', h1, _⟩ := hF i x e
    exact h.high i x' b f z hG h1
theorem Is.join {M0 a m : Mem} (h : Is B G cx a hi s) (hj : Jn M0 a m) (hl : LogOk cx m) (hn : m.next ≤ hi) (h0 : M0.next ≤ a.next) (hlo : cx.lo ≤ M0.next) : ∃ s', s'.W = s.W ∧ s'.σ = s.σ ∧ Is B G cx m hi s' ∧ To cx M0.next hi s s' := by
  have tops : ∀ i, m.next ≤ i → m.objs.get i = none := fun i q => by
    cases e : m.objs.get i with
    | none => rfl
    | some x =>
      obtain ⟨y, h1, _⟩ := hj.wk i x e
      rw [h.top i (Nat.le_trans hj.next q)] at h1
      cases h1
  have vis : ∀ i, ¬ (i < M0.next ∧ i ∉ m.wr) → cx.vis i := fun i q => by
    by_cases r : i ∈ m.wr
    · exact cx.seen i (hl.wr i r)
    · exact cx.seen i (cx.own i (by
        have : ¬ i < M0.next := fun x => q ⟨x, r⟩
        omega))
  let F' : Fm := fun i => if (i < M0.next ∧ i ∉ m.wr) ∨ m.next ≤ i then s.F i else m.objs.get i
  refine ⟨⟨s.σ, F', s.W⟩, rfl, rfl, ⟨h.rel.weak fun i x e => ?_, fun i h1 h2 => ?_, fun i h1 h2 => ?_, h.lo, Nat.le_trans h.gl hj.next, hn, h.gb, tops, Nat.le_trans h.ol hj.next⟩, ⟨.refl _, fun i q => ?_⟩⟩
  · show ∃ y, s.F i = some y ∧ _
    have e : (if (i < M0.next ∧ i ∉ m.wr) ∨ m.next ≤ i then s.F i else m.objs.get i) = some x := e
    split at e
    · exact ⟨x, e, .refl x⟩
    · next hc =>
      obtain ⟨y, h1, h2⟩ := hj.wk i x e
      have hv := vis i fun q => hc (.inl q)
      have hi' : i < a.next := by
        rcases Nat.lt_or_ge i a.next with q | q
        · exact q
        · rw [h.top i q] at h1
          cases h1
      exact ⟨y, by rw [h.vis i hv hi']; exact h1, h2⟩
  · show (if (i < M0.next ∧ i ∉ m.wr) ∨ m.next ≤ i then s.F i else m.objs.get i) = _
    split
    · next hc =>
      rcases hc with ⟨q1, q2⟩ | q
      · rw [hj.keep i q1 q2, h.vis i h1 (by omega)]
      · omega
    · rfl
  · show (if (i < M0.next ∧ i ∉ m.wr) ∨ m.next ≤ i then s.F i else m.objs.get i) = none ∧ _
    rw [if_pos (.inr h1)]
    exact h.fr i (Nat.le_trans hj.next h1) h2
  · show (if (i < M0.next ∧ i ∉ m.wr) ∨ m.next ≤ i then s.F i else m.objs.get i) = _ ∧ _
    refine ⟨?_, rfl⟩
    rcases q with ⟨q1, q2⟩ | q
    · rw [if_pos (.inl ⟨q2, fun x => q1 (hl.wr i x)⟩)]
    · rw [if_pos (.inr (Nat.le_trans hn q))]
end
end GrG
