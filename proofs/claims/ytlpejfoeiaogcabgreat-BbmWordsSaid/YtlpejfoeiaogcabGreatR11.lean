/-
  A MACHINE FOR CLOSED CALLS (second form), 11: values held against one another, cell by cell. No program in sight.
-/
import Derived.Test.YtlpejfoeiaogcabGreatR10
set_option linter.unusedSimpArgs false
set_option linter.unusedVariables false
namespace GrG
open Go Go.RowKit
theorem run_pureS {α : Type} (P : Program) (x : α) (w : World) : (pure x : Sem α).run P w = .ok x w := rfl
/-- a value's form by its type, and its cells -/
def Form (d : TypeDesc) (u : Value) (vs : List Value) : Prop := if (tkOf d).agg = true then u = .agg vs.toArray else vs = [u]
theorem part_sound {P : Program} {t : Nat} {f : TypeInfo} {d : TypeDesc} (hd : P.underlying t = some d) (hf : P.info? t = some f) {pre vs post : List Value} (hl : vs.length = f.size) (h1 : (tkOf d).agg = false → f.size = 1) (w : World) :
    ∃ u, (part t (pre ++ vs ++ post).toArray pre.length).run P w = .ok u w ∧ Form d u vs := by
  have hu : ∀ w, (underlying t).run P w = .ok d w := fun w => run_underlying hd w
  have hz : (Go.sizeOf t).run P w = .ok f.size w := by simp [Go.sizeOf, typeInfo, program, hf, Sem.run]
  have ha : (isAgg t).run P w = .ok (tkOf d).agg w := by
    unfold isAgg
    rw [Sem.run_bind, hu]
    cases d <;> rfl
  unfold part
  rw [Sem.run_bind, ha, Result.andThen_ok]
  cases e : (tkOf d).agg with
  | true =>
    refine ⟨.agg vs.toArray, ?_, by simp [Form, e]⟩
    simp only [if_true, Sem.run_bind, hz, Result.andThen_ok, run_pureS]
    congr 2
    apply Array.toList_inj.1
    simp [List.extract_eq_take_drop, hl.symm, Nat.add_sub_cancel_left]
  | false =>
    have := h1 e
    rw [this] at hl
    match vs, hl with
    | [v], _ =>
      refine ⟨v, ?_, by simp [Form, e]⟩
      simp
theorem fits_len : ∀ {ks : List CK} {l : List AV}, fits ks l = true → l.length = ks.length
  | [], [], _ => rfl
  | [], _ :: _, h => by cases h
  | _ :: _, [], h => by cases h
  | k :: ks, a :: l, h => by
    simp only [fits] at h
    split at h
    · simp [fits_len h]
    · cases h
theorem fits_app : ∀ {ks ms : List CK} {l : List AV}, fits (ks ++ ms) l = true → ∃ a b, l = a ++ b ∧ fits ks a = true ∧ fits ms b = true
  | [], ms, l, h => ⟨[], l, rfl, rfl, h⟩
  | k :: ks, ms, [], h => by cases h
  | k :: ks, ms, x :: l, h => by
    simp only [List.cons_append, fits] at h
    split at h
    · next e =>
      obtain ⟨a, b, rfl, h1, h2⟩ := fits_app h
      exact ⟨x :: a, b, rfl, by simp only [fits, e, h1], h2⟩
    · cases h
theorem peqL_app : ∀ {a a' b b' : List AV} {r : Bool}, a.length = a'.length → peqL (a ++ b) (a' ++ b') = some r → ∃ p q, peqL a a' = some p ∧ peqL b b' = some q ∧ r = (p && q)
  | [], [], b, b', r, _, h => ⟨true, r, rfl, h, by simp⟩
  | [], _ :: _, _, _, _, hl, _ => by cases hl
  | _ :: _, [], _, _, _, hl, _ => by cases hl
  | x :: a, y :: a', b, b', r, hl, h => by
    simp only [List.cons_append, peqL] at h
    split at h
    · next e =>
      obtain ⟨p, q, h1, h2, h3⟩ := peqL_app (by simpa using hl) h
      exact ⟨p, q, by simp only [peqL, e, h1], h2, h3⟩
    · next e =>
      split at h
      · next e2 =>
        simp only [Option.some.injEq] at h
        subst h
        obtain ⟨p, q, h1, h2, h3⟩ := peqL_app (by simpa using hl) e2
        exact ⟨false, q, by simp only [peqL, e, h1], h2, by simp⟩
      · cases h
    · cases h
theorem LRel.split {σ : Sg} : ∀ {a b : List AV} {vs : List Value}, LRel σ (a ++ b) vs → ∃ us ws, vs = us ++ ws ∧ LRel σ a us ∧ LRel σ b ws
  | [], b, vs, h => ⟨[], vs, rfl, .nil, h⟩
  | x :: a, b, _, .cons hx h => by
    obtain ⟨us, ws, rfl, h1, h2⟩ := LRel.split h
    exact ⟨_ :: us, ws, rfl, .cons hx h1, h2⟩
theorem plainT_und {P : Program} {k t : Nat} {ks : List CK} (h : plainT P (k + 1) t = some ks) : ∃ d, P.underlying t = some d ∧ ((tkOf d).agg = false → ks.length = 1) := by
  simp only [plainT] at h
  split at h
  · next e => simp only [Option.some.injEq] at h; subst h; exact ⟨_, e, fun _ => rfl⟩
  · next e => simp only [Option.some.injEq] at h; subst h; exact ⟨_, e, fun _ => rfl⟩
  · next e => simp only [Option.some.injEq] at h; subst h; exact ⟨_, e, fun _ => rfl⟩
  · next e => exact ⟨_, e, fun q => by cases q⟩
  · next e => exact ⟨_, e, fun q => by cases q⟩
  · cases h
theorem leq_iff : ∀ {s t : List Nat}, leq s t = true ↔ s = t
  | [], [] => by simp [leq]
  | [], _ :: _ => by simp [leq]
  | _ :: _, [] => by simp [leq]
  | a :: l, b :: m => by
    simp only [leq]
    cases e : Nat.beq a b with
    | true =>
      obtain rfl := beq_t e
      simp [leq_iff (s := l) (t := m)]
    | false =>
      have := beq_f e
      simp [this]
theorem sB_inj {s t : List Nat} (hs : ∀ x ∈ s, x < 256) (ht : ∀ x ∈ t, x < 256) (h : sB s = sB t) : s = t := by
  have := leq_eq s t hs ht
  have h2 : s.map UInt8.ofNat = t.map UInt8.ofNat := by rw [← sB_data s, h, sB_data t]
  rw [h2, beq_self_eq_true] at this
  exact leq_iff.1 this.symm
theorem sB_beq {s t : List Nat} (hs : ∀ x ∈ s, x < 256) (ht : ∀ x ∈ t, x < 256) : (sB s == sB t) = leq s t := by
  cases e : leq s t with
  | true =>
    obtain rfl := leq_iff.1 e
    show ((sB s).data == (sB s).data) = true
    exact beq_self_eq_true _
  | false =>
    have : ¬ (sB s).data = (sB t).data := fun q => by
      have := leq_iff.2 (sB_inj hs ht (ByteArray.ext q))
      rw [e] at this
      cases this
    show ((sB s).data == (sB t).data) = false
    exact beq_eq_false_iff_ne.2 this
def eqBody (m : Nat) (xs ys : Array Value) (f : Field) (_s : Option Bool × Unit) : Sem (ForInStep (Option Bool × Unit)) :=
  if f.name ≠ "_" then do
    if !(← Op.equalIn m f.type (← part f.type xs f.offset) (← part f.type ys f.offset)) then pure (ForInStep.done (some false, ()))
    else pure (ForInStep.yield (none, ()))
  else pure (ForInStep.yield (none, ()))
/-- what is shown of one level -/
def EqAt (P : Program) (k : Nat) : Prop := ∀ (t : Nat) (ks : List CK) (d : TypeDesc), plainT P k t = some ks → P.underlying t = some d → ∀ (m : Nat), k ≤ m → ∀ (σ : Sg) (l l' : List AV) (vs vs' : List Value) (u u' : Value) (b : Bool),
  LRel σ l vs → LRel σ l' vs' → fits ks l = true → fits ks l' = true → peqL l l' = some b → Form d u vs → Form d u' vs' → ∀ w, (Op.equalIn m t u u').run P w = .ok b w
theorem go_plain {P : Program} {k : Nat} (ih : EqAt P k) (m : Nat) (hm : k ≤ m) (σ : Sg) (w : World) : ∀ (fs : List Field) (acc ks : List CK), plainGo P (plainT P k) fs acc = some ks → ∃ ks', ks = acc ++ ks' ∧ ∀ (pl pl' vs vs' : List Value) (l l' : List AV) (b : Bool),
    pl.length = acc.length → pl'.length = acc.length → LRel σ l vs → LRel σ l' vs' → fits ks' l = true → fits ks' l' = true → peqL l l' = some b →
    (forIn fs ((none, ()) : Option Bool × Unit) (eqBody m (pl ++ vs).toArray (pl' ++ vs').toArray)).run P w = .ok (if b then (none, ()) else (some false, ())) w
  | [], acc, ks, h => by
    simp only [plainGo, Option.some.injEq] at h
    subst h
    refine ⟨[], by simp, fun pl pl' vs vs' l l' b h1 h2 h3 h4 h5 h6 h7 => ?_⟩
    cases l with
    | cons _ _ => cases h5
    | nil =>
      cases l' with
      | cons _ _ => cases h6
      | nil =>
        simp only [peqL, Option.some.injEq] at h7
        subst h7
        rfl
  | f :: fs, acc, ks, h => by
    simp only [plainGo] at h
    split at h
    · next ks1 i e1 e2 e3 e4 =>
      split at h
      · next e5 =>
        obtain ⟨ks2, hk, hq⟩ := go_plain ih m hm σ w fs (acc ++ ks1) ks h
        refine ⟨ks1 ++ ks2, by rw [hk, List.append_assoc], fun pl pl' vs vs' l l' b h1 h2 h3 h4 h5 h6 h7 => ?_⟩
        obtain ⟨la, lb, rfl, fa, fb⟩ := fits_app h5
        obtain ⟨la', lb', rfl, fa', fb'⟩ := fits_app h6
        obtain ⟨va, vb, rfl, ra, rb⟩ := h3.split
        obtain ⟨va', vb', rfl, ra', rb'⟩ := h4.split
        obtain ⟨p, q, pe, qe, rfl⟩ := peqL_app (by rw [fits_len fa, fits_len fa']) h7
        have hoff := beq_t e2
        have hsz := beq_t e5
        cases k with
        | zero => rw [plainT] at e3; cases e3
        | succ k =>
          obtain ⟨d, hd, hd1⟩ := plainT_und e3
          have s1 : (tkOf d).agg = false → i.size = 1 := fun q => by rw [hsz, hd1 q]
          obtain ⟨u, r1, g1⟩ := part_sound hd e4 (pre := pl) (vs := va) (post := vb) (by rw [← ra.length, fits_len fa, hsz]) s1 w
          obtain ⟨u', r2, g2⟩ := part_sound hd e4 (pre := pl') (vs := va') (post := vb') (by rw [← ra'.length, fits_len fa', hsz]) s1 w
          have r3 := ih f.type ks1 d e3 hd m hm σ la la' va va' u u' p ra ra' fa fa' pe g1 g2 w
          rw [h1, ← hoff] at r1
          rw [h2, ← hoff] at r2
          rw [List.append_assoc] at r1 r2
          have hn : (f.name ≠ "_") = True := by
            have : (f.name == "_") = false := e1
            simpa using this
          have hb : (eqBody m (pl ++ (va ++ vb)).toArray (pl' ++ (va' ++ vb')).toArray f (none, ())).run P w = .ok (if p then .yield (none, ()) else .done (some false, ())) w := by
            simp only [eqBody, hn, if_true, Sem.run_bind, r1, r2, r3, Result.andThen_ok]
            cases p <;> rfl
          rw [List.forIn_cons, Sem.run_bind, hb, Result.andThen_ok]
          cases p with
          | false => rfl
          | true =>
            have := hq (pl ++ va) (pl' ++ va') vb vb' lb lb' q (by rw [List.length_append, List.length_append, h1, ← ra.length, fits_len fa]) (by rw [List.length_append, List.length_append, h2, ← ra'.length, fits_len fa']) rb rb' fb fb' qe
            simp only [if_true, Bool.true_and]
            rw [← List.append_assoc, ← List.append_assoc]
            exact this
      · cases h
    · cases h
def eqBodyA (m e n : Nat) (xs ys : Array Value) (i : Nat) (_s : Option Bool × Unit) : Sem (ForInStep (Option Bool × Unit)) := do
  if !(← Op.equalIn m e (← part e xs (i * n)) (← part e ys (i * n))) then pure (ForInStep.done (some false, ()))
  else pure (ForInStep.yield (none, ()))
theorem arr_plain {P : Program} {k e : Nat} {ks : List CK} {f : TypeInfo} (ih : EqAt P k) (m : Nat) (hm : k ≤ m) (σ : Sg) (w : World) (he : plainT P k e = some ks) (hf : P.info? e = some f) (hs : f.size = ks.length) : ∀ (n i : Nat) (pl pl' vs vs' : List Value) (l l' : List AV) (b : Bool),
    pl.length = i * f.size → pl'.length = i * f.size → LRel σ l vs → LRel σ l' vs' → fits (List.replicate n ks).flatten l = true → fits (List.replicate n ks).flatten l' = true → peqL l l' = some b →
    (forIn (List.range' i n) ((none, ()) : Option Bool × Unit) (eqBodyA m e f.size (pl ++ vs).toArray (pl' ++ vs').toArray)).run P w = .ok (if b then (none, ()) else (some false, ())) w
  | 0, i, pl, pl', vs, vs', l, l', b, h1, h2, h3, h4, h5, h6, h7 => by
    simp only [List.replicate_zero, List.flatten_nil] at h5 h6
    cases l with
    | cons _ _ => cases h5
    | nil =>
      cases l' with
      | cons _ _ => cases h6
      | nil =>
        simp only [peqL, Option.some.injEq] at h7
        subst h7
        rfl
  | n + 1, i, pl, pl', vs, vs', l, l', b, h1, h2, h3, h4, h5, h6, h7 => by
    simp only [List.replicate_succ, List.flatten_cons] at h5 h6
    obtain ⟨la, lb, rfl, fa, fb⟩ := fits_app h5
    obtain ⟨la', lb', rfl, fa', fb'⟩ := fits_app h6
    obtain ⟨va, vb, rfl, ra, rb⟩ := h3.split
    obtain ⟨va', vb', rfl, ra', rb'⟩ := h4.split
    obtain ⟨p, q, pe, qe, rfl⟩ := peqL_app (by rw [fits_len fa, fits_len fa']) h7
    cases k with
    | zero => rw [plainT] at he; cases he
    | succ k =>
      obtain ⟨d, hd, hd1⟩ := plainT_und he
      have s1 : (tkOf d).agg = false → f.size = 1 := fun q => by rw [hs, hd1 q]
      obtain ⟨u, r1, g1⟩ := part_sound hd hf (pre := pl) (vs := va) (post := vb) (by rw [← ra.length, fits_len fa, hs]) s1 w
      obtain ⟨u', r2, g2⟩ := part_sound hd hf (pre := pl') (vs := va') (post := vb') (by rw [← ra'.length, fits_len fa', hs]) s1 w
      have r3 := ih e ks d he hd m hm σ la la' va va' u u' p ra ra' fa fa' pe g1 g2 w
      rw [h1] at r1
      rw [h2] at r2
      rw [List.append_assoc] at r1 r2
      have hb : (eqBodyA m e f.size (pl ++ (va ++ vb)).toArray (pl' ++ (va' ++ vb')).toArray i (none, ())).run P w = .ok (if p then .yield (none, ()) else .done (some false, ())) w := by
        simp only [eqBodyA, Sem.run_bind, r1, r2, r3, Result.andThen_ok]
        cases p <;> rfl
      rw [List.range'_succ, List.forIn_cons, Sem.run_bind, hb, Result.andThen_ok]
      cases p with
      | false => rfl
      | true =>
        have := arr_plain ih m hm σ w he hf hs n (i + 1) (pl ++ va) (pl' ++ va') vb vb' lb lb' q (by rw [List.length_append, h1, ← ra.length, fits_len fa, ← hs, Nat.add_mul]; omega) (by rw [List.length_append, h2, ← ra'.length, fits_len fa', ← hs, Nat.add_mul]; omega) rb rb' fb fb' qe
        simp only [if_true, Bool.true_and]
        rw [← List.append_assoc, ← List.append_assoc]
        exact this
theorem fit1_inv {k : CK} {l : List AV} (h : fits [k] l = true) : ∃ a, l = [a] ∧ fit1 k a = true := by
  match l, h with
  | [a], h =>
    simp only [fits] at h
    split at h
    · next e => exact ⟨a, rfl, e⟩
    · cases h
  | [], h => cases h
  | _ :: _ :: _, h =>
    simp only [fits] at h
    split at h <;> cases h
theorem peqL_one {a b : AV} {r : Bool} (h : peqL [a] [b] = some r) : peq a b = some r := by
  simp only [peqL] at h
  split at h
  · next e => rw [e]; exact h
  · next e => rw [e]; exact h
  · cases h
theorem equal_plain {P : Program} : ∀ k : Nat, EqAt P k
  | 0 => fun t ks d h => by rw [plainT] at h; cases h
  | k + 1 => fun t ks d h hd m hm σ l l' vs vs' u u' b r r' f f' pe g g' w => by
    have ih := equal_plain (P := P) k
    have hu : ∀ w, (underlying t).run P w = .ok d w := fun w => run_underlying hd w
    cases m with
    | zero => omega
    | succ m =>
    simp only [plainT, hd] at h
    rw [Op.equalIn]
    simp only [Sem.run_bind, hu, Result.andThen_ok]
    split at h
    · next e =>
      cases e
      simp only [Option.some.injEq] at h
      subst h
      obtain ⟨a, rfl, q⟩ := fit1_inv f
      obtain ⟨a', rfl, q'⟩ := fit1_inv f'
      cases a <;> first | (cases q; done) | skip
      cases a' <;> first | (cases q'; done) | skip
      simp only [Form, tkOf, TK.agg, Bool.false_eq_true, if_false] at g g'
      subst g
      subst g'
      cases r with
      | cons x y =>
        cases x
        cases y
        cases r' with
        | cons x' y' =>
          cases x'
          cases y'
          have := peqL_one pe
          simp only [peq, Option.some.injEq] at this
          subst this
          rfl
    · next i e =>
      cases e
      simp only [Option.some.injEq] at h
      subst h
      obtain ⟨a, rfl, q⟩ := fit1_inv f
      obtain ⟨a', rfl, q'⟩ := fit1_inv f'
      cases a <;> first | (cases q; done) | skip
      cases a' <;> first | (cases q'; done) | skip
      simp only [Form, tkOf, TK.agg, Bool.false_eq_true, if_false] at g g'
      subst g
      subst g'
      cases r with
      | cons x y =>
        cases x
        cases y
        cases r' with
        | cons x' y' =>
          cases x'
          cases y'
          have := peqL_one pe
          simp only [peq] at this
          split at this
          · next ek =>
            obtain rfl := kn_inj ek
            simp only [Option.some.injEq, ieq_eq] at this
            subst this
            simp
          · cases this
    · next e =>
      cases e
      simp only [Option.some.injEq] at h
      subst h
      obtain ⟨a, rfl, q⟩ := fit1_inv f
      obtain ⟨a', rfl, q'⟩ := fit1_inv f'
      cases a <;> first | (cases q; done) | skip
      cases a' <;> first | (cases q'; done) | skip
      simp only [Form, tkOf, TK.agg, Bool.false_eq_true, if_false] at g g'
      subst g
      subst g'
      cases r with
      | cons x y =>
        cases x
        next h1 =>
        cases y
        cases r' with
        | cons x' y' =>
          cases x'
          next h2 =>
          cases y'
          have := peqL_one pe
          simp only [peq, Option.some.injEq] at this
          subst this
          show (pure (sB _ == sB _) : Sem Bool).run P w = _
          rw [sB_beq h1 h2]
          rfl
    · next fs e =>
      cases e
      simp only [Form, tkOf, TK.agg, if_true] at g g'
      subst g
      subst g'
      split at h
      · cases h
      · next hst =>
        obtain ⟨ks', hk, hq⟩ := go_plain ih m (by omega) σ w fs.toList [] ks h
        have := hq [] [] vs vs' l l' b rfl rfl r r' (by rw [hk] at f; simpa using f) (by rw [hk] at f'; simpa using f') pe
        simp only [List.nil_append] at this
        have hp : (program).run P w = .ok P w := rfl
        simp only [hp, Result.andThen_ok, hst, Bool.false_eq_true, if_false, Sem.run_bind]
        rw [← Array.forIn_toList]
        have h2 : (forIn fs.toList ((none, ()) : Option Bool × Unit) (eqBody m vs.toArray vs'.toArray)).run P w = .ok (if b then (none, ()) else (some false, ())) w := this
        unfold eqBody at h2
        rw [h2, Result.andThen_ok]
        cases b <;> rfl
    · next n e' e =>
      cases e
      simp only [Form, tkOf, TK.agg, if_true] at g g'
      subst g
      subst g'
      split at h
      · next ks0 f0 e1 e2 =>
        split at h
        · next e3 =>
          simp only [Option.some.injEq] at h
          subst h
          have := arr_plain ih m (by omega) σ w e1 e2 (beq_t e3) n 0 [] [] vs vs' l l' b (by simp) (by simp) r r' f f' pe
          have hz : (Go.sizeOf e').run P w = .ok f0.size w := by simp [Go.sizeOf, typeInfo, program, e2, Sem.run]
          rw [Sem.run_bind, hz, Result.andThen_ok]
          simp only [Std.Legacy.Range.forIn_eq_forIn_range', Std.Legacy.Range.size, Nat.sub_zero, Nat.add_one_sub_one, Nat.div_one]
          simp only [List.nil_append] at this
          unfold eqBodyA at this
          rw [Sem.run_bind, this, Result.andThen_ok]
          cases b <;> rfl
        · cases h
      · cases h
    · cases h
end GrG
