/-
  Texts of one claim, merged.
-/
import Derived.Test.YtlflknfkenfpiaaGreatDoorR21
set_option linter.unusedSimpArgs false
set_option linter.unusedVariables false
namespace GrG
open Go Go.RowKit
def ckBody (em : Bool) (m : Nat) (xs : Array Value) (f : Field) (_s : PUnit) : Sem (ForInStep PUnit) :=
  if f.name ≠ "_" then do
    Instr.checkKey em m f.type (← part f.type xs f.offset)
    pure (ForInStep.yield PUnit.unit)
  else pure (ForInStep.yield PUnit.unit)
def CkAt (P : Program) (k : Nat) : Prop := ∀ (t : Nat) (ks : List CK) (d : TypeDesc), plainT P k t = some ks → P.underlying t = some d → ∀ (m : Nat), k ≤ m → ∀ (em : Bool) (σ : Sg) (l : List AV) (vs : List Value) (u : Value),
  LRel σ l vs → fits ks l = true → Form d u vs → ∀ w, (Instr.checkKey em m t u).run P w = .ok () w
theorem go_check {P : Program} {k : Nat} (ih : CkAt P k) (m : Nat) (hm : k ≤ m) (em : Bool) (σ : Sg) (w : World) : ∀ (fs : List Field) (acc ks : List CK), plainGo P (plainT P k) fs acc = some ks → ∃ ks', ks = acc ++ ks' ∧ ∀ (pl vs : List Value) (l : List AV),
    pl.length = acc.length → LRel σ l vs → fits ks' l = true →
    (forIn fs PUnit.unit (ckBody em m (pl ++ vs).toArray)).run P w = .ok PUnit.unit w
  | [], acc, ks, h => by
    simp only [plainGo, Option.some.injEq] at h
    subst h
    exact ⟨[], by simp, fun pl vs l h1 h3 h5 => rfl⟩
  | f :: fs, acc, ks, h => by
    simp only [plainGo] at h
    split at h
    · next ks1 i e1 e2 e3 e4 =>
      split at h
      · next e5 =>
        obtain ⟨ks2, hk, hq⟩ := go_check ih m hm em σ w fs (acc ++ ks1) ks h
        refine ⟨ks1 ++ ks2, by rw [hk, List.append_assoc], fun pl vs l h1 h3 h5 => ?_⟩
        obtain ⟨la, lb, rfl, fa, fb⟩ := fits_app h5
        obtain ⟨va, vb, rfl, ra, rb⟩ := h3.split
        have hoff := beq_t e2
        have hsz := beq_t e5
        cases k with
        | zero => rw [plainT] at e3; cases e3
        | succ k =>
          obtain ⟨d, hd, hd1⟩ := plainT_und e3
          have s1 : (tkOf d).agg = false → i.size = 1 := fun q => by rw [hsz, hd1 q]
          obtain ⟨u, r1, g1⟩ := part_sound hd e4 (pre := pl) (vs := va) (post := vb) (by rw [← ra.length, fits_len fa, hsz]) s1 w
          have r3 := ih f.type ks1 d e3 hd m hm em σ la va u ra fa g1 w
          rw [h1, ← hoff] at r1
          rw [List.append_assoc] at r1
          have hn : (f.name ≠ "_") = True := by
            have : (f.name == "_") = false := e1
            simpa using this
          have hb : (ckBody em m (pl ++ (va ++ vb)).toArray f PUnit.unit).run P w = .ok (.yield PUnit.unit) w := by
            simp only [ckBody, hn, if_true, Sem.run_bind, r1, r3, Result.andThen_ok]
            rfl
          rw [List.forIn_cons, Sem.run_bind, hb, Result.andThen_ok]
          have := hq (pl ++ va) vb lb (by rw [List.length_append, List.length_append, h1, ← ra.length, fits_len fa]) rb fb
          rw [← List.append_assoc]
          exact this
      · cases h
    · cases h
def ckBodyA (em : Bool) (m e : Nat) (xs : Array Value) (i : Nat) (_s : PUnit) : Sem (ForInStep PUnit) := do
  Instr.checkKey em m e (← part e xs (i * (← Go.sizeOf e)))
  pure (ForInStep.yield PUnit.unit)
theorem arr_check {P : Program} {k e : Nat} {ks : List CK} {f : TypeInfo} (ih : CkAt P k) (m : Nat) (hm : k ≤ m) (em : Bool) (σ : Sg) (w : World) (he : plainT P k e = some ks) (hf : P.info? e = some f) (hs : f.size = ks.length) : ∀ (n i : Nat) (pl vs : List Value) (l : List AV),
    pl.length = i * f.size → LRel σ l vs → fits (List.replicate n ks).flatten l = true →
    (forIn (List.range' i n) PUnit.unit (ckBodyA em m e (pl ++ vs).toArray)).run P w = .ok PUnit.unit w
  | 0, i, pl, vs, l, h1, h3, h5 => rfl
  | n + 1, i, pl, vs, l, h1, h3, h5 => by
    simp only [List.replicate_succ, List.flatten_cons] at h5
    obtain ⟨la, lb, rfl, fa, fb⟩ := fits_app h5
    obtain ⟨va, vb, rfl, ra, rb⟩ := h3.split
    cases k with
    | zero => rw [plainT] at he; cases he
    | succ k =>
      obtain ⟨d, hd, hd1⟩ := plainT_und he
      have s1 : (tkOf d).agg = false → f.size = 1 := fun q => by rw [hs, hd1 q]
      obtain ⟨u, r1, g1⟩ := part_sound hd hf (pre := pl) (vs := va) (post := vb) (by rw [← ra.length, fits_len fa, hs]) s1 w
      have r3 := ih e ks d he hd m hm em σ la va u ra fa g1 w
      rw [h1] at r1
      rw [List.append_assoc] at r1
      have hz : (Go.sizeOf e).run P w = .ok f.size w := by simp [Go.sizeOf, typeInfo, program, hf, Sem.run]
      have hb : (ckBodyA em m e (pl ++ (va ++ vb)).toArray i PUnit.unit).run P w = .ok (.yield PUnit.unit) w := by
        simp only [ckBodyA, Sem.run_bind, hz, r1, r3, Result.andThen_ok]
        rfl
      rw [List.range'_succ, List.forIn_cons, Sem.run_bind, hb, Result.andThen_ok]
      have := arr_check ih m hm em σ w he hf hs n (i + 1) (pl ++ va) vb lb (by rw [List.length_append, h1, ← ra.length, fits_len fa, ← hs, Nat.add_mul]; omega) rb fb
      rw [← List.append_assoc]
      exact this
theorem check_plain {P : Program} : ∀ k : Nat, CkAt P k
  | 0 => fun t ks d h => by rw [plainT] at h; cases h
  | k + 1 => fun t ks d h hd m hm em σ l vs u r f g w => by
    have ih := check_plain (P := P) k
    have hu : ∀ w, (underlying t).run P w = .ok d w := fun w => run_underlying hd w
    cases m with
    | zero => omega
    | succ m =>
    simp only [plainT, hd] at h
    rw [Instr.checkKey]
    simp only [Sem.run_bind, hu, Result.andThen_ok]
    split at h
    · next e => cases e; cases u <;> rfl
    · next i e => cases e; cases u <;> rfl
    · next e => cases e; cases u <;> rfl
    · next fs e =>
      cases e
      simp only [Form, tkOf, TK.agg, if_true] at g
      subst g
      split at h
      · cases h
      · next hst =>
        obtain ⟨ks', hk, hq⟩ := go_check ih m (by omega) em σ w fs.toList [] ks h
        have := hq [] vs l rfl r (by rw [hk] at f; simpa using f)
        simp only [List.nil_append] at this
        unfold ckBody at this
        rw [Array.forIn_toList] at this
        show ((forIn fs PUnit.unit _ : Sem PUnit) >>= fun _ => pure ()).run P w = _
        rw [Sem.run_bind, this]
        rfl
    · next n e' e =>
      cases e
      simp only [Form, tkOf, TK.agg, if_true] at g
      subst g
      split at h
      · next ks0 f0 e1 e2 =>
        split at h
        · next e3 =>
          simp only [Option.some.injEq] at h
          subst h
          have := arr_check ih m (by omega) em σ w e1 e2 (beq_t e3) n 0 [] vs l (by simp) r f
          simp only [Std.Legacy.Range.forIn_eq_forIn_range', Std.Legacy.Range.size, Nat.sub_zero, Nat.add_one_sub_one, Nat.div_one]
          simp only [List.nil_append] at this
          unfold ckBodyA at this
          show ((forIn (List.range' 0 n) PUnit.unit _ : Sem PUnit) >>= fun _ => pure ()).run P w = _
          rw [Sem.run_bind, this]
          rfl
        · cases h
      · cases h
    · cases h
end GrG
namespace GrG
open Go Go.RowKit
theorem ieq_t {a b : Int} (h : ieq a b = true) : a = b := by rw [ieq_eq] at h; simpa using h
theorem peq_t {a b : AV} (h : peq a b = some true) : a = b := by
  cases a <;> cases b <;> first | (cases h; done) | skip
  · simp only [peq, Option.some.injEq, beq_iff_eq] at h
    rw [h]
  · simp only [peq] at h
    split at h
    · next e =>
      obtain rfl := kn_inj e
      simp only [Option.some.injEq] at h
      rw [ieq_t h]
    · cases h
  · simp only [peq, Option.some.injEq] at h
    rw [leq_iff.1 h]
theorem peqL_t : ∀ {l m : List AV}, peqL l m = some true → l = m
  | [], [], _ => rfl
  | [], _ :: _, h => by cases h
  | _ :: _, [], h => by cases h
  | a :: l, b :: m, h => by
    simp only [peqL] at h
    split at h
    · next e => rw [peq_t e, peqL_t h]
    · split at h <;> cases h
    · cases h
theorem keq_agg (l m : List AV) : keq (.agg l) (.agg m) = peqL l m := rfl
theorem keq_t {a b : AV} (h : keq a b = some true) : a = b := by
  cases a <;> first
    | exact peq_t h
    | (cases b <;> first | (cases h; done) | (rw [keq_agg] at h; rw [peqL_t h]))
theorem leq_comm (s t : List Nat) : leq s t = leq t s := by
  cases h : leq s t with
  | true => rw [leq_iff.1 h, leq_iff.2 rfl]
  | false =>
    cases h2 : leq t s with
    | true => rw [leq_iff.1 h2, leq_iff.2 rfl] at h; cases h
    | false => rfl
theorem ieq_comm (a b : Int) : ieq a b = ieq b a := by
  rw [ieq_eq, ieq_eq]
  exact Bool.beq_comm
theorem peq_symm {a b : AV} {r : Bool} (h : peq a b = some r) : peq b a = some r := by
  cases a <;> cases b <;> first | (cases h; done) | skip
  · simp only [peq, Option.some.injEq] at h ⊢
    rw [← h]
    exact Bool.beq_comm
  · simp only [peq] at h ⊢
    split at h
    · next e =>
      obtain rfl := kn_inj e
      rw [e]
      simp only [Option.some.injEq] at h ⊢
      rw [← h, ieq_comm]
    · cases h
  · simp only [peq, Option.some.injEq] at h ⊢
    rw [← h, leq_comm]
theorem peqL_symm : ∀ {l m : List AV} {r : Bool}, peqL l m = some r → peqL m l = some r
  | [], [], _, h => h
  | [], _ :: _, _, h => by cases h
  | _ :: _, [], _, h => by cases h
  | a :: l, b :: m, r, h => by
    simp only [peqL] at h ⊢
    split at h
    · next e =>
      rw [peq_symm e]
      exact peqL_symm h
    · next e =>
      rw [peq_symm e]
      split at h
      · next e2 =>
        simp only
        rw [peqL_symm e2]
        exact h
      · cases h
    · cases h
theorem keq_symm {a b : AV} {r : Bool} (h : keq a b = some r) : keq b a = some r := by
  have p : ∀ {x y : AV}, peq x y = some r → keq x y = some r := fun {x y} q => by
    cases x <;> first | exact q | (cases y <;> cases q)
  cases a <;> first
    | exact p (peq_symm h)
    | (cases b <;> first | (cases h; done) | (rw [keq_agg] at h ⊢; exact peqL_symm h))
theorem fit1_peq {c : CK} {a b : AV} {r : Bool} (h : fit1 c a = true) (e : peq a b = some r) : fit1 c b = true := by
  cases a <;> cases b <;> first | (cases e; done) | skip
  · cases c <;> first | (cases h; done) | rfl
  · simp only [peq] at e
    split at e
    · next q =>
      obtain rfl := kn_inj q
      cases c <;> first | (cases h; done) | exact h
    · cases e
  · cases c <;> first | (cases h; done) | rfl
theorem fits_peqL : ∀ {ks : List CK} {l m : List AV} {r : Bool}, fits ks l = true → peqL l m = some r → fits ks m = true
  | [], [], [], _, _, _ => rfl
  | _, [], _ :: _, _, _, e => by cases e
  | _, _ :: _, [], _, _, e => by cases e
  | [], _ :: _, _, _, h, _ => by cases h
  | _ :: _, [], _, _, h, _ => by cases h
  | k :: ks, a :: l, b :: m, r, h, e => by
    simp only [fits] at h
    split at h
    · next q =>
      simp only [peqL] at e
      split at e
      · next e1 => simp only [fits, fit1_peq q e1]; exact fits_peqL h e
      · next e1 =>
        split at e
        · next e2 => simp only [fits, fit1_peq q e1]; exact fits_peqL h e2
        · cases e
      · cases e
    · cases h
theorem fits_val {σ τ : Sg} : ∀ {ks : List CK} {l : List AV} {vs us : List Value}, fits ks l = true → LRel σ l vs → LRel τ l us → vs = us
  | _, [], _, _, _, .nil, .nil => rfl
  | [], _ :: _, _, _, h, _, _ => by cases h
  | k :: ks, a :: l, _, _, h, .cons x r, .cons y q => by
    simp only [fits] at h
    split at h
    · next e =>
      rw [fits_val h r q]
      congr 1
      cases k <;> cases a <;> first | (cases e; done) | (cases x; cases y; rfl)
    · cases h
theorem bits_refl : ∀ {σ : Sg} {ks : List CK} {l : List AV} {vs : List Value} (n : Nat), fits ks l = true → LRel σ l vs → (vs.zip vs).all (fun p => Instr.sameBits n p.1 p.2) = true
  | _, _, [], _, _, _, .nil => rfl
  | _, [], _ :: _, _, _, h, _ => by cases h
  | _, k :: ks, a :: l, _, n, h, .cons x r => by
    simp only [fits] at h
    split at h
    · next e =>
      have ih := bits_refl n h r
      simp only [List.zip_cons_cons, List.all_cons, Bool.and_eq_true]
      refine ⟨?_, ih⟩
      have hs : ∀ b : ByteArray, (b == b) = true := fun b => (show (b.data == b.data) = true from beq_self_eq_true _)
      cases k <;> cases a <;> first | (cases e; done) | (cases x; cases n <;> simp [Instr.sameBits, hs])
    · cases h
structure KV (P : Program) (σ : Sg) (kt : Nat) (d : TypeDesc) (ks : List CK) (k : AV) (v : Value) (l : List AV) (vs : List Value) : Prop where
  pl : plainT P 6 kt = some ks
  und : P.underlying kt = some d
  rel : LRel σ l vs
  fit : fits ks l = true
  form : Form d v vs
  key : ((tkOf d).agg = true ∧ k = .agg l) ∨ ((tkOf d).agg = false ∧ l = [k])
theorem pkey_kv {P : Program} {σ : Sg} {kt : Nat} {ky : TyI} {k : AV} {v : Value} (hf : facts P kt = some ky) (hp : pkey ky k = true) (hv : VRel σ k v) : ∃ d ks l vs, KV P σ kt d ks k v l vs := by
  have hpl : ky.plain = plainT P 6 kt := facts_plain hf
  obtain ⟨d, f, z, e1, e2, e3, e4, e5, e6, e7⟩ := facts_all hf
  unfold pkey at hp
  split at hp
  · next ks ek =>
    rw [e5] at hp
    split at hp
    · next l ea =>
      obtain ⟨vs, rfl, hl⟩ := hv.agg_inv
      exact ⟨d, ks, l, vs, hpl ▸ ek, e1, hl, hp, by simp [Form, ea], .inl ⟨ea, rfl⟩⟩
    · cases hp
    · cases hp
    · next ea _ => exact ⟨d, ks, [_], [v], hpl ▸ ek, e1, .cons hv .nil, hp, by simp [Form, ea], .inr ⟨ea, rfl⟩⟩
  · cases hp
theorem keq_one {a b : AV} {r : Bool} (ha : ∀ l, a ≠ .agg l) (h : keq a b = some r) : peqL [a] [b] = some r := by
  have h : peq a b = some r := by
    cases a <;> first | exact h | exact absurd rfl (ha _)
  simp only [peqL, h]
  cases r <;> rfl
theorem fits_noagg {ks : List CK} {k : AV} (h : fits ks [k] = true) : ∀ l, k ≠ .agg l := by
  rintro l rfl
  cases ks with
  | nil => cases h
  | cons c ks => cases c <;> cases h
theorem KV.other {P : Program} {σ : Sg} {kt : Nat} {d : TypeDesc} {ks : List CK} {k k' : AV} {v v' : Value} {l : List AV} {vs : List Value} {r : Bool} (h : KV P σ kt d ks k v l vs) (e : keq k k' = some r) (hv : VRel σ k' v') :
    ∃ l' vs', KV P σ kt d ks k' v' l' vs' ∧ peqL l l' = some r := by
  rcases h.key with ⟨ha, rfl⟩ | ⟨ha, rfl⟩
  · cases k' <;> first | (cases e; done) | skip
    rename_i l'
    rw [keq_agg] at e
    obtain ⟨vs', rfl, hl⟩ := hv.agg_inv
    exact ⟨l', vs', ⟨h.pl, h.und, hl, fits_peqL h.fit e, by simp [Form, ha], .inl ⟨ha, rfl⟩⟩, e⟩
  · have e1 := keq_one (fits_noagg h.fit) e
    exact ⟨[k'], [v'], ⟨h.pl, h.und, .cons hv .nil, fits_peqL h.fit e1, by simp [Form, ha], .inr ⟨ha, rfl⟩⟩, e1⟩
theorem KV.equal {P : Program} {σ : Sg} {kt : Nat} {d : TypeDesc} {ks : List CK} {k k' : AV} {v v' : Value} {l l' : List AV} {vs vs' : List Value} {r : Bool} (h : KV P σ kt d ks k v l vs) (h' : KV P σ kt d ks k' v' l' vs') (e : peqL l l' = some r) (w : World) :
    (Op.equal kt v v').run P w = .ok r w := equal_plain 6 kt ks d h.pl h.und 10000 (by omega) σ l l' vs vs' v v' r h.rel h'.rel h.fit h'.fit e h.form h'.form w
theorem KV.check {P : Program} {σ : Sg} {kt : Nat} {d : TypeDesc} {ks : List CK} {k : AV} {v : Value} {l : List AV} {vs : List Value} (h : KV P σ kt d ks k v l vs) (em : Bool) (w : World) : (Instr.checkKey em 10000 kt v).run P w = .ok () w :=
  check_plain 6 kt ks d h.pl h.und 10000 (by omega) em σ l vs v h.rel h.fit h.form w
theorem fits_self : ∀ {ks : List CK} {l : List AV}, fits ks l = true → peqL l l = some true
  | _, [], _ => rfl
  | [], _ :: _, h => by cases h
  | c :: ks, a :: l, h => by
    simp only [fits] at h
    split at h
    · next e1 =>
      have : peq a a = some true := by
        cases c <;> cases a <;> first | (cases e1; done) | simp [peq, ieq_eq, leq_iff.2]
      simp only [peqL, this]
      exact fits_self h
    · cases h
theorem KV.self {P : Program} {σ : Sg} {kt : Nat} {d : TypeDesc} {ks : List CK} {k : AV} {v : Value} {l : List AV} {vs : List Value} (h : KV P σ kt d ks k v l vs) : keq k k = some true := by
  have := fits_self h.fit
  rcases h.key with ⟨_, rfl⟩ | ⟨_, rfl⟩
  · exact this
  · have h2 := peqL_one this
    have hn := fits_noagg h.fit
    cases k <;> first | exact h2 | exact absurd rfl (hn _)
theorem KV.stays {P : Program} {σ : Sg} {kt : Nat} {d : TypeDesc} {ks : List CK} {k : AV} {v v' : Value} {l l' : List AV} {vs vs' : List Value} (h : KV P σ kt d ks k v l vs) (h' : KV P σ kt d ks k v' l' vs') (w : World) : (Instr.keyThatStays v' v).run P w = .ok v w := by
  have hb : Instr.sameBits 10000 v' v = true := by
    have g := h.form
    have g' := h'.form
    rcases h.key with ⟨ha, rfl⟩ | ⟨ha, rfl⟩
    · rcases h'.key with ⟨_, e⟩ | ⟨ha', _⟩
      · cases e
        obtain rfl := fits_val h.fit h.rel h'.rel
        simp only [Form, ha, if_true] at g g'
        subst g
        subst g'
        have := bits_refl 9999 h.fit h.rel
        simp only [Instr.sameBits, beq_self_eq_true, Bool.true_and]
        exact this
      · rw [ha] at ha'
        cases ha'
    · rcases h'.key with ⟨ha', _⟩ | ⟨_, rfl⟩
      · rw [ha] at ha'
        cases ha'
      · obtain rfl := fits_val h.fit h.rel h'.rel
        simp only [Form, ha, Bool.false_eq_true, if_false] at g g'
        subst g
        cases g'
        have := bits_refl 10000 h.fit h.rel
        simpa using this
  unfold Instr.keyThatStays
  rw [hb]
  rfl
def fres (q : MapEntry → Bool) : List MapEntry → Nat → Option (Nat × Value)
  | [], _ => none
  | e :: l, i => if q e then some (i, e.val) else fres q l (i + 1)
theorem asking_run {P : Program} {kt : Nat} {v : Value} {q : MapEntry → Bool} (w : World) : ∀ (ws : List MapEntry) (i : Nat), (∀ x ∈ ws, (Op.equal kt v x.key).run P w = .ok (q x) w) → (Instr.findAsking kt v ws i).run P w = .ok (fres q ws i) w
  | [], _, _ => rfl
  | e :: l, i, h => by
    rw [Instr.findAsking, Sem.run_bind, h e (List.mem_cons_self ..), Result.andThen_ok, fres]
    cases q e with
    | true => rfl
    | false => exact asking_run w l (i + 1) fun x hx => h x (List.mem_cons_of_mem _ hx)
theorem now_run {P : Program} {kt : Nat} {d : TypeDesc} {v y : Value} {b : Bool} (hd : P.underlying kt = some d) (h : Instr.sameNow d v y = some b) (w : World) : (Op.equal kt v y).run P w = .ok b w := by
  unfold Op.equal Op.maxDepth
  rw [Op.equalIn]
  simp only [Sem.run_bind, run_underlying hd, Result.andThen_ok]
  cases d <;> cases v <;> cases y <;> simp only [Instr.sameNow, reduceCtorEq] at h
  · simp only [Option.some.injEq] at h; subst h; rfl
  · split at h
    · next e =>
      subst e
      simp only [Option.some.injEq] at h
      subst h
      simp
    · cases h
  · simp only [Option.some.injEq] at h; subst h; rfl
theorem findNow_run {P : Program} {kt : Nat} {d : TypeDesc} {v : Value} {q : MapEntry → Bool} (hd : P.underlying kt = some d) (w : World) : ∀ (ws : List MapEntry) (i : Nat) (r : Option (Nat × Value)), (∀ x ∈ ws, (Op.equal kt v x.key).run P w = .ok (q x) w) → Instr.findNow d v ws i = some r → r = fres q ws i
  | [], i, r, _, e => by
    simp only [Instr.findNow, Option.some.injEq] at e
    exact e.symm
  | x :: l, i, r, h, e => by
    have h0 := h x (List.mem_cons_self ..)
    simp only [Instr.findNow] at e
    split at e
    · next e1 =>
      rw [now_run hd e1 w] at h0
      simp only [Result.ok.injEq, and_true] at h0
      simp only [Option.some.injEq] at e
      rw [← e, fres, ← h0]
      rfl
    · next e1 =>
      rw [now_run hd e1 w] at h0
      simp only [Result.ok.injEq, and_true] at h0
      rw [fres, ← h0]
      exact findNow_run hd w l (i + 1) r (fun x hx => h x (List.mem_cons_of_mem _ hx)) e
    · cases e
theorem findKey_run {P : Program} {kt : Nat} {d : TypeDesc} {v : Value} {q : MapEntry → Bool} (hd : P.underlying kt = some d) (w : World) (ws : List MapEntry) (h : ∀ x ∈ ws, (Op.equal kt v x.key).run P w = .ok (q x) w) : (Instr.findKey kt v ws).run P w = .ok (fres q ws 0) w := by
  unfold Instr.findKey
  rw [Sem.run_bind, run_underlying hd, Result.andThen_ok]
  cases e : Instr.findNow d v ws 0 with
  | none => exact asking_run w ws 0 h
  | some r =>
    rw [findNow_run hd w ws 0 r h e]
    rfl
theorem fres_none {q : MapEntry → Bool} : ∀ {ws : List MapEntry} {i : Nat}, (∀ x ∈ ws, q x = false) → fres q ws i = none
  | [], _, _ => rfl
  | x :: l, i, h => by
    rw [fres, h x (List.mem_cons_self ..)]
    exact fres_none fun y hy => h y (List.mem_cons_of_mem _ hy)
theorem fres_some {q : MapEntry → Bool} {w0 : MapEntry} : ∀ {pre post : List MapEntry} {i : Nat}, (∀ x ∈ pre, q x = false) → q w0 = true → fres q (pre ++ w0 :: post) i = some (i + pre.length, w0.val)
  | [], post, i, _, h => by simp [fres, h]
  | x :: pre, post, i, h, h0 => by
    rw [List.cons_append, fres, h x (List.mem_cons_self ..)]
    simp only [Bool.false_eq_true, if_false]
    rw [fres_some (fun y hy => h y (List.mem_cons_of_mem _ hy)) h0]
    simp only [List.length_cons]
    congr 2
    omega
theorem mfind_none {k : AV} : ∀ {es : List En}, mfind k es = some none → ∀ e ∈ es, keq k e.key = some false
  | [], _, _, h => by cases h
  | x :: l, h, e, he => by
    simp only [mfind] at h
    split at h
    · cases h
    · next e1 =>
      rcases List.mem_cons.1 he with rfl | he
      · exact e1
      · exact mfind_none h e he
    · cases h
theorem mfind_some {k : AV} {e : En} : ∀ {es : List En}, mfind k es = some (some e) → ∃ pre post, es = pre ++ e :: post ∧ k = e.key ∧ ∀ x ∈ pre, keq k x.key = some false
  | [], h => by cases h
  | x :: l, h => by
    simp only [mfind] at h
    split at h
    · next e1 =>
      simp only [Option.some.injEq] at h
      subst h
      exact ⟨[], l, rfl, keq_t e1, fun _ h => by cases h⟩
    · next e1 =>
      obtain ⟨pre, post, rfl, h2, h3⟩ := mfind_some h
      exact ⟨x :: pre, post, rfl, h2, fun y hy => by
        rcases List.mem_cons.1 hy with rfl | hy
        · exact e1
        · exact h3 y hy⟩
    · cases h
theorem mput_at {e e0 : En} : ∀ {pre post : List En}, (∀ x ∈ pre, keq e.key x.key = some false) → keq e.key e0.key = some true → mput e (pre ++ e0 :: post) = pre ++ e :: post
  | [], post, _, h => by simp only [List.nil_append, mput, h]
  | x :: pre, post, h, h0 => by
    simp only [List.cons_append, mput, h x (List.mem_cons_self ..)]
    rw [mput_at (fun y hy => h y (List.mem_cons_of_mem _ hy)) h0]
theorem mins_at (e : En) : ∀ es : List En, ∃ a b, es = a ++ b ∧ mins e es = a ++ e :: b
  | [] => ⟨[], [], rfl, rfl⟩
  | x :: l => by
    simp only [mins]
    split
    · exact ⟨[], x :: l, rfl, rfl⟩
    · obtain ⟨a, b, h1, h2⟩ := mins_at e l
      exact ⟨x :: a, b, by rw [h1]; rfl, by rw [h2]; rfl⟩
theorem mlab_some {j : Nat} {e : En} : ∀ {es : List En}, mlab j es = some e → ∃ pre post, es = pre ++ e :: post ∧ e.lab = some j
  | [], h => by cases h
  | x :: l, h => by
    simp only [mlab] at h
    split at h
    · next i ei =>
      split at h
      · next e1 =>
        simp only [Option.some.injEq] at h
        subst h
        exact ⟨[], l, rfl, by rw [ei, beq_t e1]⟩
      · obtain ⟨pre, post, rfl, h2⟩ := mlab_some h
        exact ⟨x :: pre, post, rfl, h2⟩
    · obtain ⟨pre, post, rfl, h2⟩ := mlab_some h
      exact ⟨x :: pre, post, rfl, h2⟩
theorem ELRel.split {σ : Sg} : ∀ {a b : List En} {vs : List MapEntry}, ELRel σ (a ++ b) vs → ∃ us ws, vs = us ++ ws ∧ ELRel σ a us ∧ ELRel σ b ws
  | [], b, vs, h => ⟨[], vs, rfl, .nil, h⟩
  | x :: a, b, _, .cons hx h => by
    obtain ⟨us, ws, rfl, h1, h2⟩ := ELRel.split h
    exact ⟨_ :: us, ws, rfl, .cons hx h1, h2⟩
theorem ELRel.app {σ : Sg} : ∀ {a b : List En} {vs us : List MapEntry}, ELRel σ a vs → ELRel σ b us → ELRel σ (a ++ b) (vs ++ us)
  | _, _, _, _, .nil, k => k
  | _, _, _, _, .cons x h, k => .cons x (h.app k)
theorem ELRel.mem {σ : Sg} : ∀ {a : List En} {vs : List MapEntry}, ELRel σ a vs → ∀ w ∈ vs, ∃ e ∈ a, ERel σ e w
  | _, _, .nil, w, h => by cases h
  | _, _, .cons x k, w, h => by
    rcases List.mem_cons.1 h with rfl | h
    · exact ⟨_, List.mem_cons_self .., x⟩
    · obtain ⟨e, h1, h2⟩ := k.mem w h
      exact ⟨e, List.mem_cons_of_mem _ h1, h2⟩
structure Sp (σ : Sg) (pre post : List En) (e : En) (wpre wpost : List MapEntry) (w0 : MapEntry) : Prop where
  one : ERel σ e w0
  rest : ∃ us1 us2, (us1 ++ us2).Perm (wpre ++ wpost) ∧ ELRel σ pre us1 ∧ ELRel σ post us2
theorem MRel.at {σ : Sg} {pre post : List En} {e : En} {ck : Option Nat} {ws : List MapEntry} {clock : Nat} (h : MRel σ (pre ++ e :: post) ck ws clock) : ∃ wpre w0 wpost, ws = wpre ++ w0 :: wpost ∧ Sp σ pre post e wpre wpost w0 := by
  obtain ⟨vs, hp, hr⟩ := h.perm
  obtain ⟨u1, u2, rfl, r1, r2⟩ := hr.split
  cases r2 with
  | cons x r2 =>
    next w0 u2 =>
    have hm : w0 ∈ ws := hp.mem_iff.1 (by simp)
    obtain ⟨wpre, wpost, rfl⟩ := List.append_of_mem hm
    refine ⟨wpre, w0, wpost, rfl, x, u1, u2, ?_, r1, r2⟩
    exact List.Perm.cons_inv ((List.perm_middle.symm.trans hp).trans List.perm_middle)
theorem Sp.back {σ : Sg} {pre post : List En} {e e' : En} {wpre wpost : List MapEntry} {w0 w1 : MapEntry} (h : Sp σ pre post e wpre wpost w0) (h1 : ERel σ e' w1) : ∃ vs, vs.Perm (wpre ++ w1 :: wpost) ∧ ELRel σ (pre ++ e' :: post) vs := by
  obtain ⟨u1, u2, hp, r1, r2⟩ := h.rest
  exact ⟨u1 ++ w1 :: u2, (List.perm_middle.trans (hp.cons w1)).trans List.perm_middle.symm, r1.app (.cons h1 r2)⟩
theorem modify_mid {α : Type} (f : α → α) (a : α) : ∀ (pre post : List α), (pre ++ a :: post).modify pre.length f = pre ++ f a :: post
  | [], post => rfl
  | x :: pre, post => by
    simp only [List.cons_append, List.length_cons, List.modify_succ_cons]
    rw [modify_mid f a pre post]
theorem MRel.chg {σ : Sg} {pre post : List En} {e e' : En} {ck : Option Nat} {wpre wpost : List MapEntry} {w0 w1 : MapEntry} {clock : Nat} (h : MRel σ (pre ++ e :: post) ck (wpre ++ w0 :: wpost) clock) (hs : Sp σ pre post e wpre wpost w0) (hk : e'.key = e.key) (h1 : ERel σ e' w1) (hb : w1.born = w0.born) :
    MRel σ (pre ++ e' :: post) ck (wpre ++ w1 :: wpost) clock := by
  refine ⟨hs.back h1, ?_, ?_, fun w hw => ?_, h.ck⟩
  · have := h.keys
    rw [List.pairwise_append, List.pairwise_cons] at this ⊢
    refine ⟨this.1, ⟨fun x hx => by rw [hk]; exact this.2.1.1 x hx, this.2.1.2⟩, fun x hx y hy => ?_⟩
    rcases List.mem_cons.1 hy with rfl | hy
    · rw [hk]; exact this.2.2 x hx e (List.mem_cons_self ..)
    · exact this.2.2 x hx y (List.mem_cons_of_mem _ hy)
  · have := h.born
    rw [List.pairwise_append, List.pairwise_cons] at this ⊢
    refine ⟨this.1, ⟨fun x hx => by rw [hb]; exact this.2.1.1 x hx, this.2.1.2⟩, fun x hx y hy => ?_⟩
    rcases List.mem_cons.1 hy with rfl | hy
    · rw [hb]; exact this.2.2 x hx w0 (List.mem_cons_self ..)
    · exact this.2.2 x hx y (List.mem_cons_of_mem _ hy)
  · rcases List.mem_append.1 hw with hw | hw
    · exact h.old w (List.mem_append_left _ hw)
    · rcases List.mem_cons.1 hw with rfl | hw
      · rw [hb]; exact h.old w0 (by simp)
      · exact h.old w (by simp [hw])
theorem MRel.more {σ : Sg} {es : List En} {e : En} {ck : Option Nat} {ws : List MapEntry} {w1 : MapEntry} {clock : Nat} (h : MRel σ es ck ws clock) (hk : ∀ x ∈ es, keq e.key x.key = some false) (h1 : ERel σ e w1) (hb : w1.born = clock) :
    MRel σ (mins e es) none (ws ++ [w1]) (clock + 1) := by
  obtain ⟨a, b, rfl, hm⟩ := mins_at e es
  rw [hm]
  obtain ⟨vs, hp, hr⟩ := h.perm
  obtain ⟨u1, u2, rfl, r1, r2⟩ := hr.split
  refine ⟨⟨u1 ++ w1 :: u2, ?_, r1.app (.cons h1 r2)⟩, ?_, ?_, fun w hw => ?_, fun c q => by cases q⟩
  · exact (List.perm_middle.trans (hp.cons w1)).trans (List.perm_append_comm (l₁ := [w1]))
  · have := h.keys
    rw [List.pairwise_append] at this
    rw [List.pairwise_append, List.pairwise_cons]
    refine ⟨this.1, ⟨fun x hx => hk x (List.mem_append_right _ hx), this.2.1⟩, fun x hx y hy => ?_⟩
    rcases List.mem_cons.1 hy with rfl | hy
    · exact keq_symm (hk x (List.mem_append_left _ hx))
    · exact this.2.2 x hx y hy
  · rw [List.pairwise_append]
    refine ⟨h.born, List.pairwise_singleton _ _, fun x hx y hy => ?_⟩
    rcases List.mem_singleton.1 hy with rfl
    have := h.old x hx
    omega
  · rcases List.mem_append.1 hw with hw | hw
    · have := h.old w hw
      omega
    · rcases List.mem_singleton.1 hw with rfl
      omega
theorem MRel.find {P : Program} {σ : Sg} {kt : Nat} {d : TypeDesc} {ks : List CK} {k : AV} {v : Value} {l : List AV} {vs : List Value} (hk : KV P σ kt d ks k v l vs) {es : List En} {ck : Option Nat} {ws : List MapEntry} {clock : Nat} (h : MRel σ es ck ws clock) (w : World) :
    (mfind k es = some none → (Instr.findKey kt v ws).run P w = .ok none w) ∧
    (∀ e, mfind k es = some (some e) → ∃ pre post wpre w0 wpost, es = pre ++ e :: post ∧ ws = wpre ++ w0 :: wpost ∧ Sp σ pre post e wpre wpost w0 ∧ (Instr.findKey kt v ws).run P w = .ok (some (wpre.length, w0.val)) w ∧ k = e.key ∧ (∀ x ∈ pre, keq k x.key = some false) ∧ ∃ l' vs', KV P σ kt d ks k w0.key l' vs') := by
  have eqv : ∀ {e : En} {x : MapEntry} {r : Bool}, ERel σ e x → keq k e.key = some r → (Op.equal kt v x.key).run P w = .ok r w := fun {e x r} he hq => by
    obtain ⟨l', vs', h1, h2⟩ := hk.other hq he.key
    exact hk.equal h1 h2 w
  refine ⟨fun hn => ?_, fun e he => ?_⟩
  · have hf := mfind_none hn
    rw [findKey_run (q := fun _ => false) hk.und w ws fun x hx => ?_, fres_none fun _ _ => rfl]
    obtain ⟨us, hp, hr⟩ := h.perm
    obtain ⟨e, h1, h2⟩ := hr.mem x (hp.mem_iff.2 hx)
    exact eqv h2 (hf e h1)
  · obtain ⟨pre, post, rfl, hke, hpre⟩ := mfind_some he
    obtain ⟨wpre, w0, wpost, rfl, hsp⟩ := h.at
    have hpost : ∀ x ∈ post, keq k x.key = some false := fun x hx => by
      have := h.keys
      rw [List.pairwise_append, List.pairwise_cons] at this
      rw [hke]
      exact this.2.1.1 x hx
    have self : keq k e.key = some true := by
      rw [← hke]
      exact hk.self
    classical
    refine ⟨pre, post, wpre, w0, wpost, rfl, rfl, hsp, ?_, hke, hpre, ?_⟩
    · have r0 := eqv hsp.one self
      have rr : ∀ x ∈ wpre ++ wpost, (Op.equal kt v x.key).run P w = .ok false w := fun x hx => by
        obtain ⟨u1, u2, hp, r1, r2⟩ := hsp.rest
        have := hp.mem_iff.2 hx
        rcases List.mem_append.1 this with hm | hm
        · obtain ⟨y, h1, h2⟩ := r1.mem x hm
          exact eqv h2 (hpre y h1)
        · obtain ⟨y, h1, h2⟩ := r2.mem x hm
          exact eqv h2 (hpost y h1)
      have hall : ∀ x ∈ wpre ++ w0 :: wpost, (Op.equal kt v x.key).run P w = .ok (decide ((Op.equal kt v x.key).run P w = .ok true w)) w := fun x hx => by
        rcases List.mem_append.1 hx with hx | hx
        · rw [rr x (List.mem_append_left _ hx)]; simp
        · rcases List.mem_cons.1 hx with rfl | hx
          · rw [r0]; simp
          · rw [rr x (List.mem_append_right _ hx)]; simp
      rw [findKey_run hk.und w _ hall, fres_some (fun x hx => by rw [rr x (List.mem_append_left _ hx)]; simp) (by rw [r0]; simp)]
      simp
    · obtain ⟨l', vs', h1, _⟩ := hk.other self hsp.one.key
      exact ⟨l', vs', hke ▸ h1⟩
end GrG
