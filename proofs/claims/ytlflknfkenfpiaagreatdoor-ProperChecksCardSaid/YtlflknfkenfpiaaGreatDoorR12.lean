/-
  Texts of one claim, merged.
-/
import Derived.Test.YtlflknfkenfpiaaGreatDoorR11
import Derived.LoopNIn
import Derived.OrdersIn
import Derived.RangeFuncLeaves
set_option linter.unusedSimpArgs false
set_option linter.unusedVariables false
namespace GrG
open Go Go.RowKit
def XOk (P : Program) (G : Nat) (f : Nat) (x : Xk) : Prop := ∀ (B : World) (cx : Cx) (M M' : Mem) (hi : Nat) (s : At) (args : List AV) (r : AV) (vs : List Value), ext x args M = some (r, M') → LogOk cx M' → Is B G cx M hi s → LRel s.σ args vs →
  ∃ q, VRel s.σ r q ∧ (callFunc f vs.toArray).run P s.W = .ok (.value q) s.W
def fw (ro : Option Nat) : Fence := { Fence.wide with round := ro }
def Ret (B : World) (G : Nat) (cx : Cx) (M : Mem) (hi : Nat) (s : At) (p : AV → Mem → Prop) : Ending → World → Prop
  | .returned q, W' => ∃ v M' s', p v M' ∧ s'.W = W' ∧ VRel s'.σ v q ∧ Is B G cx M' hi s' ∧ To cx M.next hi s s'
  | _, _ => False
def EntOk (P : Program) (G : Nat) (n : Nat) (e : Ent) : Prop := ∀ (B : World) (cx : Cx) (M : Mem) (hi : Nat) (s : At) (f : Nat) (args : List AV) (vs : List Value), M.next = n → entUse e f args M = true → Is B G cx M hi s → LRel s.σ args vs → LogOk cx (entMem e M) → e.nx ≤ hi →
  CallsIn (fw none) 0 P f vs.toArray s.W (Ret B G cx M hi s fun v M' => v = e.v ∧ M' = entMem e M)
structure EnvOk (P : Program) (E : Env) : Prop where
  exts : ∀ f x, E.exts f = some x → XOk P E.ng f x
  fns : ∀ f fn, E.fns f = some fn → P.funcs[f]? = some fn ∧ (fn.name == "runtime.NumGoroutine") = false ∧ fn.body.isNone = false
  tys : ∀ t i, E.tys t = some i → facts P t = some i
  mixed : P.follows .mixedOrders = true
  lies : ∀ e o u, E.lies e o u = true → rowAt P (fun t => sameLayout P P.depth t u) P.depth e (o / P.cellsOf e + 1) o 1 = true
  orc : ∀ n e, E.orc.get n = some e → EntOk P E.ng n e
inductive DRel (σ : Sg) : List AV → List Deferred → Prop
  | nil : DRel σ [] []
  | fn {g : Nat} {caps l : List AV} {cs vs : List Value} {ds : List AV} {ws : List Deferred} : LRel σ caps cs → LRel σ l vs → DRel σ ds ws → DRel σ (.tup [.func g [] caps, .tup l] :: ds) ({ target := .fn (.func g) cs.toArray, args := vs.toArray } :: ws)
  | mark {r b : Nat} {ds : List AV} {ws : List Deferred} : Mk σ r b → DRel σ ds ws → DRel σ (.ptr r 0 :: ds) ({ target := .collected b, args := #[] } :: ws)
theorem DRel.mono {σ τ : Sg} (h : σ.le τ) : ∀ {l : List AV} {m : List Deferred}, DRel σ l m → DRel τ l m
  | _, _, .nil => .nil
  | _, _, .fn a b k => .fn (a.mono h) (b.mono h) (k.mono h)
  | _, _, .mark a k => .mark (a.mono h) (k.mono h)
def DAt (σ : Sg) : Option AV → List Deferred → Prop
  | none, ws => ws = []
  | some (.dl ds), ws => DRel σ ds ws
  | some _, _ => True
theorem DAt.mono {σ τ : Sg} (h : σ.le τ) {x : Option AV} {ws : List Deferred} (k : DAt σ x ws) : DAt τ x ws := by
  unfold DAt at *
  split at k
  · exact k
  · exact k.mono h
  · trivial
structure Loc (σ : Sg) (L : T AV) (n : Nat) (a : Act) : Prop where
  size : a.tmps.size = n
  val : ∀ t x, L.get t = some x → VRel σ x (a.tmps.getD t undef)
  dfr : DAt σ (L.get n) a.defers
theorem Loc.mono {σ τ : Sg} {L : T AV} {n : Nat} {a : Act} (h : Loc σ L n a) (k : σ.le τ) : Loc τ L n a := ⟨h.size, fun t x e => (h.val t x e).mono k, h.dfr.mono k⟩
theorem put_tmps_self {a : Act} {d n : Nat} {v : Value} (hs : a.tmps.size = n) (hd : d < n) : (a.put (some d) v).tmps.getD d undef = v := by
  simp only [Act.put, Array.getD_eq_getD_getElem?]
  rw [Array.getElem?_setIfInBounds_self_of_lt (by omega)]
  rfl
theorem put_tmps_ne {a : Act} {d t : Nat} {v : Value} (h : t ≠ d) : (a.put (some d) v).tmps.getD t undef = a.tmps.getD t undef := by
  simp only [Act.put, Array.getD_eq_getD_getElem?]
  rw [Array.getElem?_setIfInBounds_ne (Ne.symm h)]
theorem put_size {a : Act} {d : Option Nat} {v : Value} : (a.put d v).tmps.size = a.tmps.size := by cases d <;> simp [Act.put]
theorem put_dfr {a : Act} {d : Option Nat} {v : Value} : (a.put d v).defers = a.defers := by cases d <;> rfl
theorem Loc.put {σ : Sg} {L L' : T AV} {n : Nat} {a : Act} {d : Option Nat} {x : AV} {v : Value} (h : Loc σ L n a) (e : putL L n d x = some L') (hv : VRel σ x v) : Loc σ L' n (a.put d v) := by
  cases d with
  | none =>
    simp only [putL, Option.some.injEq] at e
    subst e
    exact h
  | some d =>
    simp only [putL] at e
    split at e
    · next e1 =>
      simp only [Option.some.injEq] at e
      subst e
      have e1 := blt_t e1
      refine ⟨by rw [put_size]; exact h.size, fun t y ht => ?_, ?_⟩
      · by_cases q : t = d
        · subst q
          rw [T.get_set_eq] at ht
          cases ht
          rw [put_tmps_self h.size e1]
          exact hv
        · rw [T.get_set_ne _ _ q] at ht
          rw [put_tmps_ne q]
          exact h.val t y ht
      · rw [T.get_set_ne _ _ (by omega), put_dfr]
        exact h.dfr
    · cases e
theorem Loc.less {σ : Sg} {L L' : T AV} {n : Nat} {a : Act} (h : Loc σ L n a) (h1 : ∀ t x, L'.get t = some x → L.get t = some x) (h2 : L'.get n = L.get n) : Loc σ L' n a := ⟨h.size, fun t x e => h.val t x (h1 t x e), by rw [h2]; exact h.dfr⟩
section
variable {P : Program} {B : World} {E : Env} {cx : Cx} {M : Mem} {hi : Nat} {s : At} {L : T AV} {n : Nat} {a : Act}
theorem aev_rel (h : Loc s.σ L n a) (hs : Is B E.ng cx M hi s) {x : Operand} {v : AV} (e : aev x E L = some v) : VRel s.σ v (a.eval x) := by
  cases x with
  | tmp t => exact h.val t v e
  | const u => exact ofConst_rel e
  | global g =>
    have e : aGlob g E L = some v := e
    simp only [aGlob] at e
    split at e
    · next e1 =>
      simp only [Option.some.injEq] at e
      subst e
      obtain ⟨z, hz⟩ := hs.gb g (blt_t e1)
      have := VRel.ptr (o := 0) hz
      rwa [Nat.add_zero] at this
    · cases e
  | func f =>
    have e : aFunc f E L = some v := e
    simp only [aFunc, Option.some.injEq] at e
    subst e
    exact .func .nil .nil
theorem aevL_rel (h : Loc s.σ L n a) (hs : Is B E.ng cx M hi s) : ∀ {l : List Operand} {vs : List AV}, aevL E L l = some vs → LRel s.σ vs (l.map a.eval)
  | [], vs, e => by
    simp only [aevL, Option.some.injEq] at e
    subst e
    exact .nil
  | x :: l, vs, e => by
    simp only [aevL] at e
    split at e
    · next e1 e2 =>
      simp only [Option.some.injEq] at e
      subst e
      exact .cons (aev_rel h hs e1) (aevL_rel h hs e2)
    · cases e
inductive ORl (σ : Sg) : Option AV → Option Value → Prop
  | none : ORl σ none none
  | some {a : AV} {v : Value} : VRel σ a v → ORl σ (some a) (some v)
theorem aevO_rel (h : Loc s.σ L n a) (hs : Is B E.ng cx M hi s) {x : Option Operand} {v : Option AV} (e : aevO E L x = some v) : ORl s.σ v (x.map a.eval) := by
  cases x with
  | none =>
    simp only [aevO, Option.some.injEq] at e
    subst e
    exact .none
  | some x =>
    simp only [aevO] at e
    split at e
    · next ev =>
      simp only [Option.some.injEq] at e
      subst e
      exact .some (aev_rel h hs ev)
    · cases e
inductive PRl (σ : Sg) : List (Nat × AV) → List (Nat × Value) → Prop
  | nil : PRl σ [] []
  | cons {i : Nat} {a : AV} {v : Value} {l : List (Nat × AV)} {m : List (Nat × Value)} : VRel σ a v → PRl σ l m → PRl σ ((i, a) :: l) ((i, v) :: m)
theorem aevP_rel (h : Loc s.σ L n a) (hs : Is B E.ng cx M hi s) : ∀ {l : List (Nat × Operand)} {vs : List (Nat × AV)}, aevP E L l = some vs → PRl s.σ vs (l.map fun (i, x) => (i, a.eval x))
  | [], vs, e => by
    simp only [aevP, Option.some.injEq] at e
    subst e
    exact .nil
  | (i, x) :: l, vs, e => by
    simp only [aevP] at e
    split at e
    · next e1 e2 =>
      simp only [Option.some.injEq] at e
      subst e
      exact .cons (aev_rel h hs e1) (aevP_rel h hs e2)
    · cases e
theorem enil_sound {x : AV} {o : Oper} {op : Operand} (ho : o.op = .nilCheck op) {r : AV} (hx : VRel s.σ x (a.eval op)) (e : enil x = some r) : ∃ v, VRel s.σ r v ∧ (execOp a.eval o).run P s.W = .ok (.value v) s.W := by
  have er : r = x ∧ isBad x = false ∧ x ≠ .nilp ∧ x ≠ .nili ∧ x ≠ .nilf := by
    unfold enil at e
    split at e
    · cases e
    · cases e
    · cases e
    · next h1 h2 h3 =>
      split at e
      · cases e
      · next h4 =>
        simp only [Option.some.injEq] at e
        exact ⟨e.symm, h4, h1, h2, h3⟩
  obtain ⟨rfl, hb, h1, h2, h3⟩ := er
  refine ⟨a.eval op, hx, ?_⟩
  simp only [execOp, ho]
  generalize a.eval op = y at hx
  cases hx <;> first | rfl | (cases hb; done) | exact absurd rfl h1 | exact absurd rfl h2 | exact absurd rfl h3
theorem facts_plain {t : Nat} {ty : TyI} (h : facts P t = some ty) : ty.plain = plainT P 6 t := by
  unfold facts at h
  split at h
  · split at h
    · split at h
      · simp only [Option.some.injEq] at h
        subst h
        rfl
      · cases h
    · cases h
  · cases h
theorem eeqK_in {t : Nat} {d : TypeDesc} (hd : ∀ w, (underlying t).run P w = .ok d w) (m : Nat) {σ : Sg} {x y : AV} {b : Bool} {u v : Value} {w : World} (hx : VRel σ x u) (hy : VRel σ y v) (e : eeqK (tkOf d) x y = some b) :
    (Op.equalIn (m + 1) t u v).run P w = .ok b w := by
  unfold eeqK at e
  rw [Op.equalIn]
  simp only [Sem.run_bind, hd, Result.andThen_ok]
  split at e
  all_goals first
    | (cases e; done)
    | (next hk =>
        simp only [Option.some.injEq] at e
        subst e
        cases d <;> simp only [tkOf, reduceCtorEq] at hk
        cases hx
        cases hy
        rfl)
theorem eeq_sound {t : Nat} {ty : TyI} (ht : facts P t = some ty) {σ : Sg} {x y : AV} {b : Bool} {u v : Value} (hx : VRel σ x u) (hy : VRel σ y v) (e : eeq ty x y = some b) (w : World) :
    (Op.equal t u v).run P w = .ok b w := by
  obtain ⟨d, e1, e2⟩ := facts_und ht
  unfold eeq at e
  split at e
  · next l m =>
    split at e
    · next ks hp ha =>
      split at e
      · next f1 f2 =>
        obtain ⟨d', f, z, q1, _⟩ := facts_all ht
        have ed : d' = d := by
          have := e2 w
          rw [run_underlying q1 w] at this
          cases this
          rfl
        subst ed
        cases hx
        next vs hl =>
        cases hy
        next us hm =>
        rw [facts_plain ht] at hp
        rw [e1] at ha
        exact equal_plain 6 t ks d' hp q1 10000 (by omega) σ l m vs us _ _ b hl hm f1 f2 e (by simp only [Form, ha, if_true]) (by simp only [Form, ha, if_true]) w
      · cases e
    · cases e
  · rw [e1] at e
    exact eeqK_in e2 9999 hx hy e
theorem guard_eq {op : BinOp} {t : Nat} {x y : Operand} {u v : Value} (h : ∀ cs, u ≠ .agg cs) (k : u ≠ .nilIface) : eqGuard op t x y u v = pure () := by
  unfold eqGuard
  split <;> first
    | (simp; done)
    | (simp only [Bool.not_true, Bool.false_eq_true, if_false]
       split
       · exact absurd rfl k
       · next cs _ => exact absurd rfl (h cs)
       · rfl)
theorem plain_guard : ∀ (k t m : Nat) (ks : List CK), plainT P k t = some ks → k ≤ m → P.eqGuardType m t = false
  | 0, t, m, ks, h, hm => by rw [plainT] at h; cases h
  | k + 1, t, 0, ks, h, hm => by omega
  | k + 1, t, m + 1, ks, h, hm => by
    rw [Program.eqGuardType]
    simp only [plainT] at h
    split at h
    · next e => rw [e]
    · next e => rw [e]
    · next e => rw [e]
    · next fs e =>
      rw [e]
      split at h
      · cases h
      · have go : ∀ (fs : List Field) (acc ks : List CK), plainGo P (plainT P k) fs acc = some ks → ∀ f ∈ fs, (f.name != "_" && P.eqGuardType m f.type) = false := by
          intro fs
          induction fs with
          | nil => intro acc ks _ f hf; cases hf
          | cons g fs ih =>
            intro acc ks hg f hf
            simp only [plainGo] at hg
            split at hg
            · next e3 _ =>
              split at hg
              · rcases List.mem_cons.1 hf with rfl | hf
                · rw [plain_guard k _ m _ e3 (by omega)]
                  simp
                · exact ih _ _ hg f hf
              · cases hg
            · cases hg
        have := go fs.toList [] ks h
        simp only [Array.any_eq_false']
        intro f hf
        have := this f (by simpa using hf)
        simpa using this
    · next n e' e =>
      rw [e]
      split at h
      · next e1 _ =>
        exact plain_guard k e' m _ e1 (by omega)
      · cases h
    · cases h
theorem guard_eeq {op : BinOp} {t : Nat} {ty : TyI} (ht : facts P t = some ty) {x y : Operand} {u v : Value} {b : Bool} {xa ya : AV} {σ : Sg} (hx : VRel σ xa u) (hy : VRel σ ya v) (e : eeq ty xa ya = some b) (w : World) : (eqGuard op t x y u v).run P w = .ok () w := by
  unfold eeq at e
  split at e
  · split at e
    · next ks hp ha =>
      cases hx
      cases hy
      rw [facts_plain ht] at hp
      have hg := plain_guard (P := P) 6 t P.depth ks hp (by unfold Program.depth Made.depth; omega)
      have hpr : (program).run P w = .ok P w := rfl
      cases op <;> simp [eqGuard, Sem.run_bind, hpr, hg, run_pureS]
    · cases e
  · rw [guard_eq]
    · rfl
    · rintro cs rfl
      unfold eeqK at e
      split at e <;> first | (cases e; done) | (cases hx; done)
    · rintro rfl
      unfold eeqK at e
      split at e <;> first | (cases e; done) | (cases hx; done)
theorem bin_eq (t : Nat) {ty : TyI} {u v : Value} {xa ya : AV} {σ : Sg} {b : Bool} (hx : VRel σ xa u) (hy : VRel σ ya v) (e : eeq ty xa ya = some b) :
    binOp .eql t u v = (do pure (.bool (← Op.equal t u v))) ∧ binOp .neq t u v = (do pure (.bool (!(← Op.equal t u v)))) := by
  unfold eeq at e
  split at e
  · cases hx
    cases hy
    exact ⟨rfl, rfl⟩
  · unfold eeqK at e
    split at e <;> first
      | (cases e; done)
      | (cases hx; cases hy; exact ⟨rfl, rfl⟩)
theorem tk_ptr {d : TypeDesc} {e : Nat} (h : TK.ptr e = tkOf d) : d = .pointer e := by
  cases d <;> simp only [tkOf, reduceCtorEq] at h
  cases h
  rfl
theorem ptrEq_sound (hE : EnvOk P E) {op : BinOp} {t i o j p : Nat} {r : AV} {u v : Value} {σ : Sg} (hx : VRel σ (.ptr i o) u) (hy : VRel σ (.ptr j p) v) (e : ptrEq E op t i o j p = some r) (w : World) :
    (∀ cs, u ≠ .agg cs) ∧ u ≠ .nilIface ∧ ∃ q, VRel σ r q ∧ (binOp op t u v).run P w = .ok q w := by
  unfold ptrEq at e
  split at e
  · next ty et =>
    obtain ⟨d, k1, r1⟩ := facts_und (hE.tys _ _ et)
    split at e
    · next el hk =>
      rw [k1] at hk
      obtain rfl := tk_ptr hk.symm
      split at e
      · next ey ee hi ho =>
        obtain rfl := beq_t hi
        obtain rfl := beq_t ho
        obtain ⟨b, f, z, rfl, hs⟩ := hx.ptr_inv
        obtain ⟨b', f', z', rfl, hs'⟩ := hy.ptr_inv
        rw [hs] at hs'
        cases hs'
        have h1 : (Op.equal t (.pointer (some ⟨b, f + o, none⟩)) (.pointer (some ⟨b, f + o, none⟩))).run P w = .ok true w := by
          unfold Op.equal
          show (Op.equalIn (9999 + 1) t _ _).run P w = _
          rw [Op.equalIn]
          simp only [Sem.run_bind, r1, Result.andThen_ok, facts_size (hE.tys _ _ ee)]
          split <;> simp [sameAddr, run_pureS]
        refine ⟨(fun cs h => by cases h), (fun h => by cases h), ?_⟩
        split at e
        · cases e
          exact ⟨_, .bool true, by rw [show binOp .eql t (.pointer (some ⟨b, f + o, none⟩)) (.pointer (some ⟨b, f + o, none⟩)) = (do pure (.bool (← Op.equal t (.pointer (some ⟨b, f + o, none⟩)) (.pointer (some ⟨b, f + o, none⟩)))) : Sem Value) from rfl, Sem.run_bind, h1, Result.andThen_ok, run_pureS]⟩
        · cases e
          exact ⟨_, .bool false, by rw [show binOp .neq t (.pointer (some ⟨b, f + o, none⟩)) (.pointer (some ⟨b, f + o, none⟩)) = (do pure (.bool (!(← Op.equal t (.pointer (some ⟨b, f + o, none⟩)) (.pointer (some ⟨b, f + o, none⟩))))) : Sem Value) from rfl, Sem.run_bind, h1, Result.andThen_ok, run_pureS]; rfl⟩
        · cases e
      · cases e
    · cases e
  · cases e
theorem memT_t {t : List Nat} : ∀ {l : List (List Nat)}, memT t l = true → t ∈ l
  | [], h => by cases h
  | a :: l, h => by
    unfold memT at h
    split at h
    · next e => rw [leq_iff.1 e]; exact List.mem_cons_self ..
    · exact List.mem_cons_of_mem _ (memT_t h)
theorem beq_swap (a b : List UInt8) : (a == b) = (b == a) := by
  rw [Bool.eq_iff_iff, beq_iff_eq, beq_iff_eq]
  exact ⟨Eq.symm, Eq.symm⟩
theorem ebN_sound {op : BinOp} {l : List (List Nat)} {x : List Nat} {r : AV} (h : ebN op l x = some r) {s : ByteArray} (hs : ∀ t ∈ l, (s.toList == (sB t).toList) = false) (t : Nat) (σ : Sg) :
    (∃ v, VRel σ r v ∧ binOp op t (.string s) (.string (sB x)) = pure v) ∧ ∃ v, VRel σ r v ∧ binOp op t (.string (sB x)) (.string s) = pure v := by
  unfold ebN at h
  split at h
  · next e =>
    have k := hs _ (memT_t e)
    have k' := (beq_swap (sB x).toList s.toList).trans k
    split at h
    · cases h
      exact ⟨⟨_, .bool _, by rw [binOp_string_eql, k]⟩, _, .bool _, by rw [binOp_string_eql, k']⟩
    · cases h
      exact ⟨⟨_, .bool _, by rw [binOp_string_neq, k]; rfl⟩, _, .bool _, by rw [binOp_string_neq, k']; rfl⟩
    · cases h
  · cases h
theorem ebin_sound (hE : EnvOk P E) {op : BinOp} {t : Nat} {x y r : AV} {u v : Value} {o p : Operand} {σ : Sg} (hx : VRel σ x u) (hy : VRel σ y v) (e : ebin E op t x y = some r) (w : World) :
    ∃ q, VRel σ r q ∧ (do eqGuard op t o p u v; binOp op t u v : Sem Value).run P w = .ok q w := by
  unfold ebin at e
  split at e
  · cases hx; cases hy
    rw [guard_eq (by intro cs h; cases h) (by intro h; cases h)]
    split at e
    · next ek =>
      obtain rfl := kn_inj ek
      cases hs : isSh op with
      | true =>
        obtain ⟨q, h1, h2⟩ := ebSh_sound (l := _) e hs t σ
        exact ⟨q, h1, by rw [Sem.run_bind, run_pureS, Result.andThen_ok, h2]; rfl⟩
      | false =>
        obtain ⟨q, h1, h2⟩ := ebI_sound e hs t σ
        exact ⟨q, h1, by rw [Sem.run_bind, run_pureS, Result.andThen_ok, h2]; rfl⟩
    · split at e
      · next hs =>
        obtain ⟨q, h1, h2⟩ := ebSh_sound e hs t σ
        exact ⟨q, h1, by rw [Sem.run_bind, run_pureS, Result.andThen_ok, h2]; rfl⟩
      · cases e
  · cases hx; cases hy
    next h1 h2 =>
    rw [guard_eq (by intro cs h; cases h) (by intro h; cases h)]
    obtain ⟨q, h1, h2⟩ := ebS_sound (P := P) e h1 h2 t σ w
    exact ⟨q, h1, by rw [Sem.run_bind, run_pureS, Result.andThen_ok, h2]⟩
  · cases hx; cases hy
    next hs _ =>
    rw [guard_eq (by intro cs h; cases h) (by intro h; cases h)]
    obtain ⟨q, h1, h2⟩ := (ebN_sound e hs t σ).1
    exact ⟨q, h1, by rw [Sem.run_bind, run_pureS, Result.andThen_ok, h2]; rfl⟩
  · cases hx; cases hy
    next _ hs =>
    rw [guard_eq (by intro cs h; cases h) (by intro h; cases h)]
    obtain ⟨q, h1, h2⟩ := (ebN_sound e hs t σ).2
    exact ⟨q, h1, by rw [Sem.run_bind, run_pureS, Result.andThen_ok, h2]; rfl⟩
  · next x n =>
    split at e
    · next b eb =>
      cases hx
      cases hy
      next c hc =>
      rw [guard_eq (by intro cs h; cases h) (by intro h; cases h)]
      unfold atl at eb
      split at eb
      · next m =>
        split at eb
        · next q =>
          have q := ble_t q
          simp only [Option.some.injEq] at eb
          subst eb
          simp only [ob, Option.some.injEq] at e
          subst e
          refine ⟨.bool false, .bool _, ?_⟩
          rw [Sem.run_bind, run_pureS, Result.andThen_ok]
          have : ¬ ((Int.ofNat m) > (Int.ofNat c)) := by simp; omega
          simp [binOp, Op.intCmp]
          omega
        · cases eb
      · next m =>
        split at eb
        · next q =>
          have q := ble_t q
          simp only [Option.some.injEq] at eb
          subst eb
          simp only [ob, Option.some.injEq] at e
          subst e
          refine ⟨.bool true, .bool _, ?_⟩
          rw [Sem.run_bind, run_pureS, Result.andThen_ok]
          simp [binOp, Op.intCmp]
          omega
        · cases eb
      · cases eb
    · cases e
  · next x n =>
    split at e
    · next b eb =>
      cases hx
      cases hy
      next c hc =>
      rw [guard_eq (by intro cs h; cases h) (by intro h; cases h)]
      unfold les at eb
      split at eb
      · next m =>
        split at eb
        · next q =>
          have q := ble_t q
          simp only [Option.some.injEq] at eb
          subst eb
          simp only [ob, Option.some.injEq] at e
          subst e
          refine ⟨.bool false, .bool _, ?_⟩
          rw [Sem.run_bind, run_pureS, Result.andThen_ok]
          simp [binOp, Op.intCmp]
          omega
        · cases eb
      · cases eb
    · cases e
  · obtain ⟨g1, g2, q, q1, q2⟩ := ptrEq_sound hE (op := op) hx hy e w
    exact ⟨q, q1, by rw [guard_eq g1 g2, Sem.run_bind, run_pureS, Result.andThen_ok, q2]⟩
  · split at e
    · next ty et =>
      have ht := hE.tys _ _ et
      split at e
      · next b eb =>
        rw [Sem.run_bind, guard_eeq ht hx hy eb w, Result.andThen_ok]
        have h1 := eeq_sound ht hx hy eb w
        have h2 := bin_eq t hx hy eb
        split at e
        · simp only [ob, Option.some.injEq] at e
          subst e
          exact ⟨_, .bool b, by rw [h2.1, Sem.run_bind, h1, Result.andThen_ok, run_pureS]⟩
        · simp only [ob, Option.some.injEq] at e
          subst e
          exact ⟨_, .bool _, by rw [h2.2, Sem.run_bind, h1, Result.andThen_ok, run_pureS]⟩
        · cases e
      · cases e
    · cases e
theorem eun_sound {op : UnOp} {x r : AV} {u : Value} {σ : Sg} (hx : VRel σ x u) (e : eun op x = some r) (w : World) : ∃ q, VRel σ r q ∧ (Op.unary op u).run P w = .ok q w := by
  cases op
  case neg =>
    simp only [eun, uNeg] at e
    split at e
    · simp only [oi, Option.some.injEq] at e
      subst e
      cases hx
      exact ⟨_, .int _ _, by
        rw [wr_eq, isub_eq]
        simp [Op.unary, Op.intArith]⟩
    · cases e
  case xor =>
    simp only [eun, uXor] at e
    split at e
    · next k x =>
      simp only [oi, Option.some.injEq] at e
      subst e
      cases hx
      refine ⟨_, .int _ _, ?_⟩
      have h1 : (BitVec.ofInt k.bits (if k.signed then -1 else k.max)).toNat = lim2 k - 1 := by
        rw [toNat_ofInt]
        cases k <;> rfl
      have h2 : wrN k (lim2 k - 1 - uk k x) = k.wrap ((BitVec.ofInt k.bits (if k.signed then -1 else k.max) ^^^ BitVec.ofInt k.bits x).toNat : Nat) := by
        have h3 : BitVec.ofInt k.bits (if k.signed then -1 else k.max) = BitVec.allOnes k.bits := by
          apply BitVec.eq_of_toNat_eq
          rw [h1, BitVec.toNat_allOnes, bits_lim]
        have h4 : BitVec.allOnes k.bits ^^^ BitVec.ofInt k.bits x = ~~~ (BitVec.ofInt k.bits x) := by
          rw [BitVec.allOnes_xor]
        rw [h3, h4, BitVec.toNat_not, toNat_ofInt, bits_lim]
        exact (wrap_nat k _ (by have := uk_lt k x; omega)).symm
      rw [h2]
      simp [Op.unary, Op.intBits]
    · cases e
  case not =>
    simp only [eun, uNot] at e
    split at e
    · simp only [ob, Option.some.injEq] at e
      subst e
      cases hx
      exact ⟨_, .bool _, by simp [Op.unary]⟩
    · cases e
  case plus => cases e
theorem econv_sound (hE : EnvOk P E) {src dst : Nat} {x r : AV} {u : Value} {σ : Sg} (hx : VRel σ x u) (e : econv E src dst x = some r) (w : World) : ∃ q, VRel σ r q ∧ (convert src dst u).run P w = .ok q w := by
  unfold econv at e
  split at e
  · next sy d e1 e2 =>
    obtain ⟨d1, k1, r1⟩ := facts_und (hE.tys _ _ e1)
    obtain ⟨d2, k2, r2⟩ := facts_und (hE.tys _ _ e2)
    unfold convert
    simp only [Sem.run_bind, r1, r2, Result.andThen_ok]
    split at e
    · next hk =>
      rw [k2] at hk
      obtain rfl := tk_int hk.symm
      simp only [oi, Option.some.injEq] at e
      subst e
      cases hx
      exact ⟨_, .int _ _, by cases d1 <;> simp [Conv.intToInt, wr_eq]⟩
    · next hk =>
      rw [k2] at hk
      obtain rfl := tk_str hk.symm
      simp only [Option.some.injEq] at e
      subst e
      cases hx
      next h =>
      exact ⟨_, .str _ h, by cases d1 <;> rfl⟩
    · cases e
  · cases e
theorem eext_sound {i : Nat} {x r : AV} {u : Value} {σ : Sg} (hx : VRel σ x u) (e : eext i x = some r) (w : World) : ∃ q, VRel σ r q ∧ (Instr.extract u i).run P w = .ok q w := by
  unfold eext at e
  split at e
  · cases hx
    next h =>
    obtain ⟨v, h1, h2⟩ := h.get e
    exact ⟨v, h2, by simp [Instr.extract, h1]⟩
  · cases e
end
end GrG
