/-
  Texts of one claim, merged.
-/
import Derived.Test.YtlflknfkenfpiaaGreatDoorR22
set_option linter.unusedSimpArgs false
set_option linter.unusedVariables false
namespace GrG
open Go Go.RowKit
section
variable {P : Program} {B : World} {E : Env} {self : Self} {cx : Cx} {M M' : Mem} {hi n : Nat} {s : At} {L : T AV} {a : Act}
theorem pv_in {y : Option AV} {v : AV} (h : (pv M y).In v M') : y = some v ∧ M' = M := by
  unfold pv at h
  split at h
  · obtain ⟨rfl, rfl⟩ := h
    exact ⟨rfl, rfl⟩
  · exact h.elim
theorem pm_in {y : OM} {v : AV} (h : (pm y).In v M') : y = some (v, M') := by
  unfold pm at h
  split at h
  · obtain ⟨rfl, rfl⟩ := h
    rfl
  · exact h.elim
theorem ps_in {y : Option Mem} {v : AV} (h : (ps y).In v M') : y = some M' ∧ v = .tup [] := by
  unfold ps at h
  split at h
  · obtain ⟨rfl, rfl⟩ := h
    exact ⟨rfl, rfl⟩
  · exact h.elim
theorem op_val {ro : Option Nat} {o : Oper} {Q : Exit → Act → World → Prop} {next : Act → World → Prop} {w W' : World} {q : Value} (hd : ∀ c, o.op ≠ .defer c) (hr : (execOp a.eval o).run P w = .ok (.value q) W') (hn : next (a.put o.dst q) W') : o.wpIn (fw ro) 0 P a w next Q := by
  refine ⟨fun _ _ => trivial, ?_⟩
  rw [Oper.semAt_eq _ _ _ hd, hr]
  exact hn
theorem op_skip {ro : Option Nat} {o : Oper} {Q : Exit → Act → World → Prop} {next : Act → World → Prop} {w W' : World} (hd : ∀ c, o.op ≠ .defer c) (hr : (execOp a.eval o).run P w = .ok .skip W') (hn : next (a.put o.dst undef) W') : o.wpIn (fw ro) 0 P a w next Q := by
  refine ⟨fun _ _ => trivial, ?_⟩
  rw [Oper.semAt_eq _ _ _ hd, hr]
  exact hn
def Nx (B : World) (G : Nat) (cx : Cx) (M : Mem) (hi : Nat) (s : At) (o : Oper) (a : Act) (next : Act → World → Prop) (v : AV) (M' : Mem) : Prop :=
  LogOk cx M' ∧ M'.next ≤ hi ∧ ∀ s' q, Is B G cx M' hi s' → To cx M.next hi s s' → VRel s'.σ v q → next (a.put o.dst q) s'.W
theorem op_pure {ro : Option Nat} {o : Oper} {Q : Exit → Act → World → Prop} {next : Act → World → Prop} {y : Option AV} {x : Sem Value} (hd : ∀ c, o.op ≠ .defer c) (hs : Is B E.ng cx M hi s) (he : execOp a.eval o = (do pure (.value (← x))))
    (h : (pv M y).All (Nx B E.ng cx M hi s o a next)) (hx : ∀ r, y = some r → ∃ q, VRel s.σ r q ∧ x.run P s.W = .ok q s.W) : o.wpIn (fw ro) 0 P a s.W next Q := by
  obtain ⟨v, M', hin⟩ := h.ex
  obtain ⟨rfl, rfl⟩ := pv_in hin
  obtain ⟨h1, h2, h3⟩ := h.all _ _ hin
  obtain ⟨q, q1, q2⟩ := hx v rfl
  exact op_val hd (by rw [he, Sem.run_bind, q2, Result.andThen_ok]; rfl) (h3 s q hs .refl q1)
theorem op_mem {ro : Option Nat} {o : Oper} {Q : Exit → Act → World → Prop} {next : Act → World → Prop} {y : OM} {x : Sem Value} (hd : ∀ c, o.op ≠ .defer c) (he : execOp a.eval o = (do pure (.value (← x))))
    (h : (pm y).All (Nx B E.ng cx M hi s o a next)) (hx : ∀ r M', y = some (r, M') → LogOk cx M' → M'.next ≤ hi → GoodV P B E.ng cx M M' hi s x r) : o.wpIn (fw ro) 0 P a s.W next Q := by
  obtain ⟨v, M', hin⟩ := h.ex
  have e := pm_in hin
  obtain ⟨h1, h2, h3⟩ := h.all _ _ hin
  obtain ⟨q, s', q1, q2, q3, q4⟩ := hx v M' e h1 h2
  exact op_val hd (by rw [he, Sem.run_bind, q1, Result.andThen_ok]; rfl) (h3 s' q q3 q4 q2)
theorem op_read {ro : Option Nat} {o : Oper} {Q : Exit → Act → World → Prop} {next : Act → World → Prop} {y : OM} {x : Sem Value} (hd : ∀ c, o.op ≠ .defer c) (hs : Is B E.ng cx M hi s) (he : execOp a.eval o = (do pure (.value (← x))))
    (h : (pm y).All (Nx B E.ng cx M hi s o a next)) (hx : ∀ r M', y = some (r, M') → LogOk cx M' → (M'.objs = M.objs ∧ M'.next = M.next) ∧ ∃ q, VRel s.σ r q ∧ x.run P s.W = .ok q s.W) : o.wpIn (fw ro) 0 P a s.W next Q :=
  op_mem hd he h fun r M' e hl _ => by
    obtain ⟨⟨e1, e2⟩, q, q1, q2⟩ := hx r M' e hl
    exact ⟨q, s, q2, q1, hs.logs e1 e2, .refl⟩
theorem op_unit {ro : Option Nat} {o : Oper} {Q : Exit → Act → World → Prop} {next : Act → World → Prop} {y : Option Mem} {x : Sem Unit} (hd : ∀ c, o.op ≠ .defer c) (he : execOp a.eval o = (do x; pure .skip))
    (h : (ps y).All (Nx B E.ng cx M hi s o a next)) (hx : ∀ M', y = some M' → LogOk cx M' → ∃ s', x.run P s.W = .ok () s'.W ∧ Is B E.ng cx M' hi s' ∧ To cx M.next hi s s') : o.wpIn (fw ro) 0 P a s.W next Q := by
  obtain ⟨v, M', hin⟩ := h.ex
  obtain ⟨e, rfl⟩ := ps_in hin
  obtain ⟨h1, h2, h3⟩ := h.all _ _ hin
  obtain ⟨s', q1, q2, q3⟩ := hx M' e h1
  exact op_skip hd (by rw [he, Sem.run_bind, q1, Result.andThen_ok]; rfl) (h3 s' undef q2 q3 (.tup .nil))
theorem emin_rel {σ : Sg} {x y r : AV} {u v : Value} (hx : VRel σ x u) (hy : VRel σ y v) (e : emin x y = some r) : ∃ q, VRel σ r q ∧ ∀ w, (Builtin.min2 u v).run P w = .ok q w := by
  unfold emin at e
  split at e
  · cases hx
    cases hy
    cases e
    refine ⟨_, .int _ _, fun w => ?_⟩
    simp only [Builtin.min2, run_pureS]
    congr 2
    simp only [ilt_eq]
    split
    · next h => rw [decide_eq_true h]
    · next h => rw [decide_eq_false h]
  · cases e
theorem emax_rel {σ : Sg} {x y r : AV} {u v : Value} (hx : VRel σ x u) (hy : VRel σ y v) (e : emax x y = some r) : ∃ q, VRel σ r q ∧ ∀ w, (Builtin.max2 u v).run P w = .ok q w := by
  unfold emax at e
  split at e
  · cases hx
    cases hy
    cases e
    refine ⟨_, .int _ _, fun w => ?_⟩
    simp only [Builtin.max2, run_pureS]
    congr 2
    simp only [ilt_eq]
    split
    · next h => rw [decide_eq_true h]
    · next h => rw [decide_eq_false h]
  · cases e
theorem foldA_rel {σ : Sg} {f : AV → AV → Option AV} {g : Value → Value → Sem Value} (hf : ∀ {x y r u v}, VRel σ x u → VRel σ y v → f x y = some r → ∃ q, VRel σ r q ∧ ∀ w, (g u v).run P w = .ok q w) : ∀ {l : List AV} {vs : List Value} {x r : AV} {u : Value}, VRel σ x u → LRel σ l vs → foldA f x l = some r → ∃ q, VRel σ r q ∧ ∀ w, (vs.foldlM g u).run P w = .ok q w
  | _, _, _, _, _, hx, .nil, e => by
    simp only [foldA, Option.some.injEq] at e
    subst e
    exact ⟨_, hx, fun w => rfl⟩
  | _, _, _, _, _, hx, .cons hy hl, e => by
    simp only [foldA] at e
    split at e
    · next e1 =>
      obtain ⟨q, q1, q2⟩ := hf hx hy e1
      obtain ⟨p, p1, p2⟩ := foldA_rel hf q1 hl e
      exact ⟨p, p1, fun w => by rw [List.foldlM_cons, Sem.run_bind, q2, Result.andThen_ok, p2]⟩
    · cases e
theorem oBlock_ok {ro : Option Nat} {o : Oper} {Q : Exit → Act → World → Prop} {next : Act → World → Prop} {l : List AV} {vs : Array Value} {t : Nat} {ty : Option Nat} (hd : ∀ c, o.op ≠ .defer c) (hs : Is B E.ng cx M hi s) (hv : LRel s.σ l vs.toList) (he : (execOp a.eval o).run P s.W = (do pure (.value (.pointer (some (← Go.newRow t vs)))) : Sem Next).run P s.W)
    (h : (oBlock ty M l).All (Nx B E.ng cx M hi s o a next)) (hty : ∀ u, ty = some u → t = u := by rintro _ ⟨⟩) : o.wpIn (fw ro) 0 P a s.W next Q := by
  obtain ⟨v, M', hin⟩ := h.ex
  obtain ⟨h1, h2, h3⟩ := h.all _ _ hin
  obtain ⟨rfl, rfl⟩ : v = .ptr (anew M (.row ty (T.ofA l))).1 0 ∧ M' = (anew M (.row ty (T.ofA l))).2 := hin
  obtain ⟨s', w1, w2, w3, w4⟩ := hs.new hv (anew_pair _ _) h2 t hty
  refine op_val hd (q := .pointer (some ⟨s.W.heap.size, 0, none⟩)) (W' := s'.W) ?_ (h3 s' _ w3 w4 ?_)
  · rw [he, Sem.run_bind, run_newRow, w1]
    rfl
  · have := VRel.ptr (o := 0) w2
    simpa using this
theorem cVal_ok (ro : Option Nat) (hE : EnvOk P E) (hS : SelfOk P B E self) (hs : Is B E.ng cx M hi s) {o : Oper} {Q : Exit → Act → World → Prop} {next : Act → World → Prop} {c : Call} (ho : o.op = .call c) {f : Operand} (hc : c.callee = .value f) {fa : AV} {l : List AV} (hf : VRel s.σ fa (a.eval f)) (hl : LRel s.σ l (c.args.map a.eval).toList)
    (h : (cVal fa l E self M).All (Nx B E.ng cx M hi s o a next)) : o.wpIn (fw ro) 0 P a s.W next Q := by
  have hd : ∀ c, o.op ≠ .defer c := fun c q => by rw [ho] at q; cases q
  refine ⟨fun _ _ => trivial, ?_⟩
  rw [Oper.semAt_eq _ _ _ hd]
  have he : execOp a.eval o = (do let d ← Deferred.ofValue (a.eval f) (c.args.map a.eval); invoke d.target d.args) := by
    simp only [execOp, ho, resolve, hc]
  rw [he]
  unfold cVal at h
  split at h
  · next g fi caps =>
    generalize hq : a.eval f = q at hf
    cases hf with
    | func hfi hcaps =>
      next us vs =>
      have hav := (hfi.app hl).app hcaps
      have harg : us.toArray ++ c.args.map a.eval ++ vs.toArray = (us ++ (c.args.map a.eval).toList ++ vs).toArray := by
        apply Array.toList_inj.1
        simp
      split at h
      · next fn ef =>
        obtain ⟨k1, k2, k3⟩ := hE.fns _ _ ef
        have hr : (do let d ← Deferred.ofValue (.func (.func g) us.toArray vs.toArray) (c.args.map a.eval); invoke d.target d.args : Sem Next).run P s.W = .ok (.enter g (us ++ (c.args.map a.eval).toList ++ vs).toArray) s.W := by
          rw [← harg]
          simp only [Deferred.ofValue, Sem.run_bind, run_pureS, Result.andThen_ok, invoke, callFunc, program, Sem.run, k1, k2, k3, Bool.false_eq_true, if_false]
        rw [hr]
        obtain ⟨_, _, hcall⟩ := evCallF_ok hE hS hs hav h
        refine ⟨(fun h => by cases h), (calls_fw hcall).mono fun e W' hR => ?_⟩
        cases e with
        | returned u =>
          obtain ⟨v, M', s', p1, rfl, p2, p3, p4⟩ := hR
          exact p1 s' u p3 p4 p2
        | panicked c => exact hR.elim
        | outgrown => exact hR.elim
      · split at h
        · next x ex =>
          obtain ⟨v, M', hin⟩ := h.ex
          have e := pm_in hin
          obtain ⟨h1, h2, h3⟩ := h.all _ _ hin
          obtain ⟨u, q1, q2⟩ := hE.exts _ _ ex B cx M M' hi s _ v _ e h1 hs hav
          have hr : (do let d ← Deferred.ofValue (.func (.func g) us.toArray vs.toArray) (c.args.map a.eval); invoke d.target d.args : Sem Next).run P s.W = .ok (.value u) s.W := by
            rw [← q2, ← harg]
            rfl
          rw [hr]
          obtain ⟨_, g2, g3⟩ := ext_gr e
          exact h3 s u (hs.logs g2 g3) .refl q1
        · exact absurd rfl h.is
  · next i =>
    generalize hq : a.eval f = q at hf
    cases hf with
    | yl hi' =>
      next b ff z =>
      obtain ⟨b', z', r, e1, e2, e3, e4⟩ := evRound_ok ro hS hs hl h
      rw [hi'] at e1
      cases e1
      rw [Array.toArray_toList] at e3 e4
      have hr : (do let d ← Deferred.ofValue (.func (.yield b) #[] #[]) (c.args.map a.eval); invoke d.target d.args : Sem Next).run P s.W = .ok (.round b r.fn ((r.params.zip (c.args.map a.eval)).foldl (fun tmps (t, a) => tmps.setIfInBounds t a) r.tmps) r.assign r.body) s.W := by
        have := run_yield (P := P) e2 e3
        simp only [Deferred.ofValue, Sem.run_bind, run_pureS, Result.andThen_ok, invoke]
        rw [← this]
        congr 1
        simp
      rw [hr]
      refine ⟨(fun h => by cases h), e4.mono fun e W' hR => ?_⟩
      cases e with
      | returned u =>
        obtain ⟨v, M', s', p1, rfl, p2, p3, p4⟩ := hR
        exact p1 s' u p3 p4 p2
      | panicked c => exact hR.elim
      | outgrown => exact hR.elim
  · exact absurd rfl h.is
theorem evOp_ok (ro : Option Nat) (hE : EnvOk P E) (hS : SelfOk P B E self) (hs : Is B E.ng cx M hi s) (hL : Loc s.σ L n a) {o : Oper} {Q : Exit → Act → World → Prop} {next : Act → World → Prop}
    (h : (evOp o.op E self L M).All (Nx B E.ng cx M hi s o a next)) : o.wpIn (fw ro) 0 P a s.W next Q := by
  have rel : ∀ {x v}, aev x E L = some v → VRel s.σ v (a.eval x) := fun h => aev_rel hL hs h
  have nope : ∀ {y : R1}, y = .no → y.All (Nx B E.ng cx M hi s o a next) → o.wpIn (fw ro) 0 P a s.W next Q := fun e h => absurd e h.is
  cases ho : o.op with
  | move x =>
    rw [ho] at h
    exact op_pure (x := pure (a.eval x)) (fun c q => by rw [ho] at q; cases q) hs (by simp [execOp, ho]) h fun r hr => ⟨_, rel hr, rfl⟩
  | assign x =>
    rw [ho] at h
    exact op_pure (x := pure (a.eval x)) (fun c q => by rw [ho] at q; cases q) hs (by simp [execOp, ho]) h fun r hr => ⟨_, rel hr, rfl⟩
  | pick c x y =>
    rw [ho] at h
    have h : (oPick c x y E self L M).All _ := h
    unfold oPick at h
    split at h
    · next ec =>
      have hc := rel ec
      generalize hq : a.eval c = q at hc
      cases hc
      exact op_pure (x := pure (a.eval x)) (fun c q => by rw [ho] at q; cases q) hs (by simp [execOp, ho, hq, asBool]) h fun r hr => ⟨_, rel hr, rfl⟩
    · next ec =>
      have hc := rel ec
      generalize hq : a.eval c = q at hc
      cases hc
      exact op_pure (x := pure (a.eval y)) (fun c q => by rw [ho] at q; cases q) hs (by simp [execOp, ho, hq, asBool]) h fun r hr => ⟨_, rel hr, rfl⟩
    · exact nope rfl h
  | alloc t =>
    rw [ho] at h
    have h : (oAlloc t E self L M).All _ := h
    unfold oAlloc at h
    split at h
    · next ty et =>
      obtain ⟨zv, z1, z2⟩ := facts_zero (hE.tys _ _ et) s.σ
      exact oBlock_ok (t := t) (fun c q => by rw [ho] at q; cases q) hs z1 (by simp only [execOp, ho, Instr.alloc, newVar, Sem.run_bind, z2, Result.andThen_ok, run_newRow, run_pureS]) h (fun _ h => by cases h; rfl)
    · exact nope rfl h
  | box t x =>
    rw [ho] at h
    have h : (oBox t x E self L M).All _ := h
    unfold oBox at h
    split at h
    · next v ev =>
      split at h
      · next hb => exact oBlock_ok (t := t) (fun c q => by rw [ho] at q; cases q) hs ((rel ev).cells hb) (by simp only [execOp, ho, Instr.box, newVar, Sem.run_bind, run_newRow, Result.andThen_ok, run_pureS]) h
      · exact nope rfl h
    · exact nope rfl h
  | build t parts =>
    rw [ho] at h
    have h : (oBuild t parts E self L M).All _ := h
    unfold oBuild at h
    split at h
    · next l el =>
      have hp := aevP_rel hL hs el
      exact op_pure (x := Instr.build t (parts.map fun (i, x) => (i, a.eval x))) (fun c q => by rw [ho] at q; cases q) hs (by simp only [execOp, ho]) h fun r hr => ebuild_sound hE (by simpa using hp) hr s.W
    · exact nope rfl h
  | buildSlice t len parts =>
    rw [ho] at h
    have h : (oBuildSlice t len parts E self L M).All _ := h
    unfold oBuildSlice at h
    split at h
    · next l el =>
      have hp := aevP_rel hL hs el
      exact op_mem (x := Instr.buildSlice t len (parts.map fun (i, x) => (i, a.eval x))) (fun c q => by rw [ho] at q; cases q) (by simp only [execOp, ho]) h fun r M' hr _ hh => ebs_sound hE hs (by simpa using hp) hr hh
    · exact nope rfl h
  | insert t m k x =>
    rw [ho] at h
    have h : (oMapUpdate t m k x E self L M).All _ := h
    unfold oMapUpdate at h
    split at h
    · next e1 e2 e3 => exact op_unit (x := Instr.mapUpdate t (a.eval m) (a.eval k) (a.eval x)) (fun c q => by rw [ho] at q; cases q) (by simp only [execOp, ho]) h fun M' e hl => emapUpdate_sound hE hs (rel e1) (rel e2) (rel e3) e hl
    · exact nope rfl h
  | load t x =>
    rw [ho] at h
    have h : (oLoad t x E self L M).All _ := h
    unfold oLoad at h
    split at h
    · next ty p et ep => exact op_read (x := Instr.loadAt t (a.eval x)) (fun c q => by rw [ho] at q; cases q) hs (by simp only [execOp, ho]) h fun r M' hr hl => ⟨(aload_logs hr).2, hs.load (hE.tys _ _ et) (rel ep) hr hl⟩
    · exact nope rfl h
  | store t x y =>
    rw [ho] at h
    have h : (oStore t x y E self L M).All _ := h
    unfold oStore at h
    split at h
    · next ty p v et ep ev => exact op_unit (x := Instr.storeAt t (a.eval x) (a.eval y)) (fun c q => by rw [ho] at q; cases q) (by simp only [execOp, ho]) h fun M' e hl => hs.store (hE.tys _ _ et) (rel ep) (rel ev) e hl
    · exact nope rfl h
  | ready g => rw [ho] at h; exact nope rfl h
  | waits g => rw [ho] at h; exact nope rfl h
  | nilCheck x =>
    rw [ho] at h
    have h : (oNilCheck x E self L M).All _ := h
    unfold oNilCheck at h
    split at h
    · next v ev =>
      obtain ⟨r, M', hin⟩ := h.ex
      obtain ⟨er, rfl⟩ := pv_in hin
      obtain ⟨q, q1, q2⟩ := enil_sound (P := P) (s := s) ho (rel ev) er
      exact op_val (fun c q => by rw [ho] at q; cases q) q2 ((h.all _ _ hin).2.2 s q hs .refl q1)
    · exact nope rfl h
  | binOp op t x y yt =>
    rw [ho] at h
    have h : (oBin op t x y yt E self L M).All _ := h
    unfold oBin at h
    split at h
    · next v w ev ew =>
      split at h
      · next r er =>
        obtain ⟨q, q1, q2⟩ := ebin_sound (P := P) hE (o := x) (p := y) (rel ev) (rel ew) er s.W
        refine op_val (fun c q => by rw [ho] at q; cases q) (q := q) (W' := s.W) ?_ ((h.all _ _ ⟨rfl, rfl⟩).2.2 s q hs .refl q1)
        have he : execOp a.eval o = (do let v ← (do eqGuard op t x y (a.eval x) (a.eval y); binOp op t (a.eval x) (a.eval y) : Sem Value); pure (.value v)) := by simp only [execOp, ho]
        rw [he, Sem.run_bind, q2, Result.andThen_ok]
        rfl
      · unfold binAny at h
        split at h
        · next hany hcmp =>
          have main : ∃ b, (do eqGuard op t x y (a.eval x) (a.eval y); binOp op t (a.eval x) (a.eval y) : Sem Value).run P s.W = .ok (.bool b) s.W := by
            have h1 := rel ev
            have h2 := rel ew
            have fin : ∀ (k l : IntKind) (p q : Int), Nat.beq (kn k) (kn l) = true → a.eval x = .int k p → a.eval y = .int l q → ∃ b, (do eqGuard op t x y (a.eval x) (a.eval y); binOp op t (a.eval x) (a.eval y) : Sem Value).run P s.W = .ok (.bool b) s.W := fun k l p q e e1 e2 => by
              obtain rfl := kn_inj e
              rw [e1, e2, guard_eq (by intro cs h; cases h) (by intro h; cases h)]
              cases op <;> first | (cases hcmp; done) | exact ⟨_, by simp [binOp, Op.intCmp, Sem.run_bind, run_pureS]; rfl⟩
            unfold isAny at hany
            split at hany
            · generalize hq1 : a.eval x = q1 at h1
              generalize hq2 : a.eval y = q2 at h2
              cases h1
              cases h2
              rw [hq1, hq2] at fin
              exact fin _ _ _ _ hany rfl rfl
            · generalize hq1 : a.eval x = q1 at h1
              generalize hq2 : a.eval y = q2 at h2
              cases h1
              cases h2
              rw [hq1, hq2] at fin
              exact fin _ _ _ _ hany rfl rfl
            · cases hany
          obtain ⟨b, hb⟩ := main
          have he : execOp a.eval o = (do let v ← (do eqGuard op t x y (a.eval x) (a.eval y); binOp op t (a.eval x) (a.eval y) : Sem Value); pure (.value v)) := by simp only [execOp, ho]
          refine op_val (fun c q => by rw [ho] at q; cases q) (q := .bool b) (W' := s.W) (by rw [he, Sem.run_bind, hb, Result.andThen_ok]; rfl) ?_
          cases b with
          | true => exact (h.all (.bool true) M (List.mem_cons_self ..)).2.2 s _ hs .refl (.bool _)
          | false => exact (h.all (.bool false) M (List.mem_cons_of_mem _ (List.mem_cons_self ..))).2.2 s _ hs .refl (.bool _)
        · exact nope rfl h
    · exact nope rfl h
  | unOp op t x =>
    rw [ho] at h
    have h : (oUn op t x E self L M).All _ := h
    unfold oUn at h
    split at h
    · next v ev => exact op_pure (x := Op.unary op (a.eval x)) (fun c q => by rw [ho] at q; cases q) hs (by simp only [execOp, ho]) h fun r hr => eun_sound (rel ev) hr s.W
    · exact nope rfl h
  | convert t u x =>
    rw [ho] at h
    have h : (oConv t u x E self L M).All _ := h
    unfold oConv at h
    split at h
    · next v ev =>
      split at h
      · next r0 er => exact op_pure (x := convert t u (a.eval x)) (fun c q => by rw [ho] at q; cases q) hs (by simp only [execOp, ho]) h fun r hr => (Option.some.inj hr) ▸ econv_sound hE (rel ev) er s.W
      · exact op_mem (x := convert t u (a.eval x)) (fun c q => by rw [ho] at q; cases q) (by simp only [execOp, ho]) h fun r M' hr hl hh => econvU_sound hE hs (rel ev) hr hl
    · exact nope rfl h
  | sliceToArrayPointer t x => rw [ho] at h; exact nope rfl h
  | makeInterface t x => rw [ho] at h; exact nope rfl h
  | makeFunc fn first cap =>
    rw [ho] at h
    have h : (oMakeFunc fn first cap E self L M).All _ := h
    unfold oMakeFunc at h
    split at h
    · next g m l em el _ =>
      have h1 := aevL_rel hL hs em
      have h2 := aevL_rel hL hs el
      refine op_val (fun c q => by rw [ho] at q; cases q) (q := .func (.func g) (first.map a.eval) (cap.map a.eval)) (W' := s.W) (by simp only [execOp, ho, Instr.makeFunc]; rfl) ((h.all _ _ ⟨rfl, rfl⟩).2.2 s _ hs .refl ?_)
      have := VRel.func (f := g) h1 h2
      have e1 : (first.map a.eval) = (first.toList.map a.eval).toArray := by apply Array.toList_inj.1; simp
      have e2 : (cap.map a.eval) = (cap.toList.map a.eval).toArray := by apply Array.toList_inj.1; simp
      rw [e1, e2]
      exact this
    · exact nope rfl h
  | makeMap t r =>
    rw [ho] at h
    have h : (oMakeMap t r E self L M).All _ := h
    unfold oMakeMap at h
    split at h
    · exact op_mem (x := Instr.makeMap t none) (fun c q => by rw [ho] at q; cases q) (by simp only [execOp, ho]; rfl) h fun r M' hr _ hh => emakeMap_sound hs hr hh
    · exact nope rfl h
  | makeChan t x => rw [ho] at h; exact nope rfl h
  | makeSlice t x y =>
    rw [ho] at h
    have h : (oMakeSlice t x y E self L M).All _ := h
    unfold oMakeSlice at h
    split at h
    · next v w ev ew => exact op_mem (x := Instr.makeSlice t (a.eval x) (a.eval y)) (fun c q => by rw [ho] at q; cases q) (by simp only [execOp, ho]) h fun r M' hr _ hh => emake_sound hE hs (rel ev) (rel ew) hr hh
    · exact nope rfl h
  | slice t x lo hi' mx =>
    rw [ho] at h
    have h : (oSlice t x lo hi' mx E self L M).All _ := h
    unfold oSlice at h
    split at h
    · next v l k ev el ek _ => exact op_pure (x := Instr.sliceAt t (a.eval x) (lo.map a.eval) (hi'.map a.eval) none) (fun c q => by rw [ho] at q; cases q) hs (by simp only [execOp, ho]; rfl) h fun r hr => esl_sound hE (rel ev) (aevO_rel hL hs el) (aevO_rel hL hs ek) hr s.W
    · exact nope rfl h
  | fieldAddr t x f =>
    rw [ho] at h
    have h : (oFieldAddr t x f E self L M).All _ := h
    unfold oFieldAddr at h
    split at h
    · next v ev => exact op_pure (x := Instr.fieldAt t (a.eval x) f) (fun c q => by rw [ho] at q; cases q) hs (by simp only [execOp, ho]) h fun r hr => efa_sound hE (rel ev) hr s.W
    · exact nope rfl h
  | field t x f =>
    rw [ho] at h
    have h : (oField t x f E self L M).All _ := h
    unfold oField at h
    split at h
    · next v ev => exact op_pure (x := Instr.field t (a.eval x) f) (fun c q => by rw [ho] at q; cases q) hs (by simp only [execOp, ho]) h fun r hr => efld_sound hE (rel ev) hr s.W
    · exact nope rfl h
  | indexAddr t x y =>
    rw [ho] at h
    have h : (oIndexAddr t x y E self L M).All _ := h
    unfold oIndexAddr at h
    split at h
    · next v w ev ew => exact op_pure (x := Instr.indexAt t (a.eval x) (a.eval y)) (fun c q => by rw [ho] at q; cases q) hs (by simp only [execOp, ho]) h fun r hr => eia_sound hE (rel ev) (rel ew) hr s.W
    · exact nope rfl h
  | index t x y =>
    rw [ho] at h
    have h : (oIndex t x y E self L M).All _ := h
    unfold oIndex at h
    split at h
    · next v w ev ew => exact op_pure (x := Instr.index t (a.eval x) (a.eval y)) (fun c q => by rw [ho] at q; cases q) hs (by simp only [execOp, ho]) h fun r hr => eidx_sound hE (rel ev) (rel ew) hr s.W
    · exact nope rfl h
  | lookup t x y ok =>
    rw [ho] at h
    have h : (oLookup t x y ok E self L M).All _ := h
    unfold oLookup at h
    split at h
    · next v w ev ew => exact op_read (x := Instr.lookup t (a.eval x) (a.eval y) ok) (fun c q => by rw [ho] at q; cases q) hs (by simp only [execOp, ho]) h fun r M' hr hl => ⟨(elookup_gr hr).2, elookup_sound hE hs (rel ev) (rel ew) hr hl⟩
    · exact nope rfl h
  | mapUpdate t m k x =>
    rw [ho] at h
    have h : (oMapUpdate t m k x E self L M).All _ := h
    unfold oMapUpdate at h
    split at h
    · next e1 e2 e3 => exact op_unit (x := Instr.mapUpdate t (a.eval m) (a.eval k) (a.eval x)) (fun c q => by rw [ho] at q; cases q) (by simp only [execOp, ho]) h fun M' e hl => emapUpdate_sound hE hs (rel e1) (rel e2) (rel e3) e hl
    · exact nope rfl h
  | mapEntry t x y =>
    rw [ho] at h
    have h : (oMapEntry t x y E self L M).All _ := h
    unfold oMapEntry at h
    split at h
    · next v w ev ew => exact op_mem (x := Instr.mapEntry t (a.eval x) (a.eval y)) (fun c q => by rw [ho] at q; cases q) (by simp only [execOp, ho]) h fun r M' hr hl hh => emapEntry_sound hE hs (rel ev) (rel ew) hr hl hh
    · exact nope rfl h
  | entryStore t m k x =>
    rw [ho] at h
    have h : (oEntryStore t m k x E self L M).All _ := h
    unfold oEntryStore at h
    split at h
    · next e1 e2 e3 => exact op_unit (x := Instr.entryStore t (a.eval m) (a.eval k) (a.eval x)) (fun c q => by rw [ho] at q; cases q) (by simp only [execOp, ho]) h fun M' e hl => eentryStore_sound hs (rel e1) (rel e2) (rel e3) e hl
    · exact nope rfl h
  | range t x =>
    rw [ho] at h
    have h : (oRange t x E self L M).All _ := h
    unfold oRange at h
    split at h
    · next v ev => exact op_mem (x := Instr.range t (a.eval x)) (fun c q => by rw [ho] at q; cases q) (by simp only [execOp, ho]) h fun r M' hr hl hh => erange_sound hE hs (rel ev) hr hl hh
    · exact nope rfl h
  | next x str =>
    rw [ho] at h
    have h : (oNext x str E self L M).All _ := h
    unfold oNext at h
    split at h
    · next v ev _ =>
      have main : ∀ l, enext M v = some l → (∀ p ∈ l, Nx B E.ng cx M hi s o a next p.1 p.2) → o.wpIn (fw ro) 0 P a s.W next Q := fun l e hl => by
        obtain ⟨p, hp, q, s', q1, q2, q3, q4⟩ := enext_sound (P := P) (ty := o.type) hs (rel ev) e fun p hp => ⟨(hl p hp).1, (hl p hp).2.1⟩
        refine op_val (fun c q => by rw [ho] at q; cases q) (q := q) (W' := s'.W) ?_ ((hl p hp).2.2 s' q q3 q4 q2)
        have he : execOp a.eval o = (do pure (.value (← Instr.next (a.eval x) false o.type))) := by simp only [execOp, ho]
        rw [he, Sem.run_bind, q1, Result.andThen_ok]
        rfl
      split at h
      · next p e =>
        refine main _ e fun q hq => ?_
        rcases List.mem_singleton.1 hq with rfl
        exact h.all _ _ ⟨rfl, rfl⟩
      · next l _ e => exact main l e fun q hq => h.all q.1 q.2 hq
      · exact nope rfl h
    · exact nope rfl h
  | entry x =>
    rw [ho] at h
    have h : (oEntry x E self L M).All _ := h
    unfold oEntry at h
    split at h
    · next v ev => exact op_read (x := Instr.entry (a.eval x)) (fun c q => by rw [ho] at q; cases q) hs (by simp only [execOp, ho]) h fun r M' hr hl => ⟨(eentry_gr hr).2, eentry_sound hs (rel ev) hr hl⟩
    · exact nope rfl h
  | typeAssert x t u ok => rw [ho] at h; exact nope rfl h
  | extract x i =>
    rw [ho] at h
    have h : (oExtract x i E self L M).All _ := h
    unfold oExtract at h
    split at h
    · next v ev => exact op_pure (x := Instr.extract (a.eval x) i) (fun c q => by rw [ho] at q; cases q) hs (by simp only [execOp, ho]) h fun r hr => eext_sound (rel ev) hr s.W
    · exact nope rfl h
  | call c =>
    rw [ho] at h
    have h : (oCall c E self L M).All _ := h
    unfold oCall at h
    split at h
    · next f hc =>
      split at h
      · next fa l ef el =>
        have hl := aevL_rel hL hs el
        exact cVal_ok ro hE hS hs ho hc (rel ef) (by simpa using hl) h
      · exact nope rfl h
    · next b hc =>
      split at h
      · next l el =>
        have hl := aevL_rel hL hs el
        have he : execOp a.eval o = builtin b c.argTypes o.type (c.args.map fun | .const _ => true | _ => false) (c.args.map a.eval) := by
          simp only [execOp, ho, resolve, hc]
          rfl
        have hd : ∀ c, o.op ≠ .defer c := fun c q => by rw [ho] at q; cases q
        have ha : c.args.map a.eval = (c.args.toList.map a.eval).toArray := by apply Array.toList_inj.1; simp
        rw [ha] at he
        generalize c.args.toList.map a.eval = vs at he hl
        have ht : c.argTypes = c.argTypes.toList.toArray := by simp
        rw [ht] at he
        generalize c.argTypes.toList = ts at he h
        have two : ∀ {x y : AV} {l : List Value}, LRel s.σ [x, y] l → ∃ u v, l = [u, v] ∧ VRel s.σ x u ∧ VRel s.σ y v := fun h => by
          cases h with
          | cons h1 h =>
            cases h with
            | cons h2 h =>
              cases h
              exact ⟨_, _, rfl, h1, h2⟩
        have one : ∀ {x : AV} {l : List Value}, LRel s.σ [x] l → ∃ u, l = [u] ∧ VRel s.σ x u := fun h => by
          cases h with
          | cons h1 h =>
            cases h
            exact ⟨_, rfl, h1⟩
        cases b <;> first
          | exact nope rfl h
          | (have h : (uLen ts _ E M).All _ := h
             unfold uLen at h
             split at h
             · obtain ⟨u, rfl, h1⟩ := one hl
               exact op_read hd hs he h fun r M' hr hl => ⟨(elen_gr hr).2, elen_sound hE hs h1 hr hl⟩
             · exact nope rfl h)
          | (have h : (uCap ts _ E M).All _ := h
             unfold uCap at h
             split at h
             · obtain ⟨u, rfl, h1⟩ := one hl
               exact op_read hd hs he h fun r M' hr hl => by
                 obtain ⟨e, q⟩ := ecap_sound (P := P) hE h1 hr s.W
                 exact ⟨⟨congrArg Mem.objs e, congrArg Mem.next e⟩, q⟩
             · exact nope rfl h)
          | (have h : (uAppend ts _ E M).All _ := h
             unfold uAppend at h
             split at h
             · obtain ⟨u, v, rfl, h1, h2⟩ := two hl
               exact op_mem hd he h fun r M' hr hl hh => eapp_sound hE hs h1 h2 hr hl hh
             · exact nope rfl h)
          | (have h : (uCopy ts _ E M).All _ := h
             unfold uCopy at h
             split at h
             · obtain ⟨u, v, rfl, h1, h2⟩ := two hl
               exact op_mem hd he h fun r M' hr hl hh => ecopy_sound hE hs h1 h2 hr hl
             · exact nope rfl h)
          | (have h : (uSliceData ts _ E M).All _ := h
             unfold uSliceData at h
             split at h
             · obtain ⟨u, rfl, h1⟩ := one hl
               exact op_pure hd hs he h fun r hr => eslData_sound h1 hr s.W
             · exact nope rfl h)
          | (have h : (uString ts _ E M).All _ := h
             unfold uString at h
             split at h
             · obtain ⟨u, v, rfl, h1, h2⟩ := two hl
               exact op_mem hd he h fun r M' hr hl hh => eustr_sound hE hs h1 h2 hr hl
             · exact nope rfl h)
          | (have h : (uMin ts _ E M).All _ := h
             unfold uMin at h
             split at h
             · cases hl with
               | cons h1 hl =>
                 exact op_pure hd hs he h fun r hr => by
                   obtain ⟨q, q1, q2⟩ := foldA_rel (P := P) (fun a b c => emin_rel a b c) h1 hl hr
                   exact ⟨q, q1, q2 _⟩
             · exact nope rfl h)
          | (have h : (uMax ts _ E M).All _ := h
             unfold uMax at h
             split at h
             · cases hl with
               | cons h1 hl =>
                 exact op_pure hd hs he h fun r hr => by
                   obtain ⟨q, q1, q2⟩ := foldA_rel (P := P) (fun a b c => emax_rel a b c) h1 hl hr
                   exact ⟨q, q1, q2 _⟩
             · exact nope rfl h)
      · exact nope rfl h
    · exact nope rfl h
  | go c => rw [ho] at h; exact nope rfl h
  | defer c =>
    rw [ho] at h
    have h : (oDefer c E self L M).All _ := h
    obtain ⟨v, M', hin⟩ := h.ex
    unfold oDefer at hin
    split at hin
    · split at hin
      · exact hin.elim
      · exact hin.elim
    · exact hin.elim
  | panic x => rw [ho] at h; exact nope rfl h
  | send x y => rw [ho] at h; exact nope rfl h
  | recv t x ok => rw [ho] at h; exact nope rfl h
  | select cs b => rw [ho] at h; exact nope rfl h
end
end GrG
