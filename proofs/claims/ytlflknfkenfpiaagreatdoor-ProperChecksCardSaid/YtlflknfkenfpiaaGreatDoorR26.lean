/-
  Texts of one claim, merged.
-/
import Derived.Test.YtlflknfkenfpiaaGreatDoorR2d
import Derived.Scope
set_option linter.unusedSimpArgs false
set_option linter.unusedVariables false
namespace GrG
open Go Go.RowKit
section
variable {P : Program} {b : Frame} {a : Act} {k : List Item} {cs : List Frame} {w : World} {F : Fence} {n : Nat} {Q : Exit → Act → World → Prop}
theorem stepR_scope {c : Code} : step P (lone (b.atR a (.code (.scope c) :: k)) cs w) = .next (lone (b.atR a (.code c :: .inScope c :: k)) cs w) :=
  step_lone_go (by simp [stepG, stepG.exec, Frame.atR])
theorem stepR_inScope {c : Code} : step P (lone (b.atR a (.inScope c :: k)) cs w) = .next (lone (b.atR a k) cs w) :=
  step_lone_go (by simp [stepG, stepG.exec, Frame.atR])
theorem wpIn_scope {c : Code} (h : c.wpIn F n P (Exit.noGoto Q) a w) : (Code.scope c).wpIn F n P Q a w := by
  intro b k cs hro hb hr
  have h0 : (lone (b.atR a (.code (.scope c) :: k)) cs w).fenced P F := fenced_calm hb hr rfl
  obtain ⟨e, a1, w1, hq, harr⟩ := h b (.inScope c :: k) cs hro hb hr
  cases e with
  | normal => exact ⟨.normal, a1, w1, hq, .head h0 stepR_scope (StepsIn.trans harr (.one (fenced_calm hb hr rfl) stepR_inScope))⟩
  | exit id =>
    have hx : exitTo id (.inScope c :: k) = exitTo id k := by simp [exitTo]
    exact ⟨.exit id, a1, w1, hq, fun k' hk => .head h0 stepR_scope (harr.1 k' (by rw [hx]; exact hk)), fun hr' hk => let ⟨k1, h1, h2⟩ := harr.2 hr' (by rw [hx]; exact hk); ⟨k1, h1, .head h0 stepR_scope h2⟩⟩
  | goto l => exact hq.elim
  | ret => exact ⟨_, a1, w1, hq, .of_steps (.one h0 stepR_scope) harr⟩
  | panic ch => exact ⟨_, a1, w1, hq, .of_steps (.one h0 stepR_scope) harr⟩
  | outgrown => exact ⟨_, a1, w1, hq, .of_steps (.one h0 stepR_scope) harr⟩
end
section
variable {P : Program} {B : World} {E : Env} {self : Self} {cx : Cx} {M M' : Mem} {hi n : Nat} {s : At} {L : T AV} {a : Act}
theorem evDraw_in {ops : Array Oper} {x : Ex} {L' : T AV} (h : (evDraw E self n ops L M).In x L' M') : backs ops.toList = true ∧ ∃ M1 rs, evD E self n ops (bits ops.toList) ops.toList 0 ops.toList L M [] = some (L', M1, rs) ∧ x = .normal ∧
    M' = ⟨M1.objs, M1.next, once (catR M.next rs).1 .leaf ++ M.rd, once (catR M.next rs).2 .leaf ++ M.wr⟩ := by
  unfold evDraw at h
  split at h
  · next hb =>
    split at h
    · next e =>
      obtain ⟨rfl, rfl, rfl⟩ := h
      exact ⟨hb, _, _, e, rfl, rfl⟩
    · exact h.elim
  · exact h.elim
theorem evDraw_gr (hS : SelfOk P B E self) {ops : Array Oper} {x : Ex} {L' : T AV} (h : (evDraw E self n ops L M).In x L' M') : Gr M M' ∧ (L.get n = some .rd → L'.get n = some .rd) := by
  obtain ⟨hb, M1, rs, ev, rfl, rfl⟩ := evDraw_in h
  obtain ⟨Ls, Ms, Rz, e1, e2, e3, e4, e5, e6⟩ := evD_trace _ _ _ _ _ _ _ _ ev
  have main : ∀ b, b ≤ ops.toList.length → M.next ≤ (Ms b).next ∧ (∀ i, i < M.next → (∀ k, k < b → i ∉ (Rz k).wr) → (Ms b).objs.get i = M.objs.get i) ∧ ((∀ i, M.next ≤ i → M.objs.get i = none) → ∀ i, (Ms b).next ≤ i → (Ms b).objs.get i = none) ∧ (L.get n = some .rd → (Ls b).get n = some .rd) := by
    intro b
    induction b with
    | zero =>
      intro _
      rw [e1, e2]
      exact ⟨Nat.le_refl _, fun _ _ _ => rfl, id, id⟩
    | succ b ih =>
      intro hb
      obtain ⟨i1, i2, i3, i4⟩ := ih (by omega)
      obtain ⟨o, ho⟩ := lt_some (ol := ops.toList) (k := b) (by omega)
      obtain ⟨st, _, _⟩ := e6 b o ho
      obtain ⟨g1, g2, g3⟩ := st.gr hS
      refine ⟨Nat.le_trans i1 g1, fun i hi hw => (g2 i (by omega) (hw b (by omega))).trans (i2 i hi fun k hk => hw k (by omega)), fun q => g3 (i3 q), fun q => ?_⟩
      have q := i4 q
      cases st with
      | soft e hi' hr hp hM => rw [putL_rd hp]; exact q
      | hard e hr hp => rw [putL_rd hp]; exact q
      | dfr e hd ho' hr hp => exact putD_rd hp q
  obtain ⟨m1, m2, m3, m4⟩ := main _ (Nat.le_refl _)
  rw [e4] at m1 m2 m3
  rw [e3] at m4
  refine ⟨⟨m1, fun i q => List.mem_append_right _ q, fun i q => List.mem_append_right _ q, fun i hi hw => m2 i hi fun k hk hik => ?_, m3⟩, m4⟩
  refine hw (List.mem_append_left _ (once_leaf ?_))
  exact (catR_mem rfl (Rz k) (e5 _ (.inr ⟨k, hk, rfl⟩))).2.1 i hik hi
theorem evDraw_ok (ro : Option Nat) (hE : EnvOk P E) (hS : SelfOk P B E self) {ops : Array Oper} {id : Nat} {Q : Exit → Act → World → Prop} (hs : Is B E.ng cx M hi s) (hL : Loc s.σ L n a) (hr : ro ≠ none → L.get n = some .rd)
    (h : (evDraw E self n ops L M).All (Hx B E.ng cx M hi n s Q)) : (Code.region id ops true).wpIn (fw ro) 0 P Q a s.W := by
  obtain ⟨x, L', M', hin⟩ := h.ex
  obtain ⟨hl, hh, hQ⟩ := h.all _ _ _ hin
  obtain ⟨hb, M1, rs, ev, rfl, rfl⟩ := evDraw_in hin
  obtain ⟨Ls, Ms, Rz, e1, e2, e3, e4, e5, e6⟩ := evD_trace _ _ _ _ _ _ _ _ ev
  subst e1 e2
  have hlen : ops.toList.length = ops.size := by simp
  have mem : ∀ {k o}, ops.toList[k]? = some o → Rz k ∈ rs := fun {k o} ho => e5 _ (.inr ⟨k, some_lt ho, rfl⟩)
  have st : ∀ {k o}, ops.toList[k]? = some o → Stp E self n ops (bits ops.toList) ops.toList k o (Ls k) (Ms k) (Ls (k + 1)) (Ms (k + 1)) (Rz k) := fun {k o} ho => by
    have := (e6 k o ho).1
    rwa [Nat.zero_add] at this
  let s0 : At := ⟨s.σ, s.F, s.W.drew⟩
  have tr : Trc B E self n ops ops.toList Ls Ms Rz cx hi s0 := by
    refine ⟨fun k o ho => st ho, fun k o ho => ?_, fun k o ho q hq hor => ?_, hb, hs.drew, fun k o ho i hi' hlt => ?_, fun k o ho i hi' hlt => ?_, fun k o ho i f hf hlt => ?_, ?_⟩
    · have := (e6 k o ho).2.1
      rwa [Nat.zero_add] at this
    · obtain ⟨oq, hoq⟩ := lt_some (ol := ops.toList) (k := q) (by have := some_lt ho; omega)
      refine (e6 k o ho).2.2 (Rz q) (.inr ⟨q, hq, rfl⟩) ?_
      rw [Nat.zero_add, (st hoq).ix]
      exact hor
    · exact hl.rd i (List.mem_append_left _ (once_leaf ((catR_mem rfl _ (mem ho)).1 i hi' hlt)))
    · exact hl.wr i (List.mem_append_left _ (once_leaf ((catR_mem rfl _ (mem ho)).2.1 i hi' hlt)))
    · exact hl.rd i (List.mem_append_left _ (once_leaf ((catR_mem rfl _ (mem ho)).2.2 i f hf hlt)))
    · rw [e4]
      exact hh
  refine wpIn_region_any hE.mixed ?_
  show wpAnyIn (fw ro) 0 P .any ops Q ops.size (Array.replicate ops.size false) a s0.W
  have hno : ∀ k, (Array.replicate ops.size false).getD k false = false := fun k => by
    rw [Array.getD_eq_getD_getElem?, Array.getElem?_replicate]
    split <;> rfl
  refine any_ok ro hE hS tr hr (fun s1 a1 q1 q2 q3 => ?_) ops.size _ s0 a (by simp) cnt_le (fun k p hk => by rw [hno] at hk; cases hk) ?_
  · rw [hlen] at e3 e4
    rw [e4] at q1
    rw [e3] at q3
    exact hQ s1 a1 (q1.logs rfl rfl) ⟨q2.le, q2.keep⟩ q3
  · have : (fun k => (Array.replicate ops.size false).getD k false = true) = fun _ => False := funext fun k => propext (by rw [hno]; simp)
    rw [this]
    exact Inv.first tr hS hL
end
end GrG
namespace GrG
open Go Go.RowKit
section
variable {P : Program} {B : World} {E : Env} {self : Self} {cx : Cx} {M M' : Mem} {hi n : Nat} {s : At} {L : T AV} {a : Act} {Q : Exit → Act → World → Prop}
theorem bind_gr {r : Rs} {f : Ex → T AV → Mem → Rs} {x : Ex} {L' : T AV} (h : (r.bind f).In x L' M') (h1 : ∀ y L1 M1, r.In y L1 M1 → Gr M M1 ∧ (L.get n = some .rd → L1.get n = some .rd)) (h2 : ∀ y L1 M1, (f y L1 M1).In x L' M' → Gr M1 M' ∧ (L1.get n = some .rd → L'.get n = some .rd)) : Gr M M' ∧ (L.get n = some .rd → L'.get n = some .rd) := by
  obtain ⟨y, L1, M1, e1, e2⟩ := Rs.bind_in h
  obtain ⟨g1, g2⟩ := h1 _ _ _ e1
  obtain ⟨g3, g4⟩ := h2 _ _ _ e2
  exact ⟨g1.trans g3, fun q => g4 (g2 q)⟩
theorem one_gr {y x : Ex} {L' : T AV} (h : (Rs.one y L M).In x L' M') : Gr M M' ∧ (L.get n = some .rd → L'.get n = some .rd) := by
  obtain ⟨_, rfl, rfl⟩ := h
  exact ⟨.refl _, id⟩
theorem rf_end_in {i d : Nat} {ds : List AV} {x : Ex} {L' : T AV} {M3 : Mem} (h : (match M3.ob i with
        | some (.loop _ _ _ _ _ st jump) => match Nat.beq st 1, jump with
          | true, _ => .no
          | false, none => .one .normal (L.set n (some (.dl (.ptr d 0 :: ds)))) (M3.wrote i none)
          | false, some x => .one x (L.set n (some (.dl (.ptr d 0 :: ds)))) (M3.wrote i none)
        | _ => .no : Rs).In x L' M') : ∃ Lb nb pb ab bb st jump, M3.ob i = some (.loop Lb nb pb ab bb st jump) ∧ st ≠ 1 ∧ L' = L.set n (some (.dl (.ptr d 0 :: ds))) ∧ M' = M3.wrote i none ∧ x = jump.getD .normal := by
  split at h
  · next eo =>
    split at h
    · exact h.elim
    · next e =>
      obtain ⟨rfl, rfl, rfl⟩ := h
      exact ⟨_, _, _, _, _, _, _, eo, beq_f e, rfl, rfl, rfl⟩
    · next e =>
      obtain ⟨rfl, rfl, rfl⟩ := h
      exact ⟨_, _, _, _, _, _, _, eo, beq_f e, rfl, rfl, rfl⟩
  · exact h.elim
theorem rf_gr (hS : SelfOk P B E self) {g : Nat} {fi caps ds : List AV} {ps : Array Nat} {asg body : Code} {x : Ex} {L' : T AV} (h : (cRangeFunc.go ps asg body E self n L M g fi caps ds).In x L' M') : Gr M M' := by
  unfold cRangeFunc.go at h
  obtain ⟨v, M3, h1, h2⟩ := R1.bind_in h
  obtain ⟨_, _, _, _, _, _, _, eo, _, _, rfl, _⟩ := rf_end_in h2
  exact (Gr.anew (anew_pair _ _)).trans ((Gr.anew (anew_pair _ _)).trans ((evCallF_gr hS h1).trans (.wrote (.inr rfl))))
theorem stepT_gr (hS : SelfOk P B E self) {t : Task} {x : Ex} {L' : T AV} (h : (stepT E self n t L M).In x L' M') : Gr M M' ∧ (L.get n = some .rd → L'.get n = some .rd) := by
  cases t with
  | loop c =>
    have h : (evLoop self c n L M).In x L' M' := h
    refine bind_gr h (fun y L1 M1 e => hS.gr _ _ _ _ _ _ _ e) fun y L1 M1 e => ?_
    split at e
    · exact hS.gr _ _ _ _ _ _ _ e
    · exact one_gr e
  | code c =>
    have h : (evCode c E self n L M).In x L' M' := h
    cases c with
    | skip => exact one_gr h
    | region id ops draw =>
      cases draw with
      | false => exact evOps_gr hS _ _ _ _ _ _ h
      | true => exact evDraw_gr hS h
    | seq c d =>
      have h : (cSeq c d E self n L M).In x L' M' := h
      refine bind_gr h (fun y L1 M1 e => hS.gr _ _ _ _ _ _ _ e) fun y L1 M1 e => ?_
      split at e
      · exact hS.gr _ _ _ _ _ _ _ e
      · exact one_gr e
    | cond c d e =>
      have h : (cCond c d e E self n L M).In x L' M' := h
      unfold cCond at h
      split at h
      · exact hS.gr _ _ _ _ _ _ _ h
      · exact hS.gr _ _ _ _ _ _ _ h
      · exact h.elim
    | block id c =>
      have h : (cBlock id c E self n L M).In x L' M' := h
      refine bind_gr h (fun y L1 M1 e => hS.gr _ _ _ _ _ _ _ e) fun y L1 M1 e => ?_
      repeat' split at e
      all_goals exact one_gr e
    | loop c => exact hS.gr _ _ _ _ _ _ _ h
    | rangeFunc f ps asg body =>
      have h : (cRangeFunc f ps asg body E self n L M).In x L' M' := h
      unfold cRangeFunc at h
      split at h
      · split at h
        · next e0 => exact ⟨rf_gr hS h, fun q => by rw [e0] at q; cases q⟩
        · next e0 => exact ⟨rf_gr hS h, fun q => by rw [e0] at q; cases q⟩
        · exact h.elim
      · exact h.elim
    | exit id => exact one_gr h
    | scope c => exact hS.gr _ _ _ _ _ _ _ h
    | label l => exact one_gr h
    | goto l => exact h.elim
    | ret => exact one_gr h
    | refuse w => exact h.elim
theorem hx_on {s1 : At} {M1 : Mem} {x : Ex} {L' : T AV} (ht : To cx M.next hi s s1) (hn : M.next ≤ M1.next) (h : Hx B E.ng cx M hi n s Q x L' M') : Hx B E.ng cx M1 hi n s1 Q x L' M' :=
  ⟨h.1, h.2.1, fun s' a' q1 q2 q3 => h.2.2 s' a' q1 (ht.trans q2 hn) q3⟩
theorem bind_ok {r : Rs} {f : Ex → T AV → Mem → Rs} (hg : ∀ y L1 M1, r.In y L1 M1 → Gr M M1 ∧ (L.get n = some .rd → L1.get n = some .rd)) (hf : ∀ y L1 M1 x L' M', (f y L1 M1).In x L' M' → Gr M1 M')
    (h : (r.bind f).All (Hx B E.ng cx M hi n s Q)) {Q1 : Exit → Act → World → Prop} (hk : ∀ y L1 M1 s1 a1, r.In y L1 M1 → (f y L1 M1).All (Hx B E.ng cx M1 hi n s1 Q) → Is B E.ng cx M1 hi s1 → Loc s1.σ L1 n a1 → (L.get n = some .rd → L1.get n = some .rd) → Q1 y.to a1 s1.W) :
    r.All (Hx B E.ng cx M hi n s Q1) := by
  have ha := Rs.bind_all h
  refine ⟨ha.ex, fun y L1 M1 hin => ?_⟩
  have hx := ha.all y L1 M1 hin
  obtain ⟨x, L', M', e⟩ := hx.ex
  have g := hf _ _ _ _ _ _ e
  obtain ⟨g1, g2⟩ := hg _ _ _ hin
  obtain ⟨k1, k2, _⟩ := hx.all _ _ _ e
  exact ⟨k1.back g, Nat.le_trans g.next k2, fun s1 a1 q1 q2 q3 => hk y L1 M1 s1 a1 hin (hx.mono fun x L' M' hh => hx_on q2 g1.next hh) q1 q3 g2⟩
theorem rf_ok (hE : EnvOk P E) (hS : SelfOk P B E self) (hs : Is B E.ng cx M hi s) (hL : Loc s.σ L n a) {f : Operand} {g : Nat} {fi caps ds : List AV} {ps : Array Nat} {asg body : Code} (hf : VRel s.σ (.func g fi caps) (a.eval f)) (hd : DRel s.σ ds a.defers) (hn : L.get n ≠ some .rd)
    (h : (cRangeFunc.go ps asg body E self n L M g fi caps ds).All (Hx B E.ng cx M hi n s Q)) : (Code.rangeFunc f ps asg body).wpIn (fw none) 0 P Q a s.W := by
  unfold cRangeFunc.go at h
  generalize hM1 : anew M .dfr = p1 at h
  obtain ⟨d, M1⟩ := p1
  simp only at h
  generalize hM2 : anew M1 (.loop L n ps.toList asg body 0 none) = p2 at h
  obtain ⟨i, M2⟩ := p2
  have ha := R1.bind_all h
  have sum : ∀ {v M3}, (evCallF E self g (fi ++ .yl i :: caps) M2).In v M3 → (LogOk cx M3 ∧ M3.next ≤ hi) ∧ cx.wok i := fun {v M3} hin => by
    have hx := ha.all v M3 hin
    obtain ⟨x, L', M', e⟩ := hx.ex
    obtain ⟨k1, k2, _⟩ := hx.all _ _ _ e
    obtain ⟨_, _, _, _, _, _, _, eo, _, _, rfl, _⟩ := rf_end_in e
    exact ⟨⟨k1.back (.wrote (.inr rfl)), k2⟩, k1.wr i (List.mem_cons_self ..)⟩
  obtain ⟨v0, M0, h0⟩ := ha.ex
  obtain ⟨⟨l0, n0⟩, hwi⟩ := sum h0
  have hvi : cx.vis i := cx.seen i hwi
  have g0 := evCallF_gr hS h0
  have n2 : M2.next ≤ hi := Nat.le_trans g0.next n0
  have n1 : M1.next ≤ hi := Nat.le_trans (Gr.anew hM2).next n2
  generalize hq : a.eval f = q at hf
  cases hf with
  | func hfi hcaps =>
    next us vs =>
    refine wpIn_rangeFunc fun fn _ => ?_
    obtain ⟨s1, w1, d1, i1, t1⟩ := hs.alloc (x := .dfr) (o := .deferred (some [])) (z := 0) hM1 n1 ⟨rfl, rfl⟩
    have hi2 : i < hi ∧ M1.next ≤ i := by
      rw [anew_eq] at hM2
      cases hM2
      exact ⟨n2, Nat.le_refl _⟩
    obtain ⟨s2, w2, d2, i2, t2⟩ := i1.alloc (x := .loop L n ps.toList asg body 0 none) (o := .loop { state := .ready, pending := none, fn := fn, tmps := a.tmps, params := ps, assign := asg, body := body, defers := s.W.heap.size }) (z := 0) hM2 n2
      ⟨rfl, _, rfl, hL.size, (fun t x ht => (hL.val t x ht).mono (t1.le.trans (Sg.upd_le (i1.fr i hi2.2 hi2.1).2))), by simp, rfl, rfl, rfl, rfl⟩
    have hsz : s1.W.heap.size = s.W.heap.size + 1 := by rw [w1]; simp
    have t12 : To cx M.next hi s s2 := t1.trans t2 (Gr.anew hM1).next
    have hall : (evCallF E self g (fi ++ .yl i :: caps) M2).All fun v M3 => LogOk cx M3 ∧ M3.next ≤ hi ∧ (evCallF E self g (fi ++ .yl i :: caps) M2).In v M3 := ⟨ha.ex, fun v M3 hin => ⟨(sum hin).1.1, (sum hin).1.2, hin⟩⟩
    rw [hsz] at d2
    have hargs : LRel s2.σ (fi ++ .yl i :: caps) (us ++ .func (.yield (s.W.heap.size + 1)) #[] #[] :: vs) := (hfi.mono t12.le).app (.cons (.yl d2) (hcaps.mono t12.le))
    obtain ⟨gfn, eg, hcall⟩ := evCallF_ok hE hS i2 hargs hall
    obtain ⟨k1, k2, k3⟩ := hE.fns _ _ eg
    refine ⟨s.W.heap.size + 1, [{ target := .collected s.W.heap.size, args := #[] }], s2.W, { target := .fn (.func g) vs.toArray, args := us.toArray ++ #[.func (.yield (s.W.heap.size + 1)) #[] #[]] }, s2.W, g, (us ++ .func (.yield (s.W.heap.size + 1)) #[] #[] :: vs).toArray, s2.W, ?_, ?_, fun _ _ => trivial, ?_, (fun h => by cases h), (calls_fw hcall).mono fun e W' hR => ?_⟩
    · rw [w2, w1]
      exact run_enterLoop_outer _ _ _ _ _
    · simp only [resolve, rangeCall, hq, Deferred.ofValue, Sem.run_bind, run_pureS, Result.andThen_ok]
      simp [Act.eval]
    · have harg : (us.toArray ++ #[.func (.yield (s.W.heap.size + 1)) #[] #[]] ++ vs.toArray : Array Value) = (us ++ .func (.yield (s.W.heap.size + 1)) #[] #[] :: vs).toArray := by
        apply Array.toList_inj.1
        simp
      rw [← harg]
      simp only [Sem.run_bind, run_pureS, Result.andThen_ok, invoke, callFunc, program, Sem.run, k1, k2, k3, Bool.false_eq_true, if_false]
    · cases e with
      | panicked c => exact hR.elim
      | outgrown => exact hR.elim
      | returned u =>
        obtain ⟨v, M3, s3, hin, rfl, _, q1, q2⟩ := hR
        have hx := ha.all v M3 hin
        obtain ⟨x, L', M', he⟩ := hx.ex
        obtain ⟨_, _, hQ⟩ := hx.all _ _ _ he
        obtain ⟨Lb, nb, pb, ab, bb, st, jump, eo, hst, rfl, rfl, hxe⟩ := rf_end_in he
        obtain ⟨b3, z3, r3, f1, f2, f3⟩ := q1.loopAt eo hvi
        have eb : b3 = s.W.heap.size + 1 := by
          have := q2.le _ _ d2
          rw [f1] at this
          cases this
          rfl
        obtain ⟨s4, y1, y2, y3, y4⟩ := q1.setO (x' := none) (o' := .loop { r3 with state := .exhausted }) eo hvi hwi f1 (fun y hy => by cases hy)
        have hend := run_endLoop (P := P) f2 (by
          rw [f3.st]
          match st, hst with
          | 0, _ => simp [stOf]
          | 1, h => exact absurd rfl h
          | 2, _ => simp [stOf]
          | k + 3, _ => simp [stOf])
        rw [eb] at hend y1
        refine ⟨r3.pending, s4.W, by rw [y1]; exact hend, ?_⟩
        have hto : To cx M.next hi s s4 := t12.trans (q2.trans y4 (evCallF_gr hS hin).next) (Nat.le_trans (Gr.anew hM1).next (Gr.anew hM2).next)
        have hloc : Loc s4.σ (L.set n (some (.dl (.ptr d 0 :: ds)))) n { a with defers := [{ target := .collected s.W.heap.size, args := #[] }] ++ a.defers } := by
          refine ⟨hL.size, fun t x ht => ?_, ?_⟩
          · by_cases q : t = n
            · subst q
              rw [T.get_set_eq] at ht
              cases ht
              exact .dl _ _
            · rw [T.get_set_ne _ _ q] at ht
              exact (hL.val t x ht).mono hto.le
          · rw [T.get_set_eq]
            have hd4 := hd.mono hto.le
            have hmk : Mk s4.σ d s.W.heap.size := ⟨0, 0, y4.le _ _ (q2.le _ _ (t2.le _ _ d1))⟩
            exact .mark hmk hd4
        have hQ := hQ s4 _ y3 hto hloc
        rw [f3.jump]
        cases jump with
        | none =>
          subst hxe
          exact hQ
        | some j =>
          cases j with
          | normal =>
            subst hxe
            exact hQ
          | ret =>
            subst hxe
            exact wpIn_ret hQ
          | exit id =>
            subst hxe
            exact wpIn_exit hQ
theorem stepT_ok (ro : Option Nat) (hE : EnvOk P E) (hS : SelfOk P B E self) {t : Task} (hs : Is B E.ng cx M hi s) (hL : Loc s.σ L n a) (hr : ro ≠ none → L.get n = some .rd) (h : (stepT E self n t L M).All (Hx B E.ng cx M hi n s Q)) : TaskWp ro P Q a s.W t := by
  have hg : ∀ {t y L1 M1}, (self n t L M).In y L1 M1 → Gr M M1 ∧ (L.get n = some .rd → L1.get n = some .rd) := fun e => hS.gr _ _ _ _ _ _ _ e
  cases t with
  | loop c =>
    have h : (evLoop self c n L M).All _ := h
    refine loopW_step (hS.ok ro n (.code c) L M cx hi s a _ hs hL hr (bind_ok (fun _ _ _ => hg) (fun y L1 M1 x L' M' e => ?_) h fun y L1 M1 s1 a1 hin hh q1 q2 q3 => ?_))
    · split at e
      · exact (hS.gr _ _ _ _ _ _ _ e).1
      · exact (one_gr (n := n) e).1
    · split at hh
      · exact hS.ok ro n (.loop c) L1 M1 cx hi s1 a1 Q q1 q2 (fun q => q3 (hr q)) hh
      · next hne =>
        have := (hh.all _ _ _ ⟨rfl, rfl, rfl⟩).2.2 s1 a1 q1 .refl q2
        cases y with
        | normal => exact absurd rfl hne
        | ret => exact this
        | exit id => exact this
  | code c =>
    have h : (evCode c E self n L M).All _ := h
    show c.wpIn (fw ro) 0 P Q a s.W
    have end1 : ∀ {x}, (Rs.one x L M).All (Hx B E.ng cx M hi n s Q) → Q x.to a s.W := fun h => (h.all _ _ _ ⟨rfl, rfl, rfl⟩).2.2 s a hs .refl hL
    cases c with
    | skip => exact wpIn_skip (end1 h)
    | region id ops draw =>
      cases draw with
      | false => exact wpIn_region_list (evOps_ok ro hE hS _ _ _ _ _ hs hL hr h)
      | true => exact evDraw_ok ro hE hS hs hL hr h
    | seq c d =>
      have h : (cSeq c d E self n L M).All _ := h
      refine wpIn_seq (hS.ok ro n (.code c) L M cx hi s a _ hs hL hr (bind_ok (fun _ _ _ => hg) (fun y L1 M1 x L' M' e => ?_) h fun y L1 M1 s1 a1 hin hh q1 q2 q3 => ?_))
      · split at e
        · exact (hS.gr _ _ _ _ _ _ _ e).1
        · exact (one_gr (n := n) e).1
      · split at hh
        · exact hS.ok ro n (.code d) L1 M1 cx hi s1 a1 Q q1 q2 (fun q => q3 (hr q)) hh
        · next hne =>
          have := (hh.all _ _ _ ⟨rfl, rfl, rfl⟩).2.2 s1 a1 q1 .refl q2
          cases y with
          | normal => exact absurd rfl hne
          | ret => exact this
          | exit id => exact this
    | cond c d e =>
      have h : (cCond c d e E self n L M).All _ := h
      unfold cCond at h
      split at h
      · next ec =>
        have hc := aev_rel hL hs ec
        generalize hq : a.eval c = q at hc
        cases hc
        exact wpIn_cond_true hq (hS.ok ro n (.code d) L M cx hi s a Q hs hL hr h)
      · next ec =>
        have hc := aev_rel hL hs ec
        generalize hq : a.eval c = q at hc
        cases hc
        exact wpIn_cond_false hq (hS.ok ro n (.code e) L M cx hi s a Q hs hL hr h)
      · exact absurd rfl h.is
    | block id c =>
      have h : (cBlock id c E self n L M).All _ := h
      refine wpIn_block (hS.ok ro n (.code c) L M cx hi s a _ hs hL hr (bind_ok (fun _ _ _ => hg) (fun y L1 M1 x L' M' e => ?_) h fun y L1 M1 s1 a1 hin hh q1 q2 q3 => ?_))
      · repeat' split at e
        all_goals exact (one_gr (n := n) e).1
      · cases y with
        | normal => exact (hh.all _ _ _ ⟨rfl, rfl, rfl⟩).2.2 s1 a1 q1 .refl q2
        | ret => exact (hh.all _ _ _ ⟨rfl, rfl, rfl⟩).2.2 s1 a1 q1 .refl q2
        | exit j =>
          show Exit.inBlock id Q (.exit j) a1 s1.W
          unfold Exit.inBlock
          split at hh
          · next e =>
            cases e
            split at hh
            · next eb =>
              simp only [beq_t eb, if_true]
              exact (hh.all _ _ _ ⟨rfl, rfl, rfl⟩).2.2 s1 a1 q1 .refl q2
            · next eb =>
              simp only [beq_f eb, if_false]
              exact (hh.all _ _ _ ⟨rfl, rfl, rfl⟩).2.2 s1 a1 q1 .refl q2
          · next hne => exact absurd rfl (hne j)
    | loop c => exact loopW_loop (hS.ok ro n (.loop c) L M cx hi s a Q hs hL hr h)
    | rangeFunc f ps asg body =>
      have h : (cRangeFunc f ps asg body E self n L M).All _ := h
      unfold cRangeFunc at h
      have hro : ∀ {x}, L.get n = x → x ≠ some .rd → ro = none := fun e q => by
        cases ro with
        | none => rfl
        | some r => exact absurd (e ▸ hr (by simp)) q
      split at h
      · next g fi caps ef =>
        have hf := aev_rel hL hs ef
        split at h
        · next e0 =>
          have hd := hL.dfr
          rw [e0] at hd
          have hd : a.defers = [] := hd
          obtain rfl := hro e0 (by simp)
          exact rf_ok hE hS hs hL hf (by rw [hd]; exact .nil) (by rw [e0]; simp) h
        · next ds e0 =>
          have hd := hL.dfr
          rw [e0] at hd
          obtain rfl := hro e0 (by simp)
          exact rf_ok hE hS hs hL hf hd (by rw [e0]; simp) h
        · exact absurd rfl h.is
      · exact absurd rfl h.is
    | exit id => exact wpIn_exit (end1 h)
    | scope c =>
      have h : (cScope c E self n L M).All _ := h
      refine wpIn_scope (hS.ok ro n (.code c) L M cx hi s a _ hs hL hr ?_)
      refine Rs.All.mono h fun x L' M' hh => ⟨hh.1, hh.2.1, fun s' a' q1 q2 q3 => ?_⟩
      have := hh.2.2 s' a' q1 q2 q3
      cases x <;> exact this
    | label l => exact wpIn_label (end1 h)
    | goto l => exact absurd rfl h.is
    | ret => exact wpIn_ret (end1 h)
    | refuse w => exact absurd rfl h.is
end
theorem ev_ok {P : Program} {B : World} {E : Env} (hE : EnvOk P E) : ∀ k, SelfOk P B E (ev E k)
  | 0 => ⟨fun n t L M x L' M' h => h.elim, fun ro n t L M cx hi s a Q _ _ _ h => absurd rfl h.is⟩
  | k + 1 => ⟨fun n t L M x L' M' h => stepT_gr (B := B) (ev_ok hE k) h, fun ro n t L M cx hi s a Q hs hL hr h => stepT_ok ro hE (ev_ok hE k) hs hL hr h⟩
end GrG
