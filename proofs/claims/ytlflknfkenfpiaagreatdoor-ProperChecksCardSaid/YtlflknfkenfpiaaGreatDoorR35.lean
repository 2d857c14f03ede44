/-
  Texts of one claim, merged.
-/
import Derived.Test.YtlflknfkenfpiaaGreatDoorR34
set_option linter.unusedSimpArgs false
set_option linter.unusedVariables false
namespace GrG
open Go Go.RowKit
theorem eqT_eq : ∀ {a b : T AV}, eqT a b = true → a = b
  | .leaf, .leaf, _ => rfl
  | .leaf, .node _ _ _, h => by cases h
  | .node _ _ _, .leaf, h => by cases h
  | .node l v r, .node l' v' r', h => by
    simp only [eqT] at h
    cases e1 : eqT l l' with
    | false => rw [e1] at h; cases v <;> cases v' <;> cases h
    | true =>
      cases e2 : eqT r r' with
      | false => rw [e1, e2] at h; cases v <;> cases v' <;> cases h
      | true =>
        rw [e1, e2] at h
        rw [eqT_eq e1, eqT_eq e2]
        cases v <;> cases v' <;> first | rfl | (cases h; done) | rw [eqa_eq h]
theorem eqEs_eq : ∀ {a b : List En}, eqEs a b = true → a = b
  | [], [], _ => rfl
  | [], _ :: _, h => by cases h
  | _ :: _, [], h => by cases h
  | ⟨la, ka, va⟩ :: l, ⟨lb, kb, vb⟩ :: m, h => by
    simp only [eqEs] at h
    split at h
    · next e1 e2 e3 e4 =>
      rw [eqa_eq e3, eqa_eq e4, eqEs_eq h]
    · next e1 e2 e3 e4 =>
      split at h
      · next e5 =>
        rw [eqa_eq e3, eqa_eq e4, beq_t e5, eqEs_eq h]
      · cases h
    · cases h
theorem eqTy_eq {a b : Option Nat} (h : eqTy a b = true) : a = b := by
  unfold eqTy at h
  split at h
  · rfl
  · rw [beq_t h]
  · cases h
theorem eqOb_eq {a b : Ob} (h : eqOb a b = true) : a = b := by
  unfold eqOb at h
  split at h
  · next t c u d =>
    split at h
    · next e => rw [eqT_eq h, eqTy_eq e]
    · cases h
  · rw [eqEs_eq h]
  · split at h
    · next e => rw [eqEs_eq h, beq_t e]
    · cases h
  · cases h
theorem eqOO_eq {a b : Option Ob} (h : eqOO a b = true) : a = b := by
  unfold eqOO at h
  split at h
  · rfl
  · rw [eqOb_eq h]
  · cases h
theorem eqLA_eq : ∀ {a b : List AV}, eqL eqa a b = true → a = b
  | [], [], _ => rfl
  | [], _ :: _, h => by cases h
  | _ :: _, [], h => by cases h
  | x :: l, y :: m, h => by
    simp only [eqL] at h
    split at h
    · next e => rw [eqa_eq e, eqLA_eq h]
    · cases h
noncomputable def entM0 (e : Ent) (n : Nat) : Mem := ⟨layO (e.inn.map fun p => (p.1, some p.2)) .leaf, n, [], []⟩
def oldIn (n : Nat) (l : List Nat) (i : Nat) : Bool := match Nat.blt i n with
  | true => memN i l
  | false => true
noncomputable def outIs (M : Mem) (p : Nat × Option Ob) : Bool := eqOO (M.objs.get p.1) p.2
noncomputable def entRun (E : Env) (k n : Nat) (e : Ent) : Bool := match run E k e.fn e.args (entM0 e n) with
  | .one v M1 => match eqa v e.v, Nat.beq M1.next e.nx, allP (outIs M1) e.out, allP (oldIn n e.rd) M1.rd, allP (oldIn n e.wr) M1.wr, entGood e n with
    | true, true, true, true, true, true => true
    | _, _, _, _, _, _ => false
  | _ => false
theorem entRun_t {E : Env} {k n : Nat} {e : Ent} (h : entRun E k n e = true) : ∃ M1, run E k e.fn e.args (entM0 e n) = .one e.v M1 ∧ M1.next = e.nx ∧ (∀ p ∈ e.out, M1.objs.get p.1 = p.2) ∧ (∀ i ∈ M1.rd, n ≤ i ∨ i ∈ e.rd) ∧ (∀ i ∈ M1.wr, n ≤ i ∨ i ∈ e.wr) ∧ EntGood e n := by
  unfold entRun at h
  split at h
  · next v M1 er =>
    split at h
    · next h1 h2 h3 h4 h5 h6 =>
      have old : ∀ {l : List Nat} {i : Nat}, oldIn n l i = true → n ≤ i ∨ i ∈ l := fun {l i} q => by
        unfold oldIn at q
        split at q
        · exact .inr (memN_iff' q)
        · next e1 => exact .inl (Nat.le_of_not_lt (blt_f e1))
      exact ⟨M1, by rw [er, eqa_eq h1], beq_t h2, fun p hp => eqOO_eq (allP_t h3 p hp), fun i hi => old (allP_t h4 i hi), fun i hi => old (allP_t h5 i hi), entGood_t h6⟩
    · cases h
  · cases h
theorem entM0_get {e : Ent} {n i : Nat} : (∀ o, (i, o) ∉ e.inn) ∧ (entM0 e n).objs.get i = none ∨ ∃ o, (i, o) ∈ e.inn ∧ (entM0 e n).objs.get i = some o := by
  rcases layO_get (i := i) (l := e.inn.map fun p => (p.1, some p.2)) (t := .leaf) with ⟨h1, h2⟩ | ⟨o, h1, h2⟩
  · refine .inl ⟨fun o ho => ?_, by show (layO _ _).get i = none; rw [h2, T.get_leaf]⟩
    exact h1 (i, some o) (List.mem_map.2 ⟨(i, o), ho, rfl⟩) rfl
  · obtain ⟨p, hp, he⟩ := List.mem_map.1 h1
    cases he
    exact .inr ⟨p.2, hp, h2⟩
theorem entOk_of {P : Program} {E : Env} (hE : EnvOk P E) {k n : Nat} {e : Ent} (h : entRun E k n e = true) : EntOk P E.ng n e := by
  intro B cx M hi s f args vs hn hu hs hv hl hx
  subst hn
  obtain ⟨rfl, ha, g, hin⟩ := entUse_t hu
  obtain rfl := eqLA_eq ha
  obtain ⟨M1, er, m1, m2, m3, m4, _⟩ := entRun_t h
  have rdv : ∀ i ∈ e.rd, cx.vis i := fun i hi => hl.rd i (List.mem_append_left _ hi)
  have wrw : ∀ i ∈ e.wr, cx.wok i := fun i hi => hl.wr i (List.mem_append_left _ hi)
  let cx' : Cx := ⟨fun i => M.next ≤ i ∨ i ∈ e.rd, fun i => M.next ≤ i ∨ i ∈ e.wr, M.next, fun i hi => .inl hi, fun i hi => hi.imp id (g.wr i)⟩
  have hs' : Is B E.ng cx' (entM0 e M.next) hi s := by
    refine ⟨hs.rel, fun i hv hi => ?_, hs.fr, fun i hw => ?_, hs.gl, hs.nh, hs.gb, fun i hi => ?_, Nat.le_refl _⟩
    · have hi : i < M.next := hi
      rcases hv with hv | hv
      · omega
      · obtain ⟨o0, ho0⟩ := g.rd i hv
        rcases entM0_get (e := e) (n := M.next) (i := i) with ⟨h1, _⟩ | ⟨o, h1, h2⟩
        · exact absurd ho0 (h1 o0)
        · rw [h2]
          exact hs.obj (eqOO_eq (hin _ h1)) (rdv i hv)
    · rcases hw with hw | hw
      · exact Nat.le_trans hs.gl hw
      · exact hs.lo i (wrw i hw)
    · have hi : M.next ≤ i := hi
      rcases entM0_get (e := e) (n := M.next) (i := i) with ⟨_, h2⟩ | ⟨o, h1, h2⟩
      · exact h2
      · have := g.low _ h1
        have : i < M.next := this
        omega
  have hall : (evCallF E (ev E k) e.fn e.args (entM0 e M.next)).All fun v1 M2 => LogOk cx' M2 ∧ M2.next ≤ hi ∧ (v1 = e.v ∧ M2 = M1) := by
    have : run E k e.fn e.args (entM0 e M.next) = evCallF E (ev E k) e.fn e.args (entM0 e M.next) := rfl
    rw [← this, er]
    exact .one ⟨⟨m3, m4⟩, by rw [m1]; exact hx, rfl, rfl⟩
  obtain ⟨fn, _, hc⟩ := evCallF_ok hE (ev_ok hE k) hs' hv hall
  refine hc.mono fun e' W' hR => ?_
  cases e' with
  | panicked c => exact hR.elim
  | outgrown => exact hR.elim
  | returned q =>
    obtain ⟨v, M2, s2, ⟨rfl, rfl⟩, rfl, k3, k4, k5⟩ := hR
    have k5 : To cx' M.next hi s s2 := k5
    have hnx := g.nx
    let F3 : Fm := fun i => if M.next ≤ i ∧ i < e.nx then (entMem e M).objs.get i else s2.F i
    have outv : ∀ {i o}, (i, o) ∈ e.out → (M.next ≤ i ∨ i ∈ e.wr) → s2.F i = o := fun {i o} ho hi => by
      have h1 := g.top _ ho
      have h1 : i < e.nx := h1
      have := k4.vis i (hi.imp id (g.wr i)) (by rw [m1]; exact h1)
      rw [this]
      exact m2 _ ho
    refine ⟨e.v, entMem e M, ⟨s2.σ, F3, s2.W⟩, ⟨rfl, rfl⟩, rfl, k3, ?_, ?_⟩
    · refine ⟨k4.rel.less fun i o hi => ?_, fun i hv hi => ?_, fun i h1 h2 => ?_, hs.lo, Nat.le_trans hs.gl hnx, hx, k4.gb, (entMem_gr g).top hs.top, Nat.le_trans hs.ol hnx⟩
      · have hi : F3 i = some o := hi
        simp only [F3] at hi
        split at hi
        · next q =>
          rcases layO_get (i := i) (l := e.out) (t := M.objs) with ⟨_, h2⟩ | ⟨o', h1, h2⟩
          · have h3 : (entMem e M).objs.get i = M.objs.get i := h2
            rw [h3, hs.top i q.1] at hi
            cases hi
          · have h3 : (entMem e M).objs.get i = o' := h2
            rw [h3] at hi
            rw [outv h1 (.inl q.1), hi]
        · exact hi
      · have hi : i < e.nx := hi
        show F3 i = (entMem e M).objs.get i
        simp only [F3]
        by_cases q : M.next ≤ i
        · rw [if_pos ⟨q, hi⟩]
        · rw [if_neg (fun x => q x.1)]
          have q' : i < M.next := by omega
          rcases layO_get (i := i) (l := e.out) (t := M.objs) with ⟨h1, h2⟩ | ⟨o', h1, h2⟩
          · have h3 : (entMem e M).objs.get i = M.objs.get i := h2
            have hnw : i ∉ e.wr := fun hw => by
              obtain ⟨o, ho⟩ := g.all i hw
              exact h1 _ ho rfl
            have := (k5.keep i (.inl ⟨fun x => x.elim (fun y => q y) hnw, q'⟩)).1
            rw [this, h3]
            exact hs.vis i hv q'
          · have h3 : (entMem e M).objs.get i = o' := h2
            rw [h3]
            exact outv h1 (.inr (g.old _ h1 q'))
      · have h1 : e.nx ≤ i := h1
        show F3 i = none ∧ s2.σ i = none
        simp only [F3]
        rw [if_neg (by omega)]
        exact k4.fr i (by rw [m1]; exact h1) h2
    · refine ⟨k5.le, fun i hj => ?_⟩
      have hi' : (¬ cx'.wok i ∧ i < M.next) ∨ hi ≤ i := by
        rcases hj with ⟨h1, h2⟩ | h1
        · exact .inl ⟨fun x => x.elim (fun y => by omega) fun y => h1 (wrw i y), h2⟩
        · exact .inr h1
      have := k5.keep i hi'
      refine ⟨?_, this.2⟩
      show F3 i = s.F i
      simp only [F3]
      have hx' : e.nx ≤ hi := hx
      rw [if_neg (by rcases hj with ⟨_, h2⟩ | h2 <;> omega)]
      exact this.1
def Env.knows (E : Env) (l : T Ent) : Env := ⟨E.fns, E.tys, E.ng, E.exts, E.jn, E.lies, l⟩
theorem EnvOk.knows {P : Program} {E : Env} (h : EnvOk P E) {l : T Ent} (hl : ∀ n e, l.get n = some e → EntOk P E.ng n e) : EnvOk P (E.knows l) := ⟨h.exts, h.fns, h.tys, h.mixed, h.lies, hl⟩
noncomputable def orcOf : List (Nat × Ent) → T Ent → T Ent
  | [], t => t
  | p :: l, t => orcOf l (t.set p.1 (some p.2))
theorem orcOf_get {n : Nat} {e : Ent} : ∀ {l : List (Nat × Ent)} {t : T Ent}, (orcOf l t).get n = some e → (n, e) ∈ l ∨ t.get n = some e
  | [], t, h => .inr h
  | p :: l, t, h => by
    rcases orcOf_get (l := l) (t := t.set p.1 (some p.2)) h with h | h
    · exact .inl (List.mem_cons_of_mem _ h)
    · by_cases q : p.1 = n
      · subst q
        rw [T.get_set_eq] at h
        cases h
        exact .inl (List.mem_cons_self ..)
      · rw [T.get_set_ne _ _ (Ne.symm q)] at h
        exact .inr h
theorem EnvOk.more {P : Program} {E : Env} (h : EnvOk P E) {l : List (Nat × Ent)} (hl : ∀ p ∈ l, EntOk P E.ng p.1 p.2) : EnvOk P (E.knows (orcOf l .leaf)) := h.knows fun n e he => by
  rcases orcOf_get he with he | he
  · exact hl _ he
  · rw [T.get_leaf] at he
    cases he
end GrG
