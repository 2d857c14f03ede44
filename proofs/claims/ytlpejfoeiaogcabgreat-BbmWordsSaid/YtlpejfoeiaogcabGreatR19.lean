/-
  A MACHINE FOR CLOSED CALLS (second form), 19: calls. No program in sight.
-/
import Derived.Test.YtlpejfoeiaogcabGreatR18
set_option linter.unusedSimpArgs false
set_option linter.unusedVariables false
namespace GrG
open Go Go.RowKit
section
variable {P : Program} {B : World} {G : Nat} {E : Env} {self : Self} {cx : Cx} {M M' : Mem} {hi n : Nat} {s : At} {L : T AV} {a : Act}
/-- a number is dropped, and its block is another one -/
theorem RelM.gone {σ : Sg} {F : Fm} {W U : World} (h : RelM B G σ F W) {i : Nat} {x : Ob} {b f z : Nat} (hF : F i = some x) (hs : σ i = some (b, f, z)) (hw : ∀ c, c ≠ b → U.heap[c]? = W.heap[c]?) (hb : Below B.heap.size B U) : RelM B G σ (F.upd i none) U := by
  have old : ∀ m y, F.upd i none m = some y → F m = some y ∧ m ≠ i := fun m y e => by
    by_cases q : m = i
    · subst q; rw [Fm.upd_self] at e; cases e
    · exact ⟨by rwa [Fm.upd_ne q] at e, q⟩
  refine ⟨fun j y e => ?_, fun j k y y' b1 f1 z1 b2 f2 z2 e1 e2 hn s1 s2 => ?_, fun j y b1 f1 z1 hG e s => ?_, hb⟩
  · obtain ⟨e, q⟩ := old j y e
    exact (h.rep j y e).keep (.refl σ) fun b1 f1 z1 s1 => hw b1 (h.sep j i y x b1 f1 z1 b f z e hF q s1 hs)
  · exact h.sep j k y y' b1 f1 z1 b2 f2 z2 (old j y e1).1 (old k y' e2).1 hn s1 s2
  · exact h.high j y b1 f1 z1 hG (old j y e).1 s
theorem Below.putObj {N : Nat} {w W : World} (h : Below N w W) {r : Nat} (hr : N ≤ r) (o : Obj) : Below N w (W.putObj r o) :=
  h.trans ⟨rfl, rfl, rfl, by simp [World.putObj], fun k hk => World.putObj_heap_other (by omega)⟩
/-- an object in a block of its own is another one -/
theorem Is.setO (h : Is B G cx M hi s) {i : Nat} {x : Ob} {x' : Option Ob} {b f z : Nat} {o' : Obj} (e : M.ob i = some x) (hv : cx.vis i) (hw : cx.wok i) (hs : s.σ i = some (b, f, z)) (ho : ∀ y, x' = some y → OC s.σ f z y o') :
    ∃ s', s'.W = s.W.putObj b o' ∧ s'.σ = s.σ ∧ Is B G cx (M.wrote i x') hi s' ∧ To cx M.next hi s s' := by
  have hF := h.obj e hv
  have hi' := (ob_eq e).1
  have hb := h.rel.high i x b f z (h.lo i hw) hF hs
  have hlt := (h.rel.rep i x hF).lt hs
  have hU : RelM B G s.σ (s.F.upd i x') (s.W.putObj b o') := by
    cases x' with
    | none => exact h.rel.gone hF hs (fun c hc => World.putObj_heap_other hc) (Below.putObj h.rel.base hb o')
    | some y => exact h.rel.chg hF hs (fun c hc => World.putObj_heap_other hc) (World.putObj_heap_same hlt) (ho y rfl) (Below.putObj h.rel.base hb o')
  obtain ⟨h1, h2⟩ := h.put hi' hw hU
  exact ⟨⟨s.σ, s.F.upd i x', s.W.putObj b o'⟩, rfl, rfl, h1, h2⟩
theorem evDefers_gr (hS : SelfOk P B E self) : ∀ {ds : List AV} {M M' : Mem}, evDefers E self ds M = some M' → Gr M M'
  | [], M, M', e => by
    simp only [evDefers, Option.some.injEq] at e
    subst e
    exact .refl _
  | d :: ds, M, M', e => by
    simp only [evDefers] at e
    split at e
    · split at e
      · split at e
        · rw [fN_eq] at e
          split at e
          · cases e
          · next hx =>
            split at e
            · next M3 _ er =>
              have h1 := (hS.gr _ _ _ _ _ _ _ (show Rs.In (self _ _ _ _) _ _ _ by rw [hx]; exact ⟨rfl, rfl, rfl⟩)).1
              have h2 := eres_gr (show R1.In (eres E _ _ _) _ _ by rw [er]; exact ⟨rfl, rfl⟩)
              exact h1.trans (h2.trans (evDefers_gr hS e))
            · cases e
          · cases e
        · cases e
      · cases e
    · split at e
      · next eo => exact (Gr.wrote (.inr rfl)).trans (evDefers_gr hS e)
      · cases e
    · cases e
theorem evDefers_ok (hE : EnvOk P E) (hS : SelfOk P B E self) {fn : Func} {tmps : Array Value} {R : Ending → World → Prop} : ∀ {ds : List AV} {M M' : Mem} {ws : List Deferred} {s : At}, evDefers E self ds M = some M' → LogOk cx M' → M'.next ≤ hi → Is B E.ng cx M hi s → DRel s.σ ds ws →
    (∀ s', Is B E.ng cx M' hi s' → To cx M.next hi s s' → LeavesInM (fw none) 0 P fn tmps R [] .returning s'.W) → LeavesInM (fw none) 0 P fn tmps R ws .returning s.W
  | [], M, M', ws, s, e, hl, hh, hs, hd, hk => by
    simp only [evDefers, Option.some.injEq] at e
    subst e
    cases hd
    exact hk s hs .refl
  | d :: ds, M, M', ws, s, e, hl, hh, hs, hd, hk => by
    simp only [evDefers] at e
    split at e
    · next g caps l =>
      cases hd with
      | fn hc ha hd =>
        next cs vs ws =>
        split at e
        · next fn' ef =>
          split at e
          · next c hb =>
            rw [fN_eq] at e
            split at e
            · cases e
            · next x L2 M2 hne hx =>
              split at e
              · next v M3 en er =>
                obtain ⟨k1, k2, k3⟩ := hE.fns _ _ ef
                have g3 := evDefers_gr hS e
                have l3 := hl.back g3
                have n3 := Nat.le_trans g3.next hh
                have er' : (eres E L2 M2 fn'.results.toList).In v M3 := by rw [er]; exact ⟨rfl, rfl⟩
                have g2 := eres_gr er'
                have g1 := (hS.gr _ _ _ _ _ _ _ (show Rs.In (self _ _ _ _) _ _ _ by rw [hx]; exact ⟨rfl, rfl, rfl⟩)).1
                have l2 := l3.back g2
                have hav := ha.app hc
                refine ⟨(by simp), .inr ⟨(fun h => by cases h), _, _, g, (vs ++ cs).toArray, rfl, ?_, fun _ _ => trivial, ?_⟩⟩
                · simp only [invoke, callFunc, program, Sem.run_bind, Sem.run, Result.andThen_ok, k1, k2, k3, Bool.false_eq_true, if_false]
                  simp
                · have hw : c.wpIn (fw none) 0 P (bodyPost P fn' fun e W' => ∃ s', (∃ q, e = .returned q) ∧ s'.W = W' ∧ Is B E.ng cx M3 hi s' ∧ To cx M.next hi s s') { tmps := (vs ++ cs).toArray ++ Array.replicate (fn'.ntmps - (vs ++ cs).toArray.size) undef, defers := [] } s.W := by
                    refine hS.ok none _ (.code c) (T.ofA (l ++ caps)) M cx hi s _ _ hs (loc_enter hav fn'.ntmps) (fun h => absurd rfl h) ?_
                    rw [hx]
                    refine .one ?_
                    refine ⟨l2, Nat.le_trans g2.next n3, fun s' a' q1 q2 q3 => ?_⟩
                    have hdf := q3.dfr
                    rw [en] at hdf
                    obtain ⟨i3, e3, q, r1, r2⟩ := eres_sound hE q1 q3.val er' l3
                    have fin : a'.defers = [] ∧ ∃ v, (results fn' a'.tmps).run P s'.W = .ok v s'.W ∧ ∃ s'', (∃ q, (Ending.returned v) = .returned q) ∧ s''.W = s'.W ∧ Is B E.ng cx M3 hi s'' ∧ To cx M.next hi s s'' := ⟨hdf, q, r2, s', ⟨q, rfl⟩, rfl, i3, q2⟩
                    cases x with
                    | normal => exact fin
                    | ret => exact fin
                    | exit id => exact (hne id rfl).elim
                  refine (callsDIn_of_wp (u := .returning) k1 hb trivial hw).mono fun e' u' w' ⟨hu, s', ⟨q, h1⟩, h2, h3, h4⟩ => ?_
                  subst hu
                  subst h2
                  subst h1
                  exact evDefers_ok hE hS e hl hh h3 (hd.mono h4.le) fun s'' p1 p2 => hk s'' p1 (h4.trans p2 (Nat.le_trans g1.next g2.next))
              · cases e
            · cases e
          · cases e
        · cases e
    · next r =>
      cases hd with
      | mark hm hd =>
        next b ws =>
        split at e
        · next eo =>
          have g1 := evDefers_gr hS e
          have hv : cx.vis r := hl.rd r (g1.rd r (List.mem_cons_self ..))
          have hw : cx.wok r := hl.wr r (g1.wr r (List.mem_cons_self ..))
          obtain ⟨b', f, z, o, h1, h2, h3, h4⟩ := hs.rel.rep r _ (hs.obj eo hv)
          obtain ⟨f', z', h5⟩ := hm
          rw [h1] at h5
          cases h5
          subst h4
          obtain ⟨s', p1, p2, p3, p4⟩ := hs.setO (x' := none) (o' := .deferred none) eo hv hw h1 (fun y h => by cases h)
          refine ⟨(by simp), .inl ⟨_, s'.W, rfl, ?_, ?_⟩⟩
          · rw [p1]
            exact run_takeDeferred h2
          · exact evDefers_ok hE hS e hl hh p3 (by rw [p2]; exact hd) fun s'' q1 q2 => hk s'' q1 (p4.trans q2 (Nat.le_refl _))
        · cases e
    · cases e
theorem evLeave_one {fn : Func} {x : Ex} (h : evLeave E self n fn x L M ≠ .no) : ∃ v M', evLeave E self n fn x L M = .one v M' := by
  have he : ∀ L M, eres E L M fn.results.toList ≠ .no → ∃ v M', eres E L M fn.results.toList = .one v M' := fun L M h => by
    unfold eres at *
    split at h <;> first | exact ⟨_, _, rfl⟩ | exact absurd rfl h
  unfold evLeave at *
  split at h
  · exact absurd rfl h
  · split at h
    · exact he _ _ h
    · split at h
      · exact he _ _ h
      · exact absurd rfl h
    · exact absurd rfl h
theorem evLeave_gr (hS : SelfOk P B E self) {fn : Func} {x : Ex} {v : AV} (h : (evLeave E self n fn x L M).In v M') : Gr M M' := by
  unfold evLeave at h
  split at h
  · exact h.elim
  · split at h
    · exact eres_gr h
    · split at h
      · next e => exact (evDefers_gr hS e).trans (eres_gr h)
      · exact h.elim
    · exact h.elim
/-- a function is left -/
theorem evLeave_ok (hE : EnvOk P E) (hS : SelfOk P B E self) {fn : Func} {x : Ex} {v : AV} {R : Ending → World → Prop} (hs : Is B E.ng cx M hi s) (hL : Loc s.σ L n a) (h : (evLeave E self n fn x L M).In v M') (hl : LogOk cx M') (hh : M'.next ≤ hi)
    (hk : ∀ s' q, Is B E.ng cx M' hi s' → To cx M.next hi s s' → VRel s'.σ v q → R (.returned q) s'.W) : bodyPostM (fw none) 0 P fn R x.to a s.W := by
  unfold evLeave at h
  split at h
  · exact h.elim
  · next hx =>
    have main : LeavesInM (fw none) 0 P fn a.tmps R a.defers .returning s.W := by
      split at h
      · next en =>
        have hd := hL.dfr
        rw [en] at hd
        obtain ⟨i3, e3, q, r1, r2⟩ := eres_sound hE hs hL.val h hl
        have hd : a.defers = [] := hd
        rw [hd]
        exact ⟨q, r2, hk s q i3 .refl r1⟩
      · next ds en =>
        split at h
        · next M1 e =>
          have hd := hL.dfr
          rw [en] at hd
          have g2 := eres_gr h
          refine evDefers_ok hE hS e (hl.back g2) (Nat.le_trans g2.next hh) hs hd fun s' q1 q2 => ?_
          obtain ⟨i3, e3, q, r1, r2⟩ := eres_sound hE q1 (fun t y ht => (hL.val t y ht).mono q2.le) h hl
          exact ⟨q, r2, hk s' q i3 q2 r1⟩
        · exact h.elim
      · exact h.elim
    cases x with
    | normal => exact main
    | ret => exact main
    | exit id => exact (hx id rfl).elim
/-- a function's body, and how it is left -/
noncomputable def body1 (E : Env) (self : Self) (n : Nat) (fn : Func) (c : Code) (args : List AV) (M : Mem) : R1 := (self n (.code c) (T.ofA args) M).bind1 (evLeave E self n fn)
theorem body1_gr (hS : SelfOk P B E self) {fn : Func} {c : Code} {args : List AV} {v : AV} (h : (body1 E self n fn c args M).In v M') : Gr M M' := by
  obtain ⟨x, L, M1, h1, h2⟩ := Rs.bind1_in h
  exact (hS.gr _ _ _ _ _ _ _ h1).1.trans (evLeave_gr hS h2)
theorem body1_ok (hE : EnvOk P E) (hS : SelfOk P B E self) {f : Nat} {fn : Func} {c : Code} {args : List AV} {vs : List Value} (k1 : P.funcs[f]? = some fn) (hb : fn.body = some c) (hs : Is B E.ng cx M hi s) (hv : LRel s.σ args vs) {p : AV → Mem → Prop}
    (h : (body1 E self (Nat.max args.length fn.ntmps) fn c args M).All fun v M' => LogOk cx M' ∧ M'.next ≤ hi ∧ p v M') : CallsIn (fw none) 0 P f vs.toArray s.W (Ret B E.ng cx M hi s p) := by
  refine callsIn_of_wp_marks k1 hb trivial ?_
  refine hS.ok none _ (.code c) (T.ofA args) M cx hi s _ _ hs (loc_enter hv fn.ntmps) (fun h => absurd rfl h) ?_
  have ha := Rs.bind1_all h
  refine ⟨ha.ex, fun x L1 M1 hin => ?_⟩
  have hx := ha.all x L1 M1 hin
  obtain ⟨v, M', e⟩ := evLeave_one hx.is
  have hin2 : (evLeave E self (Nat.max args.length fn.ntmps) fn x L1 M1).In v M' := by rw [e]; exact ⟨rfl, rfl⟩
  obtain ⟨hl, hh, hp⟩ := hx.all v M' hin2
  have g := evLeave_gr hS hin2
  have g0 := (hS.gr _ _ _ _ _ _ _ hin).1
  refine ⟨hl.back g, Nat.le_trans g.next hh, fun s' a' q1 q2 q3 => ?_⟩
  exact evLeave_ok hE hS q1 q3 hin2 hl hh fun s'' q r1 r2 r3 => ⟨v, M', s'', hp, rfl, r3, r1, q2.trans r2 g0.next⟩
end
end GrG
