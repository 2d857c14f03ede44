/-
  Texts of one claim, merged.
-/
import Derived.Test.YtlflknfkenfpiaaGreatDoorR20
set_option linter.unusedSimpArgs false
set_option linter.unusedVariables false
namespace GrG
open Go Go.RowKit
section
variable {P : Program} {B : World} {G : Nat} {E : Env} {self : Self} {cx : Cx} {M M' : Mem} {hi n : Nat} {s : At} {L : T AV} {a : Act}
theorem layPs_rel {σ : Sg} : ∀ (ps : List Nat) (args : List AV) (vs : List Value) (L L1 : T AV) (tmps : Array Value), layPs n ps args L = some L1 → LRel σ args vs → tmps.size = n → (∀ t x, L.get t = some x → VRel σ x (tmps.getD t undef)) →
    ps.length = vs.length ∧ ((ps.zip vs).foldl (fun (tmps : Array Value) (p : Nat × Value) => tmps.setIfInBounds p.1 p.2) tmps).size = n ∧ ∀ t x, L1.get t = some x → VRel σ x (((ps.zip vs).foldl (fun (tmps : Array Value) (p : Nat × Value) => tmps.setIfInBounds p.1 p.2) tmps).getD t undef)
  | [], [], vs, L, L1, tmps, e, hv, hz, h => by
    simp only [layPs, Option.some.injEq] at e
    subst e
    cases hv
    exact ⟨rfl, hz, h⟩
  | [], _ :: _, vs, L, L1, tmps, e, hv, hz, h => by cases e
  | _ :: _, [], vs, L, L1, tmps, e, hv, hz, h => by cases e
  | p :: ps, x :: args, _, L, L1, tmps, e, .cons (v := v) hx hv, hz, h => by
    simp only [layPs] at e
    split at e
    · next hp =>
      have hp := blt_t hp
      obtain ⟨k1, k2, k3⟩ := layPs_rel ps args _ (L.set p (some x)) L1 (tmps.setIfInBounds p v) e hv (by simpa using hz) fun t y ht => by
        rw [Array.getD_eq_getD_getElem?]
        by_cases q : t = p
        · subst q
          rw [T.get_set_eq] at ht
          cases ht
          rw [Array.getElem?_setIfInBounds_self_of_lt (by omega)]
          exact hx
        · rw [T.get_set_ne _ _ q] at ht
          rw [Array.getElem?_setIfInBounds_ne (Ne.symm q), ← Array.getD_eq_getD_getElem?]
          exact h t y ht
      exact ⟨by simp [k1], k2, k3⟩
    · cases e
theorem Is.loopAt (hs : Is B G cx M hi s) {i : Nat} {L : T AV} {n : Nat} {ps : List Nat} {asg body : Code} {st : Nat} {jump : Option Ex} (e : M.ob i = some (.loop L n ps asg body st jump)) (hv : cx.vis i) :
    ∃ b z r, s.σ i = some (b, 0, z) ∧ s.W.heap[b]? = some (.loop r) ∧ LoopR s.σ L n ps asg body st jump r := by
  obtain ⟨b, f, z, o, h1, h2, rfl, r, rfl, h3⟩ := hs.rel.rep i _ (hs.obj e hv)
  exact ⟨b, z, r, h1, h2, h3⟩
theorem evRoundEnd_in {i : Nat} {x : Ex} {L : T AV} {v : AV} (h : (evRoundEnd i x L M).In v M') : ∃ Lb nb pb ab bb jb, M.ob i = some (.loop Lb nb pb ab bb 1 jb) ∧
    ((x = .normal ∧ v = .bool true ∧ M' = M.wrote i (some (.loop Lb nb pb ab bb 0 none))) ∨ (x ≠ .normal ∧ v = .bool false ∧ M' = M.wrote i (some (.loop Lb nb pb ab bb 2 (some x))))) := by
  unfold evRoundEnd at h
  split at h
  · next eo =>
    split at h
    · obtain ⟨rfl, rfl⟩ := h
      exact ⟨_, _, _, _, _, _, eo, .inl ⟨rfl, rfl, rfl⟩⟩
    · next hx =>
      obtain ⟨rfl, rfl⟩ := h
      exact ⟨_, _, _, _, _, _, eo, .inr ⟨fun h => hx h, rfl, rfl⟩⟩
  · exact h.elim
theorem evRoundEnd_gr {i : Nat} {x : Ex} {L : T AV} {v : AV} (h : (evRoundEnd i x L M).In v M') : Gr M M' := by
  obtain ⟨_, _, _, _, _, _, eo, ⟨_, _, rfl⟩ | ⟨_, _, rfl⟩⟩ := evRoundEnd_in h
  · exact .wrote (.inl (ob_eq eo).1)
  · exact .wrote (.inl (ob_eq eo).1)
theorem evRound_gr (hS : SelfOk P B E self) {i : Nat} {args : List AV} {v : AV} (h : (evRound self i args M).In v M') : Gr M M' := by
  unfold evRound at h
  split at h
  · split at h
    · split at h
      · next hx =>
        split at h
        · next eo =>
          have g1 := (hS.gr _ _ _ _ _ _ _ (show Rs.In (self _ _ _ _) _ _ _ by rw [hx]; exact ⟨rfl, rfl, rfl⟩)).1
          obtain ⟨x, L3, M3, h1, h2⟩ := Rs.bind1_in h
          have g2 := (hS.gr _ _ _ _ _ _ _ h1).1
          exact (Gr.saw M i).trans (g1.trans ((Gr.wrote (.inl (ob_eq eo).1)).trans (g2.trans (evRoundEnd_gr h2))))
        · exact h.elim
      · exact h.elim
    · exact h.elim
  · exact h.elim
theorem evRound_ok (ro : Option Nat) (hS : SelfOk P B E self) (hs : Is B E.ng cx M hi s) {i : Nat} {args : List AV} {vs : List Value} (hv : LRel s.σ args vs) {p : AV → Mem → Prop} (h : (evRound self i args M).All fun v M' => LogOk cx M' ∧ M'.next ≤ hi ∧ p v M') :
    ∃ b z r, s.σ i = some (b, 0, z) ∧ s.W.heap[b]? = some (.loop r) ∧ vs.toArray.size = r.params.size ∧
      RoundIn (fw ro) 0 P b r.fn ((r.params.zip vs.toArray).foldl (fun tmps (t, a) => tmps.setIfInBounds t a) r.tmps) r.assign r.body s.W (Ret B E.ng cx M hi s p) := by
  unfold evRound at h
  split at h
  · next L n ps asg body jump eo =>
    split at h
    · next L1 el =>
      split at h
      · next L2 M2 hx =>
        split at h
        · next La na pa aa ba ja eo2 =>
          have hin1 : (self n (.code asg) (L1.set n (some .rd)) (M.saw i)).In .normal L2 M2 := by rw [hx]; exact ⟨rfl, rfl, rfl⟩
          obtain ⟨g1, rd1⟩ := hS.gr _ _ _ _ _ _ _ hin1
          have rd2 : L2.get n = some .rd := rd1 (T.get_set_eq _ _)
          have hall := Rs.bind1_all h
          obtain ⟨x0, L0, M0, h0⟩ := hall.ex
          obtain ⟨v0, m0, h00⟩ := (hall.all _ _ _ h0).ex
          obtain ⟨l00, n00, _⟩ := (hall.all _ _ _ h0).all _ _ h00
          have l0 := l00.back (evRoundEnd_gr h00)
          have lw := l0.back (hS.gr _ _ _ _ _ _ _ h0).1
          have hwi : cx.wok i := lw.wr i (List.mem_cons_self ..)
          have hvi : cx.vis i := cx.seen i hwi
          have l2 := lw.back (Gr.wrote (.inl (ob_eq eo2).1))
          have n2 : M2.next ≤ hi := Nat.le_trans (hS.gr _ _ _ _ _ _ _ h0).1.next (Nat.le_trans (evRoundEnd_gr h00).next n00)
          obtain ⟨b, z, r, e1, e2, e3⟩ := hs.loopAt eo hvi
          obtain ⟨k1, k2, k3⟩ := layPs_rel ps args vs L L1 r.tmps el hv e3.size e3.val
          have hzip : (r.params.zip vs.toArray).foldl (fun tmps (t, a) => tmps.setIfInBounds t a) r.tmps = (ps.zip vs).foldl (fun (tmps : Array Value) (p : Nat × Value) => tmps.setIfInBounds p.1 p.2) r.tmps := by
            rw [e3.params, ← Array.foldl_toList]
            simp
          refine ⟨b, z, r, e1, e2, by rw [e3.params]; simp [k1], ?_⟩
          rw [hzip]
          generalize (ps.zip vs).foldl (fun (tmps : Array Value) (p : Nat × Value) => tmps.setIfInBounds p.1 p.2) r.tmps = tm at k2 k3
          refine roundIn_of_wpIn trivial ?_
          rw [e3.asg, e3.body]
          have hL1 : Loc s.σ (L1.set n (some .rd)) n { tmps := tm, defers := [] } := by
            refine ⟨k2, fun t y ht => ?_, by rw [T.get_set_eq]; trivial⟩
            by_cases q : t = n
            · subst q
              rw [T.get_set_eq] at ht
              cases ht
              exact .rd _
            · rw [T.get_set_ne _ _ q] at ht
              exact k3 t y ht
          refine hS.ok (some b) n (.code asg) _ (M.saw i) cx hi s _ _ (hs.saw i) hL1 (fun _ => T.get_set_eq _ _) ?_
          rw [hx]
          refine .one ⟨l2, n2, fun s1 a1 q1 q2 q3 => ?_⟩
          obtain ⟨b1, z1, r1, f1, f2, f3⟩ := q1.loopAt eo2 hvi
          have eb : b1 = b := by
            have := q2.le _ _ e1
            rw [f1] at this
            cases this
            rfl
          subst eb
          obtain ⟨s2, t1, t2, t3, t4⟩ := q1.setO (x' := some (.loop La na pa aa ba 1 ja)) (o' := .loop { r1 with state := .busy }) eo2 hvi hwi f1 (fun y hy => by
            cases hy
            exact ⟨rfl, _, rfl, f3.size, f3.val, f3.params, f3.asg, f3.body, rfl, f3.jump⟩)
          refine ⟨s2.W, by rw [t1]; exact run_beginRound f2 f3.st, ?_⟩
          refine hS.ok (some b1) n (.code body) L2 _ cx hi s2 _ _ t3 (q3.mono (by rw [t2]; exact .refl _)) (fun _ => rd2) ⟨hall.ex, fun x3 L3 M3 hin3 => ?_⟩
          have hx3 := hall.all x3 L3 M3 hin3
          obtain ⟨v3, m3, h3⟩ := hx3.ex
          obtain ⟨l3, n3, p3⟩ := hx3.all v3 m3 h3
          have g3 := evRoundEnd_gr h3
          refine ⟨l3.back g3, Nat.le_trans g3.next n3, fun s3 a3 u1 u2 u3 => ?_⟩
          obtain ⟨Lb, nb, pb, ab, bb, jb, eo3, hend⟩ := evRoundEnd_in h3
          obtain ⟨b3, z3, r3, w1, w2, w3⟩ := u1.loopAt eo3 hvi
          have eb : b3 = b1 := by
            have := u2.le _ _ (show s2.σ i = some (b1, 0, z1) by rw [t2]; exact f1)
            rw [w1] at this
            cases this
            rfl
          subst eb
          have tos : To cx M.next hi s s3 := (q2.trans t4 g1.next).trans u2 (by
            have := g1.next
            exact this)
          rcases hend with ⟨rfl, rfl, rfl⟩ | ⟨hne, rfl, rfl⟩
          · obtain ⟨s4, y1, y2, y3, y4⟩ := u1.setO (x' := some (.loop Lb nb pb ab bb 0 none)) (o' := .loop { r3 with state := .ready, pending := none }) eo3 hvi hwi w1 (fun y hy => by
              cases hy
              exact ⟨rfl, _, rfl, w3.size, w3.val, w3.params, w3.asg, w3.body, rfl, rfl⟩)
            refine ⟨.bool true, s4.W, by rw [y1]; exact run_endRound none w2, _, _, s4, p3, rfl, .bool _, y3, tos.trans y4 ?_⟩
            exact Nat.le_trans g1.next (hS.gr _ _ _ _ _ _ _ hin3).1.next
          · cases x3 with
            | normal => exact absurd rfl hne
            | ret =>
              obtain ⟨s4, y1, y2, y3, y4⟩ := u1.setO (x' := some (.loop Lb nb pb ab bb 2 (some .ret))) (o' := .loop { r3 with state := .done, pending := some .ret }) eo3 hvi hwi w1 (fun y hy => by
                cases hy
                exact ⟨rfl, _, rfl, w3.size, w3.val, w3.params, w3.asg, w3.body, rfl, rfl⟩)
              refine ⟨.bool false, s4.W, by rw [y1]; exact run_endRound (some .ret) w2, _, _, s4, p3, rfl, .bool _, y3, tos.trans y4 ?_⟩
              exact Nat.le_trans g1.next (hS.gr _ _ _ _ _ _ _ hin3).1.next
            | exit id =>
              obtain ⟨s4, y1, y2, y3, y4⟩ := u1.setO (x' := some (.loop Lb nb pb ab bb 2 (some (.exit id)))) (o' := .loop { r3 with state := .done, pending := some (.exit id) }) eo3 hvi hwi w1 (fun y hy => by
                cases hy
                exact ⟨rfl, _, rfl, w3.size, w3.val, w3.params, w3.asg, w3.body, rfl, rfl⟩)
              refine ⟨.bool false, s4.W, by rw [y1]; exact run_endRound (some (.exit id)) w2, _, _, s4, p3, rfl, .bool _, y3, tos.trans y4 ?_⟩
              exact Nat.le_trans g1.next (hS.gr _ _ _ _ _ _ _ hin3).1.next
        · exact absurd rfl h.is
      · exact absurd rfl h.is
    · exact absurd rfl h.is
  · exact absurd rfl h.is
end
end GrG
