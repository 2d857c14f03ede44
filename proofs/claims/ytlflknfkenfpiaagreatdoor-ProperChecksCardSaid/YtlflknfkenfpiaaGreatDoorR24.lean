/-
  Texts of one claim, merged.
-/
import Derived.Test.YtlflknfkenfpiaaGreatDoorR23
import Derived.TacticsIn
set_option linter.unusedSimpArgs false
set_option linter.unusedVariables false
namespace GrG
open Go Go.RowKit
section
variable {P : Program} {B : World} {E : Env} {self : Self} {cx : Cx} {M M' : Mem} {hi n : Nat} {s : At} {L : T AV} {a : Act}
theorem emake_gr {t : Nat} {x y r : AV} (e : emake E M t x y = some (r, M')) : Gr M M' := by
  unfold emake at e
  repeat' split at e
  all_goals first
    | (cases e; done)
    | (simp only [fN_eq, newRow_eq, Option.some.injEq, Prod.mk.injEq] at e; obtain ⟨_, rfl⟩ := e; exact .anew (anew_pair _ _))
theorem ebs_gr {t k : Nat} {l : List (Nat × AV)} {r : AV} (e : ebs E M t k l = some (r, M')) : Gr M M' := by
  unfold ebs at e
  repeat' split at e
  all_goals first
    | (cases e; done)
    | (simp only [fN_eq, newRow_eq, Option.some.injEq, Prod.mk.injEq] at e; obtain ⟨_, rfl⟩ := e; exact .anew (anew_pair _ _))
theorem pv_gr {y : Option AV} {v : AV} (h : (pv M y).In v M') : Gr M M' := by
  obtain ⟨_, rfl⟩ := pv_in h
  exact .refl _
theorem oBlock_gr {ty : Option Nat} {l : List AV} {v : AV} (h : (oBlock ty M l).In v M') : Gr M M' := by
  obtain ⟨_, rfl⟩ : v = .ptr (anew M (.row ty (T.ofA l))).1 0 ∧ M' = (anew M (.row ty (T.ofA l))).2 := h
  exact .anew (anew_pair _ _)
theorem binAny_gr {op : BinOp} {x y v : AV} (h : (binAny op x y M).In v M') : Gr M M' := by
  unfold binAny at h
  split at h
  · rcases List.mem_cons.1 h with h | h
    · cases h; exact .refl _
    · rcases List.mem_cons.1 h with h | h
      · cases h; exact .refl _
      · cases h
  · exact h.elim
theorem buF_gr {b : Builtin} {ts : List Nat} {l : List AV} {v : AV} (h : (buF b ts l E M).In v M') : Gr M M' := by
  cases b <;> first
    | exact h.elim
    | (have h : (uLen ts l E M).In v M' := h
       unfold uLen at h
       split at h
       · exact (elen_gr (pm_in h)).1
       · exact h.elim)
    | (have h : (uCap ts l E M).In v M' := h
       unfold uCap at h
       split at h
       · have e := pm_in h
         unfold ecap at e
         repeat' split at e
         all_goals first
           | (cases e; done)
           | (simp only [Option.some.injEq, Prod.mk.injEq] at e; obtain ⟨_, rfl⟩ := e; exact .refl _)
       · exact h.elim)
    | (have h : (uAppend ts l E M).In v M' := h
       unfold uAppend at h
       split at h
       · exact eapp_gr (pm_in h)
       · exact h.elim)
    | (have h : (uCopy ts l E M).In v M' := h
       unfold uCopy at h
       split at h
       · exact ecopy_gr (pm_in h)
       · exact h.elim)
    | (have h : (uSliceData ts l E M).In v M' := h
       unfold uSliceData at h
       split at h
       · exact pv_gr h
       · exact h.elim)
    | (have h : (uString ts l E M).In v M' := h
       unfold uString at h
       split at h
       · exact eustr_gr (pm_in h)
       · exact h.elim)
    | (have h : (uMin ts l E M).In v M' := h
       unfold uMin at h
       split at h
       · exact pv_gr h
       · exact h.elim)
    | (have h : (uMax ts l E M).In v M' := h
       unfold uMax at h
       split at h
       · exact pv_gr h
       · exact h.elim)
theorem cVal_gr (hS : SelfOk P B E self) {f v : AV} {l : List AV} (h : (cVal f l E self M).In v M') : Gr M M' := by
  unfold cVal at h
  split at h
  · split at h
    · exact evCallF_gr hS h
    · split at h
      · exact (ext_gr (pm_in h)).1
      · exact h.elim
  · exact evRound_gr hS h
  · exact h.elim
theorem evOp_gr (hS : SelfOk P B E self) {op : Op} {v : AV} (h : (evOp op E self L M).In v M') : Gr M M' := by
  cases op with
  | move x => exact pv_gr h
  | assign x => exact pv_gr h
  | pick c x y =>
    have h : (oPick c x y E self L M).In v M' := h
    unfold oPick at h
    repeat' split at h
    all_goals first | exact pv_gr h | exact h.elim
  | alloc t =>
    have h : (oAlloc t E self L M).In v M' := h
    unfold oAlloc at h
    repeat' split at h
    all_goals first | exact oBlock_gr h | exact h.elim
  | box t x =>
    have h : (oBox t x E self L M).In v M' := h
    unfold oBox at h
    repeat' split at h
    all_goals first | exact oBlock_gr h | exact h.elim
  | build t parts =>
    have h : (oBuild t parts E self L M).In v M' := h
    unfold oBuild at h
    repeat' split at h
    all_goals first | exact pv_gr h | exact h.elim
  | buildSlice t len parts =>
    have h : (oBuildSlice t len parts E self L M).In v M' := h
    unfold oBuildSlice at h
    repeat' split at h
    all_goals first | exact ebs_gr (pm_in h) | exact h.elim
  | insert t m k x =>
    have h : (oMapUpdate t m k x E self L M).In v M' := h
    unfold oMapUpdate at h
    repeat' split at h
    all_goals first | exact emapUpdate_gr (ps_in h).1 | exact h.elim
  | load t x =>
    have h : (oLoad t x E self L M).In v M' := h
    unfold oLoad at h
    repeat' split at h
    all_goals first | exact (aload_logs (pm_in h)).1 | exact h.elim
  | store t x y =>
    have h : (oStore t x y E self L M).In v M' := h
    unfold oStore at h
    repeat' split at h
    all_goals first | exact (astore_gr (ps_in h).1).1 | exact h.elim
  | ready g => exact h.elim
  | waits g => exact h.elim
  | nilCheck x =>
    have h : (oNilCheck x E self L M).In v M' := h
    unfold oNilCheck at h
    repeat' split at h
    all_goals first | exact pv_gr h | exact h.elim
  | binOp op t x y yt =>
    have h : (oBin op t x y yt E self L M).In v M' := h
    unfold oBin at h
    repeat' split at h
    all_goals first | (obtain ⟨_, rfl⟩ := h; exact .refl _) | exact binAny_gr h | exact h.elim
  | unOp op t x =>
    have h : (oUn op t x E self L M).In v M' := h
    unfold oUn at h
    repeat' split at h
    all_goals first | exact pv_gr h | exact h.elim
  | convert t u x =>
    have h : (oConv t u x E self L M).In v M' := h
    unfold oConv at h
    repeat' split at h
    all_goals first | exact pv_gr h | exact h.elim | exact econvU_logs (pm_in h)
  | sliceToArrayPointer t x => exact h.elim
  | makeInterface t x => exact h.elim
  | makeFunc fn first cap =>
    have h : (oMakeFunc fn first cap E self L M).In v M' := h
    unfold oMakeFunc at h
    split at h
    · obtain ⟨_, rfl⟩ := h
      exact .refl _
    · exact h.elim
  | makeMap t r =>
    have h : (oMakeMap t r E self L M).In v M' := h
    unfold oMakeMap at h
    split at h
    · exact emakeMap_gr (pm_in h)
    · exact h.elim
  | makeChan t x => exact h.elim
  | makeSlice t x y =>
    have h : (oMakeSlice t x y E self L M).In v M' := h
    unfold oMakeSlice at h
    repeat' split at h
    all_goals first | exact emake_gr (pm_in h) | exact h.elim
  | slice t x lo hi' mx =>
    have h : (oSlice t x lo hi' mx E self L M).In v M' := h
    unfold oSlice at h
    split at h
    · exact pv_gr h
    · exact h.elim
  | fieldAddr t x f =>
    have h : (oFieldAddr t x f E self L M).In v M' := h
    unfold oFieldAddr at h
    repeat' split at h
    all_goals first | exact pv_gr h | exact h.elim
  | field t x f =>
    have h : (oField t x f E self L M).In v M' := h
    unfold oField at h
    repeat' split at h
    all_goals first | exact pv_gr h | exact h.elim
  | indexAddr t x y =>
    have h : (oIndexAddr t x y E self L M).In v M' := h
    unfold oIndexAddr at h
    repeat' split at h
    all_goals first | exact pv_gr h | exact h.elim
  | index t x y =>
    have h : (oIndex t x y E self L M).In v M' := h
    unfold oIndex at h
    repeat' split at h
    all_goals first | exact pv_gr h | exact h.elim
  | lookup t x y ok =>
    have h : (oLookup t x y ok E self L M).In v M' := h
    unfold oLookup at h
    repeat' split at h
    all_goals first | exact (elookup_gr (pm_in h)).1 | exact h.elim
  | mapUpdate t m k x =>
    have h : (oMapUpdate t m k x E self L M).In v M' := h
    unfold oMapUpdate at h
    repeat' split at h
    all_goals first | exact emapUpdate_gr (ps_in h).1 | exact h.elim
  | mapEntry t x y =>
    have h : (oMapEntry t x y E self L M).In v M' := h
    unfold oMapEntry at h
    repeat' split at h
    all_goals first | exact emapEntry_gr (pm_in h) | exact h.elim
  | entryStore t m k x =>
    have h : (oEntryStore t m k x E self L M).In v M' := h
    unfold oEntryStore at h
    repeat' split at h
    all_goals first | exact eentryStore_gr (ps_in h).1 | exact h.elim
  | range t x =>
    have h : (oRange t x E self L M).In v M' := h
    unfold oRange at h
    repeat' split at h
    all_goals first | exact erange_gr (pm_in h) | exact h.elim
  | next x str =>
    have h : (oNext x str E self L M).In v M' := h
    unfold oNext at h
    split at h
    · split at h
      · next p e =>
        obtain ⟨_, rfl⟩ := h
        exact enext_gr e p (List.mem_singleton.2 rfl)
      · next l _ e => exact enext_gr e (v, M') h
      · exact h.elim
    · exact h.elim
  | entry x =>
    have h : (oEntry x E self L M).In v M' := h
    unfold oEntry at h
    repeat' split at h
    all_goals first | exact (eentry_gr (pm_in h)).1 | exact h.elim
  | typeAssert x t u ok => exact h.elim
  | extract x i =>
    have h : (oExtract x i E self L M).In v M' := h
    unfold oExtract at h
    repeat' split at h
    all_goals first | exact pv_gr h | exact h.elim
  | call c =>
    have h : (oCall c E self L M).In v M' := h
    unfold oCall at h
    split at h
    · split at h
      · exact cVal_gr hS h
      · exact h.elim
    · split at h
      · exact buF_gr h
      · exact h.elim
    · exact h.elim
  | go c => exact h.elim
  | defer c =>
    have h : (oDefer c E self L M).In v M' := h
    unfold oDefer at h
    repeat' split at h
    all_goals exact h.elim
  | panic x => exact h.elim
  | send x y => exact h.elim
  | recv t x ok => exact h.elim
  | select cs b => exact h.elim
theorem evOne_gr (hS : SelfOk P B E self) {ops : Array Oper} {o : Oper} {v : AV} (h : (evOne E self n ops L M o).In v M') : Gr M M' := by
  unfold evOne at h
  split at h
  · exact evOp_gr hS h
  · obtain ⟨_, rfl⟩ := h
    exact .refl _
  · exact h.elim
theorem getD_bool {tmps : Array Value} {d : Nat} {b : Bool} (h : tmps.getD d undef = .bool b) : tmps[d]? = some (.bool b) := by
  rw [Array.getD_eq_getD_getElem?] at h
  cases e : tmps[d]? with
  | none => rw [e] at h; cases h
  | some v => rw [e] at h; simp only [Option.getD_some] at h; rw [h]
theorem ewant_sound (hL : Loc s.σ L n a) {ops : Array Oper} {o : Oper} {b : Bool} (e : ewant ops L o = some b) : Region.wanted o (yielded ops a.tmps) = b := by
  unfold ewant at e
  unfold Region.wanted
  split at e
  · next hg =>
    simp only [Option.some.injEq] at e
    subst e
    rw [hg]
  · next j want hg =>
    rw [hg]
    split at e
    · next p hp =>
      split at e
      · next d hd =>
        split at e
        · next b' hb =>
          simp only [Option.some.injEq] at e
          subst e
          have hv := hL.val d _ hb
          generalize hq : a.tmps.getD d undef = q at hv
          cases hv
          have := getD_bool hq
          simp [yielded, hp, hd, this]
        · next hb =>
          simp only [Option.some.injEq] at e
          subst e
          have hv := hL.val d _ hb
          generalize hq : a.tmps.getD d undef = q at hv
          cases hv
          next vs hl =>
          cases hl
          have : ∀ b, a.tmps[d]? ≠ some (.bool b) := fun b h => by
            rw [Array.getD_eq_getD_getElem?, h] at hq
            cases hq
          have hy : yielded ops a.tmps j = none := by
            unfold yielded
            rw [hp]
            simp only [Option.bind_some, hd]
          show (yielded ops a.tmps j == some want) = false
          rw [hy]
          rfl
        · cases e
      · cases e
    · cases e
theorem evDefer_ok {o : Oper} {d : AV} (hs : Is B E.ng cx M hi s) (hL : Loc s.σ L n a) (ho : isDfr o.op = true) (e : evOp o.op E self L M = .dfr d M') :
    M' = M ∧ ∃ q : Deferred, (∀ L1, putD L n d = some L1 → Loc s.σ L1 n { a with defers := q :: a.defers }) ∧
      ∀ (Q : Exit → Act → World → Prop) (next : Act → World → Prop), next ({ a with defers := q :: a.defers }.put o.dst undef) s.W → o.wpIn (fw none) 0 P a s.W next Q := by
  cases hop : o.op with
  | defer c =>
    rw [hop] at e
    have e : oDefer c E self L M = .dfr d M' := e
    unfold oDefer at e
    split at e
    · next f hc =>
      split at e
      · next g fi caps l ef el =>
        cases e
        have hf := aev_rel hL hs ef
        have hl := aevL_rel hL hs el
        generalize hq : a.eval f = q at hf
        cases hf with
        | func hfi hcaps =>
          next us vs =>
          refine ⟨rfl, { target := .fn (.func g) vs.toArray, args := (us ++ c.args.toList.map a.eval).toArray }, fun L1 h1 => ?_, fun Q next hn => ⟨fun _ _ => trivial, ?_⟩⟩
          · unfold putD at h1
            have hd := hL.dfr
            split at h1
            · next e0 =>
              cases h1
              rw [e0] at hd
              have hd : a.defers = [] := hd
              refine ⟨hL.size, fun t x ht => ?_, ?_⟩
              · by_cases q : t = n
                · subst q
                  rw [T.get_set_eq] at ht
                  cases ht
                  exact .dl _ _
                · rw [T.get_set_ne _ _ q] at ht
                  exact hL.val t x ht
              · rw [T.get_set_eq, hd]
                exact .fn hcaps (hfi.app hl) .nil
            · next ds e0 =>
              cases h1
              rw [e0] at hd
              have hd : DRel s.σ ds a.defers := hd
              refine ⟨hL.size, fun t x ht => ?_, ?_⟩
              · by_cases q : t = n
                · subst q
                  rw [T.get_set_eq] at ht
                  cases ht
                  exact .dl _ _
                · rw [T.get_set_ne _ _ q] at ht
                  exact hL.val t x ht
              · rw [T.get_set_eq]
                exact .fn hcaps (hfi.app hl) hd
            · cases h1
          · have hr : (o.semAt none a.eval).run P s.W = .ok (.defer { target := .fn (.func g) vs.toArray, args := (us ++ c.args.toList.map a.eval).toArray }) s.W := by
              simp only [Oper.semAt, hop, execOp, resolve, hc, hq, Deferred.ofValue, Sem.run_bind, run_pureS, Result.andThen_ok]
              congr 3
              apply Array.toList_inj.1
              simp
            rw [show (fw none).round = none from rfl, hr]
            exact hn
      · cases e
    · cases e
  | _ => rw [hop] at ho; cases ho
theorem putL_rd {L L' : T AV} {d : Option Nat} {x : AV} (e : putL L n d x = some L') : L'.get n = L.get n := by
  cases d with
  | none => cases e; rfl
  | some d =>
    simp only [putL] at e
    split at e
    · next e1 =>
      cases e
      exact T.get_set_ne _ _ (by have := blt_t e1; omega)
    · cases e
theorem putD_rd {L L' : T AV} {d : AV} (e : putD L n d = some L') (h : L.get n = some .rd) : L'.get n = some .rd := by
  unfold putD at e
  rw [h] at e
  cases e
noncomputable def opK (n : Nat) (o : Oper) (k : T AV → Mem → Rs) (v : AV) (M1 : Mem) : Rs := match putL L n o.dst v with
  | some L1 => k L1 M1
  | none => .no
theorem opStep_cases {ops : Array Oper} {o : Oper} {k : T AV → Mem → Rs} (h : opStep E self n ops o k L M ≠ .no) :
    opStep E self n ops o k L M = (evOne E self n ops L M o).bind (opK (L := L) n o k) ∨ ∃ d M1 L1, evOne E self n ops L M o = .dfr d M1 ∧ isDfr o.op = true ∧ o.dst = none ∧ putD L n d = some L1 ∧ opStep E self n ops o k L M = k L1 M1 := by
  unfold opStep at h ⊢
  split at h
  · next v M1 e1 =>
    refine .inl ?_
    rw [e1]
    rfl
  · next d M1 e1 =>
    split at h
    · next L1 e2 e3 e4 =>
      refine .inr ⟨d, M1, L1, e1, e2, e3, e4, ?_⟩
      simp only [e1, e2, e3, e4]
    · exact absurd rfl h
  · next ll e1 =>
    refine .inl ?_
    rw [e1]
    rfl
  · exact absurd rfl h
theorem evOps_cons {ops : Array Oper} {o : Oper} {l : List Oper} : evOps E self n ops (o :: l) L M = opStep E self n ops o (evOps E self n ops l) L M := rfl
theorem evOne_dfr_gr {ops : Array Oper} {o : Oper} {d : AV} (ho : isDfr o.op = true) (e : evOne E self n ops L M o = .dfr d M') : M' = M := by
  unfold evOne at e
  split at e
  · cases hop : o.op with
    | defer c =>
      rw [hop] at e
      have e : oDefer c E self L M = .dfr d M' := e
      unfold oDefer at e
      repeat' split at e
      all_goals first
        | (cases e; done)
        | (cases e; rfl)
    | _ => rw [hop] at ho; cases ho
  · cases e
  · cases e
theorem evOps_gr (hS : SelfOk P B E self) {ops : Array Oper} : ∀ (l : List Oper) (L : T AV) (M : Mem) (x : Ex) (L' : T AV) (M' : Mem), (evOps E self n ops l L M).In x L' M' → Gr M M' ∧ (L.get n = some .rd → L'.get n = some .rd)
  | [], L, M, x, L', M', h => by
    obtain ⟨rfl, rfl, rfl⟩ := h
    exact ⟨.refl _, id⟩
  | o :: l, L, M, x, L', M', h => by
    rw [evOps_cons] at h
    rcases opStep_cases (Rs.in_no h) with e | ⟨d, M1, L1, e1, e2, e3, e4, e5⟩
    · rw [e] at h
      obtain ⟨v, M1, h1, h2⟩ := R1.bind_in h
      unfold opK at h2
      split at h2
      · next L1 hp =>
        obtain ⟨g1, g2⟩ := evOps_gr hS l L1 M1 x L' M' h2
        exact ⟨(evOne_gr hS h1).trans g1, fun q => g2 (by rw [putL_rd hp]; exact q)⟩
      · exact h2.elim
    · rw [e5] at h
      obtain ⟨g1, g2⟩ := evOps_gr hS l L1 M1 x L' M' h
      rw [evOne_dfr_gr e2 e1] at g1
      exact ⟨g1, fun q => g2 (putD_rd e4 q)⟩
def Hx (B : World) (G : Nat) (cx : Cx) (M : Mem) (hi n : Nat) (s : At) (Q : Exit → Act → World → Prop) (x : Ex) (L' : T AV) (M' : Mem) : Prop :=
  LogOk cx M' ∧ M'.next ≤ hi ∧ ∀ s' a', Is B G cx M' hi s' → To cx M.next hi s s' → Loc s'.σ L' n a' → Q x.to a' s'.W
theorem evOps_ok (ro : Option Nat) (hE : EnvOk P E) (hS : SelfOk P B E self) {ops : Array Oper} {Q : Exit → Act → World → Prop} : ∀ (l : List Oper) (L : T AV) (M : Mem) (s : At) (a : Act), Is B E.ng cx M hi s → Loc s.σ L n a → (ro ≠ none → L.get n = some .rd) →
    (evOps E self n ops l L M).All (Hx B E.ng cx M hi n s Q) → wpListIn (fw ro) 0 P ops Q l a s.W
  | [], L, M, s, a, hs, hL, hr, h => by
    obtain ⟨_, _, k⟩ := h.all _ _ _ ⟨rfl, rfl, rfl⟩
    exact k s a hs .refl hL
  | o :: l, L, M, s, a, hs, hL, hr, h => by
    rw [evOps_cons] at h
    rcases opStep_cases h.is with e | ⟨d, M1, L1, e1, e2, e3, e4, e5⟩
    · rw [e] at h
      have h := R1.bind_all h
      have h' : (evOne E self n ops L M o).All (Nx B E.ng cx M hi s o a (wpListIn (fw ro) 0 P ops Q l)) := ⟨h.ex, fun v M1 hin => by
        have hk := h.all v M1 hin
        unfold opK at hk
        split at hk
        · next L1 hp =>
          obtain ⟨x, L', M', hx⟩ := hk.ex
          obtain ⟨k1, k2, k3⟩ := hk.all _ _ _ hx
          have g := (evOps_gr hS l L1 M1 x L' M' hx).1
          refine ⟨k1.back g, Nat.le_trans g.next k2, fun s' q hs' ht hv => ?_⟩
          refine evOps_ok ro hE hS l L1 M1 s' _ hs' ((hL.mono ht.le).put hp hv) (fun q => by rw [putL_rd hp]; exact hr q) (hk.mono fun x L' M' hh => ⟨hh.1, hh.2.1, fun s'' a' hs'' ht' hl' => hh.2.2 s'' a' hs'' (ht.trans ht' (evOne_gr hS hin).next) hl'⟩)
        · exact absurd rfl hk.is⟩
      simp only [wpListIn]
      unfold evOne at h'
      split at h'
      · next ew =>
        rw [ewant_sound hL ew]
        exact evOp_ok ro hE hS hs hL h'
      · next ew =>
        rw [ewant_sound hL ew]
        refine ⟨fun _ _ => trivial, ?_⟩
        exact (h'.all _ _ ⟨rfl, rfl⟩).2.2 s undef hs .refl (.tup .nil)
      · exact absurd rfl h'.is
    · rw [e5] at h
      have hro : ro = none := by
        cases ro with
        | none => rfl
        | some r =>
          have := hr (by simp)
          unfold putD at e4
          rw [this] at e4
          cases e4
      subst hro
      unfold evOne at e1
      split at e1
      · next ew =>
        obtain ⟨rfl, q, q1, q2⟩ := evDefer_ok hs hL e2 e1
        simp only [wpListIn]
        rw [ewant_sound hL ew]
        refine q2 _ _ ?_
        rw [e3]
        exact evOps_ok none hE hS l L1 M1 s _ hs (q1 L1 e4) (fun q => absurd rfl q) h
      · cases e1
      · cases e1
end
end GrG
