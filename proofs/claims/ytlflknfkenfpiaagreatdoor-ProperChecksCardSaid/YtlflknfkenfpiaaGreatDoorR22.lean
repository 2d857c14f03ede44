/-
  Texts of one claim, merged.
-/
import Derived.Test.YtlflknfkenfpiaaGreatDoorR2f
set_option linter.unusedSimpArgs false
set_option linter.unusedVariables false
namespace GrG
open Go Go.RowKit
section
variable {P : Program} {B : World} {G : Nat} {E : Env} {cx : Cx} {M M' : Mem} {hi : Nat} {s : At}
theorem mp_some {α : Type} {x : Option α} {y : α} (h : mp x = some y) : mapsOn = true ∧ x = some y := ⟨rfl, h⟩
theorem elookup_gr {t : Nat} {x k r : AV} {ok : Bool} (e : elookup E M t x k ok = some (r, M')) : Gr M M' ∧ M'.objs = M.objs ∧ M'.next = M.next := by
  unfold elookup at e
  repeat' split at e
  all_goals first
    | (cases e; done)
    | (simp only [Option.some.injEq, Prod.mk.injEq] at e; obtain ⟨_, rfl⟩ := e; first | exact ⟨.refl _, rfl, rfl⟩ | exact ⟨.saw _ _, rfl, rfl⟩)
theorem mtys_inv (hE : EnvOk P E) {t : Nat} {z : AV} {ky : TyI} (e : mtys E t = some (z, ky)) (σ : Sg) : ∃ kt vt, P.underlying t = some (.map kt vt) ∧ facts P kt = some ky ∧ ∃ q, VRel σ z q ∧ ∀ w, (zeroValue vt).run P w = .ok q w := by
  unfold mtys at e
  split at e
  · next ty et =>
    obtain ⟨d, f, v, e1, e2, e3, e4, e5, _⟩ := facts_all (hE.tys _ _ et)
    split at e
    · next kt vt ek =>
      rw [ek] at e5
      obtain rfl := tk_map e5
      split at e
      · next ky' vy ey ev =>
        split at e
        · next z' ez =>
          simp only [Option.some.injEq, Prod.mk.injEq] at e
          obtain ⟨rfl, rfl⟩ := e
          refine ⟨kt, vt, e1, hE.tys _ _ ey, ?_⟩
          obtain ⟨d', f', u, _, g2, g3, g4, _, g6⟩ := facts_form (hE.tys _ _ ev)
          have hr := ofL_rel (σ := σ) g4
          refine ⟨u, ?_, fun w => by simp [zeroValue, typeInfo, program, g2, g3, Sem.run]⟩
          unfold zval at ez
          split at ez
          · next ea =>
            rw [ea] at g6
            cases u <;> first | (cases g6; done) | skip
            simp only [Option.some.injEq] at ez
            subst ez
            have := VRel.agg hr
            simpa [Value.cells] using this
          · next ea =>
            rw [ea] at g6
            split at ez
            · next a e0 =>
              simp only [Option.some.injEq] at ez
              subst ez
              rw [e0] at hr
              have hu : u.cells.toList = [u] := by cases u <;> first | rfl | cases g6
              rw [hu] at hr
              cases hr with
              | cons h _ => exact h
            · cases ez
        · cases e
      · cases e
    · cases e
  · cases e
theorem und_run {t : Nat} {d : TypeDesc} (h : P.underlying t = some d) (w : World) : (underlying t).run P w = .ok d w := run_underlying h w
theorem elookup_sound (hE : EnvOk P E) (hs : Is B G cx M hi s) {t : Nat} {x k r : AV} {ok : Bool} {u v : Value} (hx : VRel s.σ x u) (hk : VRel s.σ k v) (e : elookup E M t x k ok = some (r, M')) (hl : LogOk cx M') : ∃ q, VRel s.σ r q ∧ (Instr.lookup t u v ok).run P s.W = .ok q s.W := by
  unfold elookup at e
  split at e
  · next z ky em =>
    split at e
    · next ep =>
      obtain ⟨kt, vt, hu, hf, zq, hz, hzr⟩ := mtys_inv hE em s.σ
      obtain ⟨d, ks, l, vs, hkv⟩ := pkey_kv hf ep hk
      split at e
      · -- nil
        cases hx
        have hfind : (Instr.findKey kt v []).run P s.W = .ok none s.W := findKey_run (q := fun _ => false) hkv.und s.W [] (fun _ h => by cases h)
        have run : (Instr.lookup t (.map none) v ok).run P s.W = .ok (if ok then .tuple #[zq, .bool false] else zq) s.W := by
          unfold Instr.lookup
          simp only [Sem.run_bind, und_run hu, Result.andThen_ok, run_pureS, hkv.check, hfind, hzr, List.toList_toArray]
        split at e
        · simp only [Option.some.injEq, Prod.mk.injEq] at e
          obtain ⟨rfl, rfl⟩ := e
          exact ⟨_, .tup (.cons hz (.cons (.bool _) .nil)), run⟩
        · simp only [Option.some.injEq, Prod.mk.injEq] at e
          obtain ⟨rfl, rfl⟩ := e
          exact ⟨_, hz, run⟩
      · next i =>
        split at e
        · next es ck em2 =>
          have hM' : M' = M.saw i := by
            repeat' split at e
            all_goals first
              | (cases e; done)
              | (simp only [Option.some.injEq, Prod.mk.injEq] at e; exact e.2.symm)
          have hv : cx.vis i := hl.rd i (by rw [hM']; exact List.mem_cons_self ..)
          obtain ⟨hF, hlt, b, z', ws, clock, hsi, hb, hm⟩ := hs.mapAt em2 hv
          cases hx with
          | map hi' =>
            rw [hsi] at hi'
            cases hi'
            obtain ⟨h0, h1⟩ := hm.find hkv s.W
            have run : ∀ a, (Instr.findKey kt v ws.toList).run P s.W = .ok a s.W → (Instr.lookup t (.map (some b)) v ok).run P s.W = .ok (match a with
                | some (_, y) => if ok then .tuple #[y, .bool true] else y
                | none => if ok then .tuple #[zq, .bool false] else zq) s.W := fun a ha => by
              unfold Instr.lookup
              simp only [Sem.run_bind, und_run hu, Result.andThen_ok, run_pureS, hkv.check, ha, run_getObj_map hb]
              cases a with
              | none => simp only [Sem.run_bind, hzr, Result.andThen_ok, run_pureS]
              | some a => simp only [Sem.run_bind, run_pureS, Result.andThen_ok]
            split at e
            · next e0 ef =>
              simp only [Option.some.injEq, Prod.mk.injEq] at e
              obtain ⟨rfl, rfl⟩ := e
              obtain ⟨pre, post, wpre, w0, wpost, rfl, hw, hsp, hr, _⟩ := h1 _ ef
              exact ⟨_, .tup (.cons hsp.one.val (.cons (.bool _) .nil)), run _ hr⟩
            · next e0 ef =>
              simp only [Option.some.injEq, Prod.mk.injEq] at e
              obtain ⟨rfl, rfl⟩ := e
              obtain ⟨pre, post, wpre, w0, wpost, rfl, hw, hsp, hr, _⟩ := h1 _ ef
              exact ⟨_, hsp.one.val, run _ hr⟩
            · next ef =>
              simp only [Option.some.injEq, Prod.mk.injEq] at e
              obtain ⟨rfl, rfl⟩ := e
              exact ⟨_, .tup (.cons hz (.cons (.bool _) .nil)), run _ (h0 ef)⟩
            · next ef =>
              simp only [Option.some.injEq, Prod.mk.injEq] at e
              obtain ⟨rfl, rfl⟩ := e
              exact ⟨_, hz, run _ (h0 ef)⟩
            · cases e
        · cases e
      · cases e
    · cases e
  · cases e
theorem emap_lt {i : Nat} {es : List En} {ck : Option Nat} (e : M.emap i = some (es, ck)) : i < M.next := by
  unfold Mem.emap at e
  split at e
  · next eo => exact (ob_eq eo).1
  · cases e
theorem emap_ob {i : Nat} {es : List En} {ck : Option Nat} (e : M.emap i = some (es, ck)) : M.ob i = some (.map es ck) := by
  unfold Mem.emap at e
  split at e
  · next eo =>
    simp only [Option.some.injEq, Prod.mk.injEq] at e
    obtain ⟨rfl, rfl⟩ := e
    exact eo
  · cases e
theorem emapUpdate_gr {t : Nat} {x k v : AV} (e : emapUpdate E M t x k v = some M') : Gr M M' := by
  unfold emapUpdate at e
  repeat' split at e
  all_goals first
    | (cases e; done)
    | (simp only [Option.some.injEq] at e; subst e; exact .wrote (.inl (emap_lt (by assumption))))
theorem setObj_map {w : World} {b : Nat} {ws : Array MapEntry} {clock : Nat} (hb : w.heap[b]? = some (.map ws clock)) (o : Obj) : (setObj b o).run P w = .ok () (w.putObj b o) := by
  simp [setObj, Sem.run, hb, World.putObj]
theorem Is.setMap (hs : Is B G cx M hi s) {i : Nat} {es es' : List En} {ck ck' : Option Nat} {b z : Nat} {ws' : Array MapEntry} {clock' : Nat} (e : M.emap i = some (es, ck)) (hv : cx.vis i) (hw : cx.wok i) (hsi : s.σ i = some (b, 0, z)) (hm : MRel s.σ es' ck' ws'.toList clock') :
    ∃ s', s'.W = s.W.putObj b (.map ws' clock') ∧ s'.σ = s.σ ∧ Is B G cx (M.wrote i (some (.map es' ck'))) hi s' ∧ To cx M.next hi s s' :=
  hs.setO (emap_ob e) hv hw hsi fun y hy => by
    cases hy
    exact ⟨rfl, ws', clock', rfl, hm⟩
theorem Is.markMap (hs : Is B G cx M hi s) {i : Nat} {es es' : List En} {ck ck' : Option Nat} {b z : Nat} {ws : Array MapEntry} {clock : Nat} (e : M.emap i = some (es, ck)) (hv : cx.vis i) (hw : cx.wok i) (hsi : s.σ i = some (b, 0, z)) (hb : s.W.heap[b]? = some (.map ws clock)) (hm : MRel s.σ es' ck' ws.toList clock) :
    ∃ s', s'.W = s.W ∧ s'.σ = s.σ ∧ Is B G cx (M.wrote i (some (.map es' ck'))) hi s' ∧ To cx M.next hi s s' := by
  have hF := hs.obj (emap_ob e) hv
  obtain ⟨h1, h2⟩ := hs.put (x := some (.map es' ck')) (U := s.W) (ob_eq (emap_ob e)).1 hw (hs.rel.chg hF hsi (fun _ _ => rfl) hb ⟨rfl, ws, clock, rfl, hm⟩ hs.rel.base)
  exact ⟨⟨s.σ, s.F.upd i (some (.map es' ck')), s.W⟩, rfl, rfl, h1, h2⟩
theorem modify_arr {α : Type} (f : α → α) (a : α) (pre post : List α) {ws : Array α} (h : ws.toList = pre ++ a :: post) : (ws.modify pre.length f).toList = pre ++ f a :: post := by
  rw [Array.toList_modify, h, modify_mid]
theorem get_mid {α : Type} (a : α) (pre post : List α) {ws : Array α} (h : ws.toList = pre ++ a :: post) : ws[pre.length]? = some a := by
  rw [← Array.getElem?_toList, h]
  simp
theorem emapUpdate_sound (hE : EnvOk P E) (hs : Is B G cx M hi s) {t : Nat} {x k v : AV} {u kv vv : Value} (hx : VRel s.σ x u) (hk : VRel s.σ k kv) (hv : VRel s.σ v vv) (e : emapUpdate E M t x k v = some M') (hl : LogOk cx M') :
    ∃ s', (Instr.mapUpdate t u kv vv).run P s.W = .ok () s'.W ∧ Is B G cx M' hi s' ∧ To cx M.next hi s s' := by
  unfold emapUpdate at e
  split at e
  · next z ky em =>
    split at e
    · next i ep =>
      obtain ⟨kt, vt, hu, hf, _⟩ := mtys_inv hE em s.σ
      obtain ⟨d, ks, l, vs, hkv⟩ := pkey_kv hf ep hk
      split at e
      · next es ck em2 =>
        have hvw : cx.vis i ∧ cx.wok i := by
          repeat' split at e
          all_goals first
            | (cases e; done)
            | (simp only [Option.some.injEq] at e; subst e; exact ⟨hl.rd i (List.mem_cons_self ..), hl.wr i (List.mem_cons_self ..)⟩)
        obtain ⟨hF, hlt, b, z', ws, clock, hsi, hb, hm⟩ := hs.mapAt em2 hvw.1
        cases hx with
        | map hi' =>
          rw [hsi] at hi'
          cases hi'
          obtain ⟨h0, h1⟩ := hm.find hkv s.W
          split at e
          · next e0 ef =>
            simp only [Option.some.injEq] at e
            subst e
            obtain ⟨pre, post, wpre, w0, wpost, rfl, hw, hsp, hr, hke, hpre, l', vs', hkv'⟩ := h1 _ ef
            have self : keq e0.key e0.key = some true := by rw [← hke]; exact hkv.self
            rw [mput_at (e := ⟨e0.lab, e0.key, v⟩) (by show ∀ x ∈ pre, keq e0.key x.key = some false; rw [← hke]; exact hpre) self]
            rw [hw] at hm
            have hm' := hm.chg hsp (e' := ⟨e0.lab, e0.key, v⟩) (w1 := { w0 with key := kv, val := vv }) rfl ⟨by rw [← hke]; exact hk, hv, hsp.one.lab⟩ rfl
            obtain ⟨s', q1, q2, q3, q4⟩ := hs.setMap (ws' := ws.modify wpre.length fun e => { e with key := kv, val := vv }) em2 hvw.1 hvw.2 hsi (by rw [modify_arr _ w0 wpre wpost hw]; exact hm')
            refine ⟨s', ?_, q3, q4⟩
            unfold Instr.mapUpdate
            simp only [Sem.run_bind, und_run hu, Result.andThen_ok, hkv.check, hr, run_getObj_map hb, get_mid w0 wpre wpost hw, Option.map_some, Option.getD_some, hkv.stays hkv', setObj_map hb, q1]
          · next ef =>
            simp only [Option.some.injEq] at e
            subst e
            have hm' := hm.more (e := ⟨none, k, v⟩) (w1 := { key := kv, val := vv, born := clock }) (mfind_none ef) ⟨hk, hv, fun _ q => by cases q⟩ rfl
            obtain ⟨s', q1, q2, q3, q4⟩ := hs.setMap (ws' := ws.push { key := kv, val := vv, born := clock }) (clock' := clock + 1) em2 hvw.1 hvw.2 hsi (by rw [Array.toList_push]; exact hm')
            refine ⟨s', ?_, q3, q4⟩
            unfold Instr.mapUpdate
            simp only [Sem.run_bind, und_run hu, Result.andThen_ok, hkv.check, h0 ef, run_getObj_map hb, setObj_map hb, q1]
          · cases e
      · cases e
    · cases e
  · cases e
theorem Is.bare (h : Is B G cx M hi s) (v : Nat × Nat × Nat) (hh : M.next + 1 ≤ hi) :
    Is B G cx ⟨M.objs, M.next + 1, M.rd, M.wr⟩ hi ⟨s.σ.upd M.next v, s.F, s.W⟩ ∧ To cx M.next hi s ⟨s.σ.upd M.next v, s.F, s.W⟩ := by
  obtain ⟨f1, f2⟩ := h.fr M.next (Nat.le_refl _) (by omega)
  have hgl := h.gl
  refine ⟨⟨h.rel.more (Sg.upd_le f2), fun j h1 h2 => ?_, fun j h1 h2 => ?_, h.lo, ?_, hh, fun g hg => ?_, fun j hj => ?_, Nat.le_succ_of_le h.ol⟩, ⟨Sg.upd_le f2, fun j hj => ?_⟩⟩
  · have h2 : j < M.next + 1 := h2
    by_cases q : j = M.next
    · subst q
      show s.F M.next = M.objs.get M.next
      rw [f1, h.top _ (Nat.le_refl _)]
    · exact h.vis j h1 (by omega)
  · have h1 : M.next + 1 ≤ j := h1
    show s.F j = none ∧ s.σ.upd M.next v j = none
    rw [Sg.upd_ne (by omega)]
    exact h.fr j (by omega) h2
  · show G ≤ M.next + 1
    omega
  · obtain ⟨z, hz⟩ := h.gb g hg
    exact ⟨z, Sg.upd_le f2 _ _ hz⟩
  · have hj : M.next + 1 ≤ j := hj
    exact h.top j (by omega)
  · have q : j ≠ M.next := by
      rintro rfl
      rcases hj with hj | hj <;> omega
    exact ⟨rfl, Sg.upd_ne q⟩
theorem bare_eq (M : Mem) (k : Nat → Mem → OM) : bare M k = k M.next ⟨M.objs, M.next + 1, M.rd, M.wr⟩ := by rw [bare, fN_eq]
theorem Gr.bare (M : Mem) (n : Nat) (h : M.next ≤ n) : Gr M ⟨M.objs, n, M.rd, M.wr⟩ := ⟨h, fun _ h => h, fun _ h => h, fun _ _ _ => rfl, fun k j hj => k j (by have : n ≤ j := hj; omega)⟩
theorem emapEntry_gr {t : Nat} {x k r : AV} (e : emapEntry E M t x k = some (r, M')) : Gr M M' := by
  unfold emapEntry at e
  simp only [bare_eq] at e
  split at e
  · split at e
    · split at e
      · next em =>
        have hlt := emap_lt em
        repeat' split at e
        all_goals first
          | (cases e; done)
          | (simp only [Option.some.injEq, Prod.mk.injEq] at e; obtain ⟨_, rfl⟩ := e; first | exact .wrote (.inl hlt) | exact (Gr.bare M _ (Nat.le_succ _)).trans (.wrote (.inl (Nat.lt_succ_of_lt hlt))))
      · cases e
    · cases e
  · cases e
theorem emap_bare {M : Mem} {n i : Nat} {es : List En} {ck : Option Nat} (e : M.emap i = some (es, ck)) (h : M.next ≤ n) : (⟨M.objs, n, M.rd, M.wr⟩ : Mem).emap i = some (es, ck) := by
  have e1 := emap_ob e
  obtain ⟨h1, h2⟩ := ob_eq e1
  unfold Mem.emap Mem.ob
  have : Nat.blt i n = true := by cases q : Nat.blt i n with
    | true => rfl
    | false => have := blt_f q; omega
  simp only [this, h2]
theorem emapEntry_sound (hE : EnvOk P E) (hs : Is B G cx M hi s) {t : Nat} {x k r : AV} {u v : Value} (hx : VRel s.σ x u) (hk : VRel s.σ k v) (e : emapEntry E M t x k = some (r, M')) (hl : LogOk cx M') (hh : M'.next ≤ hi) : GoodV P B G cx M M' hi s (Instr.mapEntry t u v) r := by
  unfold emapEntry at e
  simp only [bare_eq] at e
  split at e
  · next z ky em =>
    split at e
    · next i ep =>
      obtain ⟨kt, vt, hu, hf, zq, hz, hzr⟩ := mtys_inv hE em s.σ
      obtain ⟨d, ks, l, vs, hkv⟩ := pkey_kv hf ep hk
      split at e
      · next es ck em2 =>
        have hvw : cx.vis i ∧ cx.wok i := by
          repeat' split at e
          all_goals first
            | (cases e; done)
            | (simp only [Option.some.injEq, Prod.mk.injEq] at e; obtain ⟨_, rfl⟩ := e; exact ⟨hl.rd i (List.mem_cons_self ..), hl.wr i (List.mem_cons_self ..)⟩)
        obtain ⟨hF, hlt, b, z', ws, clock, hsi, hb, hm⟩ := hs.mapAt em2 hvw.1
        cases hx with
        | map hi' =>
          rw [hsi] at hi'
          cases hi'
          obtain ⟨h0, h1⟩ := hm.find hkv s.W
          split at e
          · next e0 ef =>
            obtain ⟨pre, post, wpre, w0, wpost, rfl, hw, hsp, hr, hke, hpre, l', vs', hkv'⟩ := h1 _ ef
            have self : keq e0.key e0.key = some true := by rw [← hke]; exact hkv.self
            have run : (Instr.mapEntry t (.map (some b)) v).run P s.W = .ok (.tuple #[w0.val, .int .i64 (Int.ofNat w0.born)]) (s.W.putObj b (.map (ws.modify wpre.length fun e => { e with key := v }) clock)) := by
              unfold Instr.mapEntry
              simp only [Sem.run_bind, und_run hu, Result.andThen_ok, hkv.check, hr, run_getObj_map hb, get_mid w0 wpre wpost hw, Option.map_some, Option.getD_some, hkv.stays hkv', setObj_map hb, run_pureS]
              rfl
            split at e
            · next j ej =>
              simp only [Option.some.injEq, Prod.mk.injEq] at e
              obtain ⟨rfl, rfl⟩ := e
              rw [hw] at hm
              have hm' := hm.chg hsp (e' := e0) (w1 := { w0 with key := v }) rfl ⟨by rw [← hke]; exact hk, hsp.one.val, hsp.one.lab⟩ rfl
              obtain ⟨s', q1, q2, q3, q4⟩ := hs.setMap (ws' := ws.modify wpre.length fun e => { e with key := v }) em2 hvw.1 hvw.2 hsi (by rw [modify_arr _ w0 wpre wpost hw]; exact hm')
              obtain ⟨f, z0, hj⟩ := hsp.one.lab j ej
              exact ⟨_, s', by rw [run, q1], .tup (.cons (by rw [q2]; exact hsp.one.val) (.cons (.stamp (by rw [q2]; exact hj)) .nil)), q3, q4⟩
            · next ej =>
              simp only [Option.some.injEq, Prod.mk.injEq] at e
              obtain ⟨rfl, rfl⟩ := e
              have hh : M.next + 1 ≤ hi := hh
              rw [mput_at (e := ⟨some M.next, e0.key, e0.val⟩) (by show ∀ x ∈ pre, keq e0.key x.key = some false; rw [← hke]; exact hpre) self]
              obtain ⟨i1, t1⟩ := hs.bare (w0.born, 0, 0) hh
              have hle := t1.le
              rw [hw] at hm
              have hsp' : Sp (s.σ.upd M.next (w0.born, 0, 0)) pre post e0 wpre wpost w0 := by
                obtain ⟨u1, u2, p1, p2, p3⟩ := hsp.rest
                exact ⟨hsp.one.mono hle, u1, u2, p1, p2.mono hle, p3.mono hle⟩
              have hm' := (hm.mono hle).chg hsp' (e' := ⟨some M.next, e0.key, e0.val⟩) (w1 := { w0 with key := v }) rfl ⟨by rw [← hke]; exact hk.mono hle, hsp'.one.val, fun j q => by
                cases q
                exact ⟨0, 0, Sg.upd_self⟩⟩ rfl
              obtain ⟨s', q1, q2, q3, q4⟩ := i1.setMap (ws' := ws.modify wpre.length fun e => { e with key := v }) (emap_bare em2 (Nat.le_succ _)) hvw.1 hvw.2 (hle _ _ hsi) (by rw [modify_arr _ w0 wpre wpost hw]; exact hm')
              exact ⟨_, s', by rw [run, q1], .tup (.cons (by rw [q2]; exact hsp'.one.val) (.cons (.stamp (f := 0) (z := 0) (by rw [q2]; exact Sg.upd_self)) .nil)), q3, t1.trans q4 (Nat.le_succ _)⟩
          · next ef =>
            simp only [Option.some.injEq, Prod.mk.injEq] at e
            obtain ⟨rfl, rfl⟩ := e
            have hh : M.next + 1 ≤ hi := hh
            obtain ⟨i1, t1⟩ := hs.bare (clock, 0, 0) hh
            have hle := t1.le
            have hm' := (hm.mono hle).more (e := ⟨some M.next, k, z⟩) (w1 := { key := v, val := zq, born := clock }) (mfind_none ef) ⟨hk.mono hle, hz.mono hle, fun j q => by
              cases q
              exact ⟨0, 0, Sg.upd_self⟩⟩ rfl
            obtain ⟨s', q1, q2, q3, q4⟩ := i1.setMap (ws' := ws.push { key := v, val := zq, born := clock }) (clock' := clock + 1) (emap_bare em2 (Nat.le_succ _)) hvw.1 hvw.2 (hle _ _ hsi) (by rw [Array.toList_push]; exact hm')
            refine ⟨_, s', ?_, .tup (.cons (by rw [q2]; exact hz.mono hle) (.cons (.stamp (f := 0) (z := 0) (by rw [q2]; exact Sg.upd_self)) .nil)), q3, t1.trans q4 (Nat.le_succ _)⟩
            unfold Instr.mapEntry
            simp only [Sem.run_bind, und_run hu, Result.andThen_ok, hkv.check, h0 ef, run_getObj_map hb, hzr, setObj_map hb, run_pureS, q1]
            rfl
          · cases e
      · cases e
    · cases e
  · cases e
theorem eentryStore_gr {x k v : AV} (e : eentryStore M x k v = some M') : Gr M M' := by
  unfold eentryStore at e
  repeat' split at e
  all_goals first
    | (cases e; done)
    | (simp only [Option.some.injEq] at e; subst e; exact .wrote (.inl (emap_lt (by assumption))))
theorem findIdx_mid {ws : Array MapEntry} {w0 : MapEntry} {pre post : List MapEntry} (h : ws.toList = pre ++ w0 :: post) (hb : ws.toList.Pairwise fun a b => a.born ≠ b.born) : ws.findIdx? (fun e => (e.born : Int) == Int.ofNat w0.born) = some pre.length := by
  obtain rfl : ws = (pre ++ w0 :: post).toArray := Array.toList_inj.1 (by simpa using h)
  rw [List.findIdx?_toArray]
  rw [h, List.pairwise_append, List.pairwise_cons] at hb
  rw [List.findIdx?_eq_some_iff_getElem]
  refine ⟨by simp, by simp, fun j hj => ?_⟩
  rw [List.getElem_append_left hj]
  have := hb.2.2 pre[j] (List.getElem_mem hj) w0 (List.mem_cons_self ..)
  simp
  omega
theorem eentryStore_sound (hs : Is B G cx M hi s) {t : Nat} {x k v : AV} {u kv vv : Value} (hx : VRel s.σ x u) (hk : VRel s.σ k kv) (hv : VRel s.σ v vv) (e : eentryStore M x k v = some M') (hl : LogOk cx M') :
    ∃ s', (Instr.entryStore t u kv vv).run P s.W = .ok () s'.W ∧ Is B G cx M' hi s' ∧ To cx M.next hi s s' := by
  unfold eentryStore at e
  split at e
  · next i j =>
    split at e
    · next es ck em2 =>
      split at e
      · next e0 ef =>
        split at e
        · next self =>
          simp only [Option.some.injEq] at e
          subst e
          have hvi : cx.vis i := hl.rd i (List.mem_cons_self ..)
          have hwi : cx.wok i := hl.wr i (List.mem_cons_self ..)
          obtain ⟨hF, hlt, b, z', ws, clock, hsi, hb, hm⟩ := hs.mapAt em2 hvi
          obtain ⟨pre, post, rfl, hlab⟩ := mlab_some ef
          obtain ⟨wpre, w0, wpost, hw, hsp⟩ := hm.at
          have hpre : ∀ x ∈ pre, keq e0.key x.key = some false := fun x hx => by
            have := hm.keys
            rw [List.pairwise_append] at this
            exact keq_symm (this.2.2 x hx e0 (List.mem_cons_self ..))
          rw [mput_at (e := ⟨e0.lab, e0.key, v⟩) hpre self]
          have hborn := hm.born
          rw [hw] at hm
          have hm' := hm.chg hsp (e' := ⟨e0.lab, e0.key, v⟩) (w1 := { w0 with val := vv }) rfl ⟨hsp.one.key, hv, hsp.one.lab⟩ rfl
          obtain ⟨s', q1, q2, q3, q4⟩ := hs.setMap (ws' := ws.modify wpre.length fun e => { e with val := vv }) em2 hvi hwi hsi (by rw [modify_arr _ w0 wpre wpost hw]; exact hm')
          cases hx with
          | map hi' =>
            rw [hsi] at hi'
            cases hi'
            cases hk with
            | stamp hj =>
              have := (hsp.one.lab j hlab).inj ⟨_, _, hj⟩
              subst this
              refine ⟨s', ?_, q3, q4⟩
              unfold Instr.entryStore
              simp only [Sem.run_bind, Result.andThen_ok, run_getObj_map hb, asInt, asIntOf, run_pureS, findIdx_mid hw hborn, setObj_map hb, q1]
        · cases e
      · cases e
    · cases e
  · cases e
theorem mmark_gr : ∀ {es : List En} {j j' : Nat} {es' : List En} {ls : List Nat}, mmark j es = (j', es', ls) → j ≤ j'
  | [], j, j', es', ls, h => by
    simp only [mmark, Prod.mk.injEq] at h
    omega
  | e :: l, j, j', es', ls, h => by
    simp only [mmark, fN_eq] at h
    split at h
    · have e1 := mmark_gr (es := l) (j := j) rfl
      simp only [Prod.mk.injEq] at h
      omega
    · have e1 := mmark_gr (es := l) (j := j + 1) rfl
      simp only [Prod.mk.injEq] at h
      omega
theorem erange_gr {t : Nat} {x r : AV} (e : erange E M t x = some (r, M')) : Gr M M' := by
  unfold erange at e
  split at e
  · split at e
    · simp only [anew_eq, Option.some.injEq, Prod.mk.injEq] at e
      obtain ⟨_, rfl⟩ := e
      exact .anew (anew_eq _ _)
    · next i _ =>
      split at e
      · next es ck em =>
        split at e
        next nx es' ls eq =>
        simp only [fN_eq, anew_eq, Option.some.injEq, Prod.mk.injEq] at e
        obtain ⟨_, rfl⟩ := e
        have h1 := mmark_gr eq
        exact ((Gr.bare M nx h1).trans (.wrote (.inl (by have := emap_lt em; show i < nx; omega)))).trans (.anew (anew_eq _ _))
      · cases e
    · cases e
  · cases e
theorem SRel.mem {σ : Sg} : ∀ {l m : List Nat}, SRel σ l m → ∀ x ∈ m, ∃ j ∈ l, Mk σ j x
  | _, _, .nil, x, h => by cases h
  | _, _, .cons k h, x, hx => by
    rcases List.mem_cons.1 hx with rfl | hx
    · exact ⟨_, List.mem_cons_self .., k⟩
    · obtain ⟨j, h1, h2⟩ := h.mem x hx
      exact ⟨j, List.mem_cons_of_mem _ h1, h2⟩
theorem SRel.to {σ : Sg} : ∀ {l m : List Nat}, SRel σ l m → ∀ j ∈ l, ∃ x ∈ m, Mk σ j x
  | _, _, .nil, x, h => by cases h
  | _, _, .cons k h, j, hj => by
    rcases List.mem_cons.1 hj with rfl | hj
    · exact ⟨_, List.mem_cons_self .., k⟩
    · obtain ⟨x, h1, h2⟩ := h.to j hj
      exact ⟨x, List.mem_cons_of_mem _ h1, h2⟩
theorem SRel.snoc {σ : Sg} {j x : Nat} (k : Mk σ j x) : ∀ {l m : List Nat}, SRel σ l m → SRel σ (l ++ [j]) (m ++ [x])
  | _, _, .nil => .cons k .nil
  | _, _, .cons a h => .cons a (h.snoc k)
theorem SRel.last {σ : Sg} {j : Nat} : ∀ {l m : List Nat}, SRel σ l m → last? l = some j → ∃ x, m.getLast? = some x ∧ Mk σ j x
  | _, _, .nil, h => by cases h
  | _, _, .cons k .nil, h => by
    simp only [last?, Option.some.injEq] at h
    subst h
    exact ⟨_, rfl, k⟩
  | _, _, .cons _ (.cons a h'), h => by
    obtain ⟨x, h1, h2⟩ := SRel.last (.cons a h') h
    exact ⟨x, by rw [List.getLast?_cons_cons]; exact h1, h2⟩
theorem SRel.one {σ : Sg} : ∀ {l m : List Nat}, SRel σ l m → m.Nodup → ∀ {j k x : Nat}, j ∈ l → k ∈ l → Mk σ j x → Mk σ k x → j = k
  | _, _, .nil, _, _, _, _, h, _, _, _ => by cases h
  | _, _, .cons (j := j0) (x := x0) k0 h, hn, j, k, x, hj, hk, q1, q2 => by
    rw [List.nodup_cons] at hn
    have aux : ∀ i ∈ _, Mk σ i x → x ≠ x0 := fun i hi q e => by
      obtain ⟨y, h1, h2⟩ := h.to i hi
      have := q.inj h2
      rw [e] at this
      subst this
      exact hn.1 h1
    rcases List.mem_cons.1 hj with e1 | h1
    · rcases List.mem_cons.1 hk with e2 | h2
      · rw [e1, e2]
      · rw [e1] at q1
        exact absurd (k0.inj q1).symm (aux k h2 q2)
    · rcases List.mem_cons.1 hk with e2 | h2
      · rw [e2] at q2
        exact absurd (k0.inj q2).symm (aux j h1 q1)
      · exact h.one hn.2 h1 h2 q1 q2
theorem mark_ok {B : World} {G : Nat} {cx : Cx} {hi clock : Nat} : ∀ {es : List En} {M : Mem} {s : At} {j' : Nat} {es' : List En} {ls : List Nat} {vs : List MapEntry}, Is B G cx M hi s → mmark M.next es = (j', es', ls) → j' ≤ hi → ELRel s.σ es vs → (∀ w ∈ vs, w.born < clock) →
    ∃ s', s'.W = s.W ∧ Is B G cx ⟨M.objs, j', M.rd, M.wr⟩ hi s' ∧ To cx M.next hi s s' ∧ ELRel s'.σ es' vs ∧ (es'.map En.key = es.map En.key) ∧ SRel s'.σ ls (vs.map (·.born))
  | [], M, s, j', es', ls, vs, hs, e, hh, hr, hb => by
    simp only [mmark, Prod.mk.injEq] at e
    obtain ⟨rfl, rfl, rfl⟩ := e
    cases hr
    exact ⟨s, rfl, hs, .refl, .nil, rfl, .nil⟩
  | e0 :: l, M, s, j', es', ls, vs, hs, e, hh, hr, hb => by
    cases hr with
    | cons h0 hr =>
      next w0 vs =>
      simp only [mmark, fN_eq] at e
      split at e
      · next i ei =>
        generalize eq : mmark M.next l = q at e
        obtain ⟨j1, es1, ls1⟩ := q
        simp only [Prod.mk.injEq] at e
        obtain ⟨rfl, rfl, rfl⟩ := e
        obtain ⟨s', q1, q2, q3, q4, q5, q6⟩ := mark_ok hs eq hh hr fun w hw => hb w (List.mem_cons_of_mem _ hw)
        refine ⟨s', q1, q2, q3, .cons (h0.mono q3.le) q4, by simp [q5], .cons ((h0.lab _ ei).mono q3.le) q6⟩
      · next ei =>
        generalize eq : mmark (M.next + 1) l = q at e
        obtain ⟨j1, es1, ls1⟩ := q
        simp only [Prod.mk.injEq] at e
        obtain ⟨rfl, rfl, rfl⟩ := e
        have hj1 := mmark_gr eq
        obtain ⟨i1, t1⟩ := hs.bare (w0.born, 0, 0) (by omega)
        obtain ⟨s', q1, q2, q3, q4, q5, q6⟩ := mark_ok i1 eq hh (hr.mono t1.le) fun w hw => hb w (List.mem_cons_of_mem _ hw)
        have t2 := t1.trans q3 (Nat.le_succ _)
        have mk0 : Mk s'.σ M.next w0.born := ⟨0, 0, q3.le _ _ Sg.upd_self⟩
        refine ⟨s', q1, q2, t2, .cons ⟨h0.key.mono t2.le, h0.val.mono t2.le, fun j q => by cases q; exact mk0⟩ q4, by simp [q5], .cons mk0 q6⟩
theorem keys_map {es es' : List En} (h : es'.map En.key = es.map En.key) (k : es.Pairwise fun a b => keq a.key b.key = some false) : es'.Pairwise fun a b => keq a.key b.key = some false := by
  have h1 : ∀ l : List En, (l.Pairwise fun a b => keq a.key b.key = some false) ↔ ((l.map En.key).Pairwise fun a b => keq a b = some false) := fun l => by rw [List.pairwise_map]
  rw [h1] at k ⊢
  rw [h]
  exact k
theorem erange_sound (hE : EnvOk P E) (hs : Is B G cx M hi s) {t : Nat} {x r : AV} {u : Value} (hx : VRel s.σ x u) (e : erange E M t x = some (r, M')) (hl : LogOk cx M') (hh : M'.next ≤ hi) : GoodV P B G cx M M' hi s (Instr.range t u) r := by
  unfold erange at e
  split at e
  · next ty et =>
    obtain ⟨d, f, v, e1, _, _, _, e5, _⟩ := facts_all (hE.tys _ _ et)
    split at e
    · next kt vt ek =>
      rw [ek] at e5
      obtain rfl := tk_map e5
      cases hx
      generalize ea : anew M (.iter none [] [] none) = q at e
      obtain ⟨j, M1⟩ := q
      simp only [Option.some.injEq, Prod.mk.injEq] at e
      obtain ⟨rfl, rfl⟩ := e
      obtain ⟨s', q1, q2, q3, q4⟩ := hs.alloc (o := .mapIter none 0 #[] 0) (z := 0) ea hh ⟨rfl, none, 0, #[], 0, rfl, ⟨rfl, .nil, (fun j h => by cases h), (fun c h => by cases h), (fun j h => by cases h), fun j h => by cases h⟩⟩
      refine ⟨.pointer (some ⟨s.W.heap.size, 0, none⟩), s', ?_, .ptr q2, q3, q4⟩
      unfold Instr.range
      simp only [Sem.run_bind, und_run e1, Result.andThen_ok, run_pureS]
      rw [q1]
      rfl
    · next kt vt i ek =>
      rw [ek] at e5
      obtain rfl := tk_map e5
      split at e
      · next es ck em =>
        split at e
        next nx es' ls eq =>
        simp only [fN_eq] at e
        generalize ea : anew (Mem.wrote ⟨M.objs, nx, M.rd, M.wr⟩ i (some (.map es' ck))) (.iter (some i) ls [] none) = q at e
        obtain ⟨j, M1⟩ := q
        simp only [Option.some.injEq, Prod.mk.injEq] at e
        obtain ⟨rfl, rfl⟩ := e
        have hlog := hl.back (.anew ea)
        have hvi : cx.vis i := hlog.rd i (List.mem_cons_self ..)
        have hwi : cx.wok i := hlog.wr i (List.mem_cons_self ..)
        have hnx := mmark_gr eq
        have hnx1 : nx + 1 ≤ hi := by
          rw [anew_eq] at ea
          cases ea
          exact hh
        obtain ⟨hF, hlt, b, z', ws, clock, hsi, hb, hm⟩ := hs.mapAt em hvi
        obtain ⟨vs, hp, hr⟩ := hm.perm
        obtain ⟨s1, q1, q2, q3, q4, q5, q6⟩ := mark_ok hs eq (by omega) hr fun w hw => hm.old w (hp.mem_iff.1 hw)
        have hm1 : MRel s1.σ es' ck ws.toList clock := ⟨⟨vs, hp, q4⟩, keys_map q5 hm.keys, hm.born, hm.old, fun c q => (hm.ck c q).mono q3.le⟩
        obtain ⟨s2, r1, r2, r3, r4⟩ := q2.markMap (emap_bare em hnx) hvi hwi (q3.le _ _ hsi) (by rw [q1]; exact hb) hm1
        obtain ⟨s', p1, p2, p3, p4⟩ := r3.alloc (o := .mapIter (some b) clock #[] clock) (z := 0) ea (by rw [anew_eq] at ea; cases ea; exact hh) (by
          have hj0 : j = nx := by
            rw [anew_eq] at ea
            cases ea
            rfl
          have hle : s2.σ.le (s2.σ.upd j (s2.W.heap.size, 0, 0)) := Sg.upd_le (by rw [hj0]; exact (r3.fr nx (Nat.le_refl _) (by omega)).2)
          have hS : SRel (s2.σ.upd j (s2.W.heap.size, 0, 0)) ls (vs.map (·.born)) := (by rw [r2]; exact q6 : SRel s2.σ ls _).mono hle
          have hnd : (vs.map (·.born)).Nodup := by
            have hb' : (ws.toList.map (·.born)).Nodup := by
              rw [List.nodup_iff_pairwise_ne, List.pairwise_map]
              exact hm.born
            exact ((hp.map _).nodup_iff).2 hb'
          refine ⟨rfl, some b, clock, #[], clock, rfl, ⟨⟨b, rfl, 0, z', hle _ _ (by rw [r2]; exact q3.le _ _ hsi)⟩, .nil, fun j hj => ?_, (fun c h => by cases h), fun j hj k hk x => hS.one hnd hj hk, fun j h => by cases h⟩⟩
          obtain ⟨x, k1, k2⟩ := hS.to j hj
          obtain ⟨w, k3, rfl⟩ := List.mem_map.1 k1
          have := hm.old w (hp.mem_iff.1 k3)
          exact ⟨_, k2, this, this⟩)
        cases hx with
        | map hi' =>
          rw [hsi] at hi'
          cases hi'
          refine ⟨.pointer (some ⟨s2.W.heap.size, 0, none⟩), s', ?_, .ptr p2, p3, (q3.trans r4 hnx).trans p4 hnx⟩
          unfold Instr.range
          simp only [Sem.run_bind, und_run e1, Result.andThen_ok, run_getObj_map hb, run_pureS]
          rw [p1, r1, q1]
          rfl
      · cases e
    · cases e
  · cases e
theorem enextA_gr {r i c : Nat} {olds seen : List Nat} (hr : r < M.next) : ∀ {l : List (Nat × En)} {p : AV × Mem}, p ∈ enextA M r i c olds seen l → Gr M p.2
  | [], p, h => by cases h
  | a :: l, p, h => by
    simp only [enextA] at h
    rcases List.mem_cons.1 h with rfl | h
    · exact .wrote (.inl hr)
    · exact enextA_gr hr h
theorem enext_gr {x : AV} {l : List (AV × Mem)} (e : enext M x = some l) : ∀ p ∈ l, Gr M p.2 := by
  unfold enext at e
  split at e
  · next r =>
    split at e
    · simp only [Option.some.injEq] at e
      subst e
      intro p hp
      rcases List.mem_singleton.1 hp with rfl
      exact .saw _ _
    · next i olds seen _ eo =>
      have hr := (ob_eq eo).1
      split at e
      · next es ck em =>
        have hlt := emap_lt em
        split at e
        · simp only [Option.some.injEq] at e
          subst e
          intro p hp
          rcases List.mem_singleton.1 hp with rfl
          exact (Gr.saw _ _).trans (.saw _ _)
        · split at e
          · simp only [Option.some.injEq] at e
            subst e
            intro p hp
            exact (Gr.saw M i).trans (enextA_gr (by exact hr) hp)
          · simp only [fN_eq, Option.some.injEq] at e
            subst e
            intro p hp
            exact ((Gr.bare M (M.next + 1) (Nat.le_succ _)).trans (.wrote (.inl (Nat.lt_succ_of_lt hlt)))).trans (enextA_gr (Nat.lt_succ_of_lt hr) hp)
          · cases e
        · cases e
      · cases e
    · cases e
  · cases e
theorem enextA_in {r i c : Nat} {olds seen : List Nat} {j : Nat} {e : En} : ∀ {l : List (Nat × En)}, (j, e) ∈ l → (AV.tup [.bool true, e.key, e.val], M.wrote r (some (.iter (some i) olds (seen ++ [j]) (some c)))) ∈ enextA M r i c olds seen l
  | [], h => by cases h
  | a :: l, h => by
    simp only [enextA]
    rcases List.mem_cons.1 h with rfl | h
    · exact List.mem_cons_self ..
    · exact List.mem_cons_of_mem _ (enextA_in h)
theorem memN_iff {i : Nat} : ∀ {l : List Nat}, memN i l = true ↔ i ∈ l
  | [] => by simp [memN]
  | a :: l => by
    simp only [memN]
    cases e : Nat.beq a i with
    | true => simp [beq_t e]
    | false =>
      have := beq_f e
      simp [memN_iff (i := i) (l := l), Ne.symm this]
theorem mleft_all {olds seen : List Nat} : ∀ {es : List En} {l : List (Nat × En)}, mleft olds seen es = some l → ∀ e ∈ es, ∃ j, e.lab = some j ∧ j ∈ olds ∧ (j ∉ seen → (j, e) ∈ l)
  | [], l, h, e, he => by cases he
  | x :: es, l, h, e, he => by
    simp only [mleft] at h
    split at h
    · next j ej =>
      split at h
      · next m e1 e2 =>
        have ih := mleft_all e2
        split at h
        · next e3 =>
          simp only [Option.some.injEq] at h
          subst h
          rcases List.mem_cons.1 he with rfl | he
          · exact ⟨j, ej, memN_iff.1 e1, fun q => absurd (memN_iff.1 e3) q⟩
          · exact ih e he
        · next e3 =>
          simp only [Option.some.injEq] at h
          subst h
          rcases List.mem_cons.1 he with rfl | he
          · exact ⟨j, ej, memN_iff.1 e1, fun _ => List.mem_cons_self ..⟩
          · obtain ⟨j', k1, k2, k3⟩ := ih e he
            exact ⟨j', k1, k2, fun q => List.mem_cons_of_mem _ (k3 q)⟩
      · cases h
    · cases h
theorem mlabs_mem {j : Nat} : ∀ {es : List En}, j ∈ mlabs es → ∃ e ∈ es, e.lab = some j
  | [], h => by cases h
  | x :: es, h => by
    simp only [mlabs] at h
    split at h
    · next i ei =>
      rcases List.mem_cons.1 h with rfl | h
      · exact ⟨x, List.mem_cons_self .., ei⟩
      · obtain ⟨e, h1, h2⟩ := mlabs_mem h
        exact ⟨e, List.mem_cons_of_mem _ h1, h2⟩
    · obtain ⟨e, h1, h2⟩ := mlabs_mem h
      exact ⟨e, List.mem_cons_of_mem _ h1, h2⟩
theorem next_run {W : World} {r bm since last clock : Nat} {seen : Array Nat} {ws : Array MapEntry} (ty : Nat) (hr : W.heap[r]? = some (.mapIter (some bm) since seen last)) (hb : W.heap[bm]? = some (.map ws clock)) (h1 : ∀ x ∈ ws.toList, x.born < since) (h2 : ∀ x ∈ ws.toList, x.born < last) :
    ((∀ x ∈ ws.toList, x.born ∈ seen.toList) ∧ (Instr.next (.pointer (some ⟨r, 0, none⟩)) false ty).run P W = .ok (.tuple #[.bool false]) W) ∨
    ∃ e ∈ ws.toList, e.born ∉ seen.toList ∧ ∃ W1, (W1 = W ∨ W1 = W.drew) ∧ (Instr.next (.pointer (some ⟨r, 0, none⟩)) false ty).run P W = .ok (.tuple #[.bool true, e.key, e.val]) (W1.putObj r (.mapIter (some bm) since (seen.push e.born) clock)) := by
  have g1 : (getObj r).run P W = .ok (.mapIter (some bm) since seen last) W := by simp [getObj, Sem.run, hr]
  have g2 := run_getObj_map (P := P) hb
  have test : (!seen.isEmpty && !ws.isEmpty && ws.all (fun e => decide (e.born ≥ last))) = false := by
    by_cases hw : ws.isEmpty = true
    · simp [hw]
    · have : ws.all (fun e => decide (e.born ≥ last)) = false := by
        rw [Array.all_eq_false']
        have hne : ws.toList ≠ [] := by
          intro q
          apply hw
          simp [Array.isEmpty, ← Array.length_toList, q]
        obtain ⟨x, l, hx⟩ := List.exists_cons_of_ne_nil hne
        have hm : x ∈ ws.toList := by rw [hx]; exact List.mem_cons_self ..
        exact ⟨x, by simpa using hm, by have := h2 x hm; simp; omega⟩
      rw [this]
      simp
  unfold Instr.next
  simp only [Sem.run_bind, g1, g2, Result.andThen_ok, test, Bool.false_eq_true, if_false]
  obtain ⟨L, hL⟩ : ∃ L, L = ws.filter (fun e => !seen.contains e.born) := ⟨_, rfl⟩
  rw [← hL]
  have hmem : ∀ x ∈ L.toList, x ∈ ws.toList ∧ x.born ∉ seen.toList := fun x hx => by
    rw [hL, Array.toList_filter, List.mem_filter] at hx
    exact ⟨hx.1, by simpa using hx.2⟩
  have a1 : L.filter (fun x => decide (x.born < since)) = L := Array.filter_eq_self.2 fun x hx => by
    have := h1 x (hmem x (by simpa using hx)).1
    simpa using this
  have a2 : L.filter (fun x => decide (x.born ≥ since)) = #[] := by
    rw [Array.filter_eq_empty_iff]
    intro x hx
    have := h1 x (hmem x (by simpa using hx)).1
    simp
    omega
  simp only [a1, a2, Array.append_empty]
  by_cases h0 : L.size = 0
  · left
    have hLe : L = #[] := Array.eq_empty_of_size_eq_zero h0
    refine ⟨fun x hx => ?_, ?_⟩
    · have : x ∉ L.toList := by rw [hLe]; simp
      rw [hL, Array.toList_filter, List.mem_filter] at this
      by_cases q : x.born ∈ seen.toList
      · exact q
      · exact absurd ⟨hx, by simpa using q⟩ this
    · subst hLe
      simp [choose, Sem.run, Question.forced]
  · right
    have hne : L.isEmpty = false := by simp [Array.isEmpty, h0]
    simp only [hne, Bool.false_eq_true, if_false, Array.empty_append, Array.size_map]
    have hch : ∃ (j : Nat) (W1 : World), j < L.size ∧ (W1 = W ∨ W1 = W.drew) ∧ (choose (Question.mapNext L.size)).run P W = .ok j W1 := by
      by_cases hf : L.size ≤ 1
      · exact ⟨0, W, by omega, .inl rfl, by simp [choose, Sem.run, Question.forced, hf]⟩
      · exact ⟨_, W.drew, Nat.mod_lt _ (by omega), .inr rfl, by
          simp only [choose, Sem.run, Question.forced, decide_eq_true_eq, hf, if_false, Question.cut]
          rfl⟩
    obtain ⟨j, W1, hj, hal, hrun⟩ := hch
    have hx := hmem L[j] (by simp)
    refine ⟨L[j], hx.1, hx.2, W1, hal, ?_⟩
    have hr1 : W1.heap[r]? = some (.mapIter (some bm) since seen last) := by rcases hal with rfl | rfl <;> exact hr
    have hset : ∀ o, (setObj r o).run P W1 = .ok () (W1.putObj r o) := fun o => by simp [setObj, Sem.run, hr1, World.putObj]
    simp only [hrun, Array.getElem?_map, Array.getElem?_eq_getElem hj, Option.map_some, Sem.run_bind, hset, Result.andThen_ok]
    rfl
theorem ELRel.has {σ : Sg} : ∀ {a : List En} {vs : List MapEntry}, ELRel σ a vs → ∀ e ∈ a, ∃ w ∈ vs, ERel σ e w
  | _, _, .nil, w, h => by cases h
  | _, _, .cons x k, w, h => by
    rcases List.mem_cons.1 h with rfl | h
    · exact ⟨_, List.mem_cons_self .., x⟩
    · obtain ⟨e, h1, h2⟩ := k.has w h
      exact ⟨e, List.mem_cons_of_mem _ h1, h2⟩
theorem mleft_in {olds seen : List Nat} : ∀ {es : List En} {l : List (Nat × En)}, mleft olds seen es = some l → ∀ p ∈ l, p.2 ∈ es ∧ p.2.lab = some p.1 ∧ p.1 ∈ olds ∧ p.1 ∉ seen
  | [], l, h, p, hp => by
    simp only [mleft, Option.some.injEq] at h
    subst h
    cases hp
  | x :: es, l, h, p, hp => by
    simp only [mleft] at h
    split at h
    · next j ej =>
      split at h
      · next m e1 e2 =>
        have ih := mleft_in e2
        have up : ∀ q ∈ m, q.2 ∈ x :: es ∧ q.2.lab = some q.1 ∧ q.1 ∈ olds ∧ q.1 ∉ seen := fun q hq => ⟨List.mem_cons_of_mem _ (ih q hq).1, (ih q hq).2⟩
        split at h
        · simp only [Option.some.injEq] at h
          subst h
          exact up p hp
        · next e3 =>
          simp only [Option.some.injEq] at h
          subst h
          rcases List.mem_cons.1 hp with rfl | hp
          · exact ⟨List.mem_cons_self .., ej, memN_iff.1 e1, fun q => by rw [memN_iff.2 q] at e3; cases e3⟩
          · exact up p hp
      · cases h
    · cases h
theorem subN_t : ∀ {l m : List Nat}, subN l m = true → ∀ j ∈ l, j ∈ m
  | [], m, _, j, h => by cases h
  | a :: l, m, e, j, h => by
    simp only [subN] at e
    split at e
    · next e1 =>
      rcases List.mem_cons.1 h with rfl | h
      · exact memN_iff.1 e1
      · exact subN_t e j h
    · cases e
theorem Is.iterAt (hs : Is B G cx M hi s) {r b f z : Nat} {m : Option Nat} {olds seen : List Nat} {ck : Option Nat} (e : M.ob r = some (.iter m olds seen ck)) (hv : cx.vis r) (hsr : s.σ r = some (b, f, z)) :
    f = 0 ∧ ∃ mb since sb last, s.W.heap[b]? = some (.mapIter mb since sb last) ∧ IRel s.σ m olds seen ck mb since sb.toList last := by
  obtain ⟨b', f', z', o, h1, h2, rfl, mb, since, sb, last, rfl, h3⟩ := hs.rel.rep r _ (hs.obj e hv)
  rw [hsr] at h1
  cases h1
  exact ⟨rfl, mb, since, sb, last, h2, h3⟩
theorem ob_bare {M : Mem} {n i : Nat} {o : Ob} (e : M.ob i = some o) (h : M.next ≤ n) : (⟨M.objs, n, M.rd, M.wr⟩ : Mem).ob i = some o := by
  obtain ⟨h1, h2⟩ := ob_eq e
  unfold Mem.ob
  have : Nat.blt i n = true := by
    cases q : Nat.blt i n with
    | true => rfl
    | false => have := blt_f q; omega
  simp only [this, h2]
theorem enext_sound (hs : Is B G cx M hi s) {x : AV} {l : List (AV × Mem)} {u : Value} {ty : Nat} (hx : VRel s.σ x u) (e : enext M x = some l) (hl : ∀ p ∈ l, LogOk cx p.2 ∧ p.2.next ≤ hi) : ∃ p ∈ l, GoodV P B G cx M p.2 hi s (Instr.next u false ty) p.1 := by
  unfold enext at e
  split at e
  · next r =>
    obtain ⟨b, f, z, rfl, hsr⟩ := hx.ptr_inv
    split at e
    · next eo =>
      simp only [Option.some.injEq] at e
      subst e
      have hv : cx.vis r := (hl _ (List.mem_singleton.2 rfl)).1.rd r (List.mem_cons_self ..)
      obtain ⟨rfl, mb, since, sb, last, hb, hi'⟩ := hs.iterAt eo hv hsr
      have hmb : mb = none := hi'.map
      subst hmb
      refine ⟨_, List.mem_singleton.2 rfl, .tuple #[.bool false], s, ?_, .tup (.cons (.bool _) .nil), hs.saw r, .refl⟩
      have g1 : (getObj b).run P s.W = .ok (.mapIter none since sb last) s.W := by simp [getObj, Sem.run, hb]
      unfold Instr.next
      simp only [Nat.add_zero, Sem.run_bind, g1, Result.andThen_ok]
      rfl
    · next i olds seen ck0 eo =>
      split at e
      · next es ck em =>
        split at e
        · next el =>
          simp only [Option.some.injEq] at e
          subst e
          have hlog := (hl _ (List.mem_singleton.2 rfl)).1
          have hvi : cx.vis i := hlog.rd i (List.mem_cons_self ..)
          have hvr : cx.vis r := hlog.rd r (List.mem_cons_of_mem _ (List.mem_cons_self ..))
          obtain ⟨rfl, mb, since, sb, last, hb, hI⟩ := hs.iterAt eo hvr hsr
          obtain ⟨hF, hlt, bm, z', ws, clock, hsi, hbm, hm⟩ := hs.mapAt em hvi
          obtain ⟨bm', rfl, f', z'', hsi'⟩ := hI.map
          rw [hsi] at hsi'
          cases hsi'
          obtain ⟨vs, hp, hr⟩ := hm.perm
          have all := mleft_all el
          have old : ∀ w ∈ ws.toList, w.born < since ∧ w.born < last := fun w hw => by
            obtain ⟨e1, k1, k2⟩ := hr.mem w (hp.mem_iff.2 hw)
            obtain ⟨j, q1, q2, _⟩ := all e1 k1
            obtain ⟨y, y1, y2, y3⟩ := hI.olds j q2
            have := y1.inj (k2.lab j q1)
            omega
          rcases next_run (P := P) ty hb hbm (fun w hw => (old w hw).1) (fun w hw => (old w hw).2) with ⟨_, run⟩ | ⟨w, hw, hns, W1, hW1, run⟩
          · exact ⟨_, List.mem_singleton.2 rfl, .tuple #[.bool false], s, run, .tup (.cons (.bool _) .nil), (hs.saw r).saw i, .refl⟩
          · exfalso
            obtain ⟨e1, k1, k2⟩ := hr.mem w (hp.mem_iff.2 hw)
            obtain ⟨j, q1, q2, q3⟩ := all e1 k1
            by_cases q : j ∈ seen
            · obtain ⟨y, y1, y2⟩ := hI.seen.to j q
              have := y2.inj (k2.lab j q1)
              subst this
              exact hns y1
            · have := q3 q
              cases this
        · next l0 hne el =>
          have hmain : ∀ (c : Nat) (M1 : Mem) (s1 : At), subN olds (mlabs es) = true → M1.ob r = some (.iter (some i) olds seen ck0) → s1.W = s.W → s1.σ r = some (b, f, z) → M.next ≤ M1.next → Is B G cx M1 hi s1 → To cx M.next hi s s1 → (∀ cl, (∃ b' z' ws es' ck', s.W.heap[b']? = some (.map ws cl) ∧ s.σ i = some (b', 0, z') ∧ MRel s.σ es' ck' ws.toList cl) → Mk s1.σ c cl) → (∀ p ∈ enextA M1 r i c olds seen l0, LogOk cx p.2 ∧ p.2.next ≤ hi) → cx.vis i →
              ∃ p ∈ enextA M1 r i c olds seen l0, GoodV P B G cx M p.2 hi s (Instr.next (.pointer (some ⟨b, f + 0, none⟩)) false ty) p.1 := fun c M1 s1 hsub eo1 hW hsr1 hn hs1 ht hck hl1 hvi => by
            have hl0 : ∃ a l', l0 = a :: l' := by
              cases l0 with
              | nil => exact absurd rfl hne
              | cons a l' => exact ⟨a, l', rfl⟩
            have hlog0 : cx.vis r ∧ cx.wok r := by
              obtain ⟨a, l', rfl⟩ := hl0
              have := (hl1 _ (List.mem_cons_self ..)).1
              exact ⟨this.rd r (List.mem_cons_self ..), this.wr r (List.mem_cons_self ..)⟩
            obtain ⟨rfl, mb, since, sb, last, hb, hI⟩ := hs.iterAt eo hlog0.1 hsr
            obtain ⟨hF, hlt, bm, z', ws, clock, hsi, hbm, hm⟩ := hs.mapAt em hvi
            obtain ⟨bm', rfl, f', z'', hsi'⟩ := hI.map
            rw [hsi] at hsi'
            cases hsi'
            obtain ⟨vs, hp, hr⟩ := hm.perm
            have all := mleft_all el
            have old : ∀ w ∈ ws.toList, w.born < since ∧ w.born < last := fun w hw => by
              obtain ⟨e1, k1, k2⟩ := hr.mem w (hp.mem_iff.2 hw)
              obtain ⟨j, q1, q2, _⟩ := all e1 k1
              obtain ⟨y, y1, y2, y3⟩ := hI.olds j q2
              have := y1.inj (k2.lab j q1)
              omega
            have unseen : ∀ {j y : Nat}, j ∈ olds → j ∉ seen → Mk s.σ j y → y ∉ sb.toList := fun {j y} h1 h2 h3 h4 => by
              obtain ⟨j', k1, k2⟩ := hI.seen.mem y h4
              have := hI.inj j h1 j' (hI.sub j' k1) y h3 k2
              subst this
              exact h2 k1
            rcases next_run (P := P) ty hb hbm (fun w hw => (old w hw).1) (fun w hw => (old w hw).2) with ⟨hall, run⟩ | ⟨w, hw, hns, W1, hW1, run⟩
            · exfalso
              obtain ⟨a, l', rfl⟩ := hl0
              obtain ⟨k1, k2, k3, k4⟩ := mleft_in el a (List.mem_cons_self ..)
              obtain ⟨w, w1, w2⟩ := hr.has _ k1
              exact unseen k3 k4 (w2.lab _ k2) (hall w (hp.mem_iff.1 w1))
            · obtain ⟨e1, k1, k2⟩ := hr.mem w (hp.mem_iff.2 hw)
              obtain ⟨j, q1, q2, q3⟩ := all e1 k1
              have hj : j ∉ seen := fun q => by
                obtain ⟨y, y1, y2⟩ := hI.seen.to j q
                have := y2.inj (k2.lab j q1)
                subst this
                exact hns y1
              refine ⟨_, enextA_in (q3 hj), ?_⟩
              obtain ⟨s2, e2, e3, i2, t2⟩ : ∃ s2 : At, s2.W = W1 ∧ s2.σ = s1.σ ∧ Is B G cx M1 hi s2 ∧ To cx M.next hi s s2 := by
                rcases hW1 with rfl | rfl
                · exact ⟨s1, hW, rfl, hs1, ht⟩
                · exact ⟨⟨s1.σ, s1.F, s1.W.drew⟩, by rw [hW], rfl, hs1.drew, ⟨ht.le, ht.keep⟩⟩
              have hle := ht.le
              have hck := hck clock ⟨bm, z', ws, es, ck, hbm, hsi, hm⟩
              obtain ⟨s3, r1, r2, r3, r4⟩ := i2.setO (x' := some (.iter (some i) olds (seen ++ [j]) (some c))) (o' := .mapIter (some bm) since (sb.push w.born) clock) eo1 hlog0.1 hlog0.2 (by rw [e3]; exact hsr1) (fun y hy => by
                cases hy
                refine ⟨rfl, some bm, since, sb.push w.born, clock, rfl, ?_⟩
                rw [e3]
                refine ⟨⟨bm, rfl, 0, z', hle _ _ hsi⟩, ?_, fun k hk => ?_, fun c' h => ?_, (hI.mono hle).inj, fun k hk => ?_⟩
                · rw [Array.toList_push]
                  exact (hI.seen.mono hle).snoc ((k2.lab j q1).mono hle)
                · obtain ⟨y, y1, y2, _⟩ := hI.olds k hk
                  obtain ⟨e4, x1, x2⟩ := mlabs_mem (subN_t hsub k hk)
                  obtain ⟨w4, x3, x4⟩ := hr.has e4 x1
                  have := y1.inj (x4.lab k x2)
                  have := hm.old w4 (hp.mem_iff.1 x3)
                  exact ⟨y, y1.mono hle, y2, by omega⟩
                · cases h
                  exact hck
                · rcases List.mem_append.1 hk with hk | hk
                  · exact hI.sub k hk
                  · rcases List.mem_singleton.1 hk with rfl
                    exact q2)
              exact ⟨_, s3, by rw [r1, e2]; exact run, .tup (.cons (.bool _) (.cons (by rw [r2, e3]; exact k2.key.mono hle) (.cons (by rw [r2, e3]; exact k2.val.mono hle) .nil))), r3, t2.trans r4 hn⟩
          have hvi' : ∀ {M1 : Mem} {c : Nat}, (∀ p ∈ enextA M1 r i c olds seen l0, LogOk cx p.2 ∧ p.2.next ≤ hi) → LogOk cx M1 ∧ M1.next ≤ hi := fun {M1 c} h => by
            cases l0 with
            | nil => exact absurd rfl hne
            | cons a l' =>
              have h := h _ (List.mem_cons_self ..)
              exact ⟨⟨fun j hj => h.1.rd j (List.mem_cons_of_mem _ hj), fun j hj => h.1.wr j (List.mem_cons_of_mem _ hj)⟩, h.2⟩
          split at e
          · next c hsub =>
            simp only [Option.some.injEq] at e
            subst e
            have hvi : cx.vis i := (hvi' hl).1.rd i (List.mem_cons_self ..)
            refine hmain c (M.saw i) s hsub eo rfl hsr (Nat.le_refl _) (hs.saw i) .refl (fun cl ⟨b', z1, ws', es', ck', y1, y2, y3⟩ => ?_) hl hvi
            obtain ⟨hF, hlt, bm, z', ws, clock, hsi, hbm, hm⟩ := hs.mapAt em hvi
            rw [hsi] at y2
            cases y2
            rw [hbm] at y1
            cases y1
            exact hm.ck c rfl
          · next hsub =>
            simp only [fN_eq, Option.some.injEq] at e
            subst e
            obtain ⟨hlog, hnx⟩ := hvi' hl
            have hnx : M.next + 1 ≤ hi := hnx
            have hvi : cx.vis i := hlog.rd i (List.mem_cons_self ..)
            have hwi : cx.wok i := hlog.wr i (List.mem_cons_self ..)
            obtain ⟨hF, hlt, bm, z', ws, clock, hsi, hbm, hm⟩ := hs.mapAt em hvi
            obtain ⟨i1, t1⟩ := hs.bare (clock, 0, 0) hnx
            have hm0 := hm.mono t1.le
            have mk0 : Mk (s.σ.upd M.next (clock, 0, 0)) M.next clock := ⟨0, 0, Sg.upd_self⟩
            obtain ⟨s2, r1, r2, r3, r4⟩ := i1.markMap (es' := es) (ck' := some M.next) (emap_bare em (Nat.le_succ _)) hvi hwi (t1.le _ _ hsi) hbm ⟨hm0.perm, hm0.keys, hm0.born, hm0.old, fun c q => by
              cases q
              exact mk0⟩
            have hri : r ≠ i := by
              rintro rfl
              have := emap_ob em
              rw [eo] at this
              cases this
            refine hmain M.next _ s2 hsub ?_ r1 (by rw [r2]; exact t1.le _ _ hsr) (Nat.le_succ _) r3 (t1.trans r4 (Nat.le_succ _)) (fun cl ⟨b', z1, ws', es', ck', y1, y2, y3⟩ => ?_) hl hvi
            · have := ob_bare (n := M.next + 1) eo (Nat.le_succ _)
              obtain ⟨g1, g2⟩ := ob_eq this
              unfold Mem.ob at this ⊢
              split at this
              · next q =>
                show (match Nat.blt r (M.next + 1) with
                  | true => (M.objs.set i (some (.map es (some M.next)))).get r
                  | false => none) = _
                rw [q]
                show (M.objs.set i (some (.map es (some M.next)))).get r = _
                rw [T.get_set_ne _ _ hri]
                exact this
              · cases this
            · rw [hsi] at y2
              cases y2
              rw [hbm] at y1
              cases y1
              rw [r2]
              exact mk0
          · cases e
        · cases e
      · cases e
    · cases e
  · cases e
theorem eentry_gr {x r : AV} (e : eentry M x = some (r, M')) : Gr M M' ∧ M'.objs = M.objs ∧ M'.next = M.next := by
  unfold eentry at e
  repeat' split at e
  all_goals first
    | (cases e; done)
    | (simp only [Option.some.injEq, Prod.mk.injEq] at e; obtain ⟨_, rfl⟩ := e; exact ⟨(Gr.saw _ _).trans (.saw _ _), rfl, rfl⟩)
theorem find_mid {ws : Array MapEntry} {w0 : MapEntry} {pre post : List MapEntry} (h : ws.toList = pre ++ w0 :: post) (hb : ws.toList.Pairwise fun a b => a.born ≠ b.born) : ws.find? (fun e => e.born == w0.born) = some w0 := by
  obtain rfl : ws = (pre ++ w0 :: post).toArray := Array.toList_inj.1 (by simpa using h)
  rw [List.find?_toArray]
  rw [h, List.pairwise_append] at hb
  rw [List.find?_append, List.find?_eq_none.2, List.find?_cons]
  · simp
  · intro x hx
    have := hb.2.2 x hx w0 (List.mem_cons_self ..)
    simpa using this
theorem eentry_sound (hs : Is B G cx M hi s) {x r : AV} {u : Value} (hx : VRel s.σ x u) (e : eentry M x = some (r, M')) (hl : LogOk cx M') : ∃ q, VRel s.σ r q ∧ (Instr.entry u).run P s.W = .ok q s.W := by
  unfold eentry at e
  split at e
  · next r0 =>
    obtain ⟨b, f, z, rfl, hsr⟩ := hx.ptr_inv
    split at e
    · next i olds seen c eo =>
      split at e
      · next es c' j em ej =>
        split at e
        · next e0 ec ef =>
          simp only [Option.some.injEq, Prod.mk.injEq] at e
          obtain ⟨rfl, rfl⟩ := e
          have hvi : cx.vis i := hl.rd i (List.mem_cons_self ..)
          have hvr : cx.vis r0 := hl.rd r0 (List.mem_cons_of_mem _ (List.mem_cons_self ..))
          obtain ⟨rfl, mb, since, sb, last, hb, hI⟩ := hs.iterAt eo hvr hsr
          obtain ⟨hF, hlt, bm, z', ws, clock, hsi, hbm, hm⟩ := hs.mapAt em hvi
          obtain ⟨bm', rfl, f', z'', hsi'⟩ := hI.map
          rw [hsi] at hsi'
          cases hsi'
          obtain rfl := beq_t ec
          have hcl := (hI.ck c rfl).inj (hm.ck c rfl)
          subst hcl
          obtain ⟨x0, k1, k2⟩ := hI.seen.last ej
          obtain ⟨pre, post, rfl, hlab⟩ := mlab_some ef
          obtain ⟨wpre, w0, wpost, hw, hsp⟩ := hm.at
          have := (hsp.one.lab j hlab).inj k2
          subst this
          refine ⟨.tuple #[w0.key, w0.val], .tup (.cons hsp.one.key (.cons hsp.one.val .nil)), ?_⟩
          have g1 : (getObj b).run P s.W = .ok (.mapIter (some bm) since sb last) s.W := by simp [getObj, Sem.run, hb]
          have hback : sb.back? = some w0.born := by
            rw [Array.back?_eq_getElem?]
            rw [List.getLast?_eq_getElem?] at k1
            simpa using k1
          unfold Instr.entry
          simp only [Nat.add_zero, Sem.run_bind, g1, run_getObj_map hbm, Result.andThen_ok, hback, bne_self_eq_false, Bool.false_eq_true, if_false, find_mid hw hm.born]
          rfl
        · cases e
      · cases e
    · cases e
  · cases e
theorem emakeMap_sound (hs : Is B G cx M hi s) {t : Nat} {r : AV} (e : emakeMap M = some (r, M')) (hh : M'.next ≤ hi) : GoodV P B G cx M M' hi s (Instr.makeMap t none) r := by
  unfold emakeMap at e
  simp only [Option.some.injEq, Prod.mk.injEq] at e
  obtain ⟨rfl, rfl⟩ := e
  obtain ⟨s', h1, h2, h3, h4⟩ := hs.alloc (x := .map [] none) (o := .map #[] 0) (z := 0) (anew_pair _ _) hh ⟨rfl, #[], 0, rfl, ⟨⟨[], by simp, .nil⟩, .nil, by simp, (fun w h => by simp at h), (fun c h => by cases h)⟩⟩
  refine ⟨.map (some s.W.heap.size), s', ?_, .map h2, h3, h4⟩
  rw [h1]
  rfl
theorem emakeMap_gr {r : AV} (e : emakeMap M = some (r, M')) : Gr M M' := by
  unfold emakeMap at e
  simp only [Option.some.injEq, Prod.mk.injEq] at e
  obtain ⟨_, rfl⟩ := e
  exact .anew (anew_pair _ _)
theorem ext_gr {x : Xk} {l : List AV} {r : AV} (e : ext x l M = some (r, M')) : Gr M M' ∧ M'.objs = M.objs ∧ M'.next = M.next := by
  have h1 : ∀ o, om M o = some (r, M') → Gr M M' ∧ M'.objs = M.objs ∧ M'.next = M.next := fun o h => by
    unfold om at h
    split at h
    · simp only [Option.some.injEq, Prod.mk.injEq] at h
      obtain ⟨_, rfl⟩ := h
      exact ⟨.refl _, rfl, rfl⟩
    · cases h
  cases x <;> simp only [ext] at e
  · exact h1 _ e
  · repeat' split at e
    all_goals first
      | (cases e; done)
      | (unfold om at e
         split at e
         · simp only [Option.some.injEq, Prod.mk.injEq] at e
           obtain ⟨_, rfl⟩ := e
           exact ⟨.saw _ _, rfl, rfl⟩
         · cases e)
  · unfold xOverlaps at e
    repeat' split at e
    all_goals first
      | (cases e; done)
      | (simp only [Option.some.injEq, Prod.mk.injEq] at e; obtain ⟨_, rfl⟩ := e; exact ⟨(Gr.saw _ _).trans (.saw _ _), rfl, rfl⟩)
  · exact h1 _ e
  · exact h1 _ e
end
end GrG
