/-
  Texts of one claim, merged.
-/
import Derived.Test.YtlflknfkenfpiaaGreatDoorR14
set_option linter.unusedSimpArgs false
set_option linter.unusedVariables false
namespace GrG
open Go Go.RowKit
section
variable {P : Program} {B : World} {G : Nat} {E : Env} {cx : Cx} {M M' : Mem} {hi : Nat} {s : At} {L : T AV} {n : Nat} {a : Act}
theorem Is.alias (h : Is B G cx M hi s) {i o m nx : Nat} {ty : Option Nat} {c : T AV} {b f z : Nat} {ol nl : List AV} {vs : List Value} (er : M.row i = some (ty, c)) (hv0 : cx.vis i) (hs : s.σ i = some (b, f, z)) (hw : cx.wok i) (ho : getN c o m = some ol) (hv : LRel s.σ nl vs) (ha : nl.all scalar = true)
    (hz : f + o + m + vs.length ≤ z) (hnx : M.next ≤ nx) {M' : Mem} {ty' : Option Nat} (e1 : M'.objs = (M.objs.set i none).set nx (some (.row ty' (T.ofA (ol ++ nl))))) (e2 : M'.next = nx + 1) (hh : nx + 1 ≤ hi) (hty : ∀ u, ty' = some u → ty = some u ∧ o = 0 := by rintro _ ⟨⟩) :
    ∃ s', (storeCells ⟨b, f + o + m, none⟩ vs).run P s.W = .ok () s'.W ∧ s'.σ nx = some (b, f + o, z) ∧ Is B G cx M' hi s' ∧ To cx M.next hi s s' := by
  obtain ⟨k1, k2⟩ := ob_eq (row_eq er)
  obtain ⟨f1, f2⟩ := h.fr nx hnx (by omega)
  have hF := h.row er hv0
  have hlo := h.lo i hw
  have hiN : i ≠ nx := by omega
  obtain ⟨cs, t, q1, q0, q2, q3⟩ := h.rel.rowAt hF hs
  have hb := h.rel.high i _ b f z hlo hF hs
  obtain ⟨W', cs', w1, w2, w3, w4, w5, w6, w7⟩ := stores_raw (P := P) (b := b) (p := f + o + m) vs 0 cs t s.W q1 (by omega) (scalars_one hv ha)
  have hl := Sg.upd_le (x := (b, f + o, z)) f2
  have hlen := getN_len ho
  have r1 : RelM B G s.σ (s.F.upd i none) s.W := h.rel.less fun j x e => by
    by_cases q : j = i
    · subst q; rw [Fm.upd_self] at e; cases e
    · rwa [Fm.upd_ne q] at e
  have r2 := r1.more hl
  have oth : ∀ j y b1 f1 z1, s.F.upd i none j = some y → s.σ.upd nx (b, f + o, z) j = some (b1, f1, z1) → b1 ≠ b := fun j y b1 g1 z1 e s1 => by
    have q : j ≠ i := by rintro rfl; rw [Fm.upd_self] at e; cases e
    rw [Fm.upd_ne q] at e
    have qn : j ≠ nx := by rintro rfl; rw [f1] at e; cases e
    rw [Sg.upd_ne qn] at s1
    exact h.rel.sep j i y _ b1 g1 z1 b f z e hF q s1 hs
  have r3 : RelM B G (s.σ.upd nx (b, f + o, z)) ((s.F.upd i none).upd nx (some (.row ty' (T.ofA (ol ++ nl))))) W' := by
    refine r2.add (by rw [Fm.upd_ne (Ne.symm hiN)]; exact f1) Sg.upd_self w6 w2 ⟨cs', t, rfl, (fun u hu => by obtain ⟨k1, rfl⟩ := hty u hu; obtain ⟨k3, k4⟩ := q0 u k1; exact ⟨k3, by omega⟩), by omega, fun k x hk => ?_⟩ (w7 _ _ hb h.rel.base) hb oth
    have hk := ofA_get hk
    rcases Nat.lt_or_ge k m with hkm | hkm
    · rw [List.getElem?_append_left (by omega)] at hk
      obtain ⟨v, p1, p2⟩ := q3 (o + k) x (getN_get ho k x hk)
      refine ⟨v, ?_, p2.mono hl⟩
      rw [w5 (f + o + k) (by omega), show f + o + k = f + (o + k) by omega]
      exact p1
    · rw [List.getElem?_append_right (by omega)] at hk
      obtain ⟨v, p1, p2⟩ := hv.get hk
      refine ⟨v, ?_, p2.mono hl⟩
      have := w4 _ v p1
      rwa [show f + o + m + 0 + (k - ol.length) = f + o + k by omega] at this
  refine ⟨⟨_, _, W'⟩, w1, Sg.upd_self, ⟨r3, fun j h1 h2 => ?_, fun j h1 h2 => ?_, h.lo, ?_, ?_, fun g hg => ?_, fun j hj => ?_, by rw [e2]; have := h.ol; omega⟩, ⟨hl, fun j hj => ?_⟩⟩
  · rw [e1]
    rw [e2] at h2
    show (s.F.upd i none).upd nx _ j = _
    by_cases q : j = nx
    · subst q
      rw [Fm.upd_self, T.get_set_eq]
    · rw [Fm.upd_ne q, T.get_set_ne _ _ q]
      by_cases q' : j = i
      · subst q'
        rw [Fm.upd_self, T.get_set_eq]
      · rw [Fm.upd_ne q', T.get_set_ne _ _ q']
        by_cases q'' : j < M.next
        · exact h.vis j h1 q''
        · rw [h.top j (by omega)]
          exact (h.fr j (by omega) (by omega)).1
  · rw [e2] at h1
    have q : j ≠ nx := by omega
    have q' : j ≠ i := by omega
    show (s.F.upd i none).upd nx _ j = none ∧ s.σ.upd nx _ j = none
    rw [Fm.upd_ne q, Fm.upd_ne q', Sg.upd_ne q]
    exact h.fr j (by omega) h2
  · have := h.gl
    rw [e2]
    omega
  · rw [e2]
    exact hh
  · obtain ⟨z', hz'⟩ := h.gb g hg
    exact ⟨z', hl _ _ hz'⟩
  · rw [e2] at hj
    rw [e1, T.get_set_ne _ _ (by omega), T.get_set_ne _ _ (by omega)]
    exact h.top j (by omega)
  · have hnh := h.nh
    have q : j ≠ nx := by
      rintro rfl
      rcases hj with hj | hj <;> omega
    have q' : j ≠ i := by
      rintro rfl
      rcases hj with hj | hj
      · exact hj.1 hw
      · omega
    refine ⟨?_, Sg.upd_ne q⟩
    show (s.F.upd i none).upd nx _ j = _
    rw [Fm.upd_ne q, Fm.upd_ne q']
theorem growTy_eq (t : Option Nat) (o e : Nat) (k : Option Nat → OM) : growTy t o e k = k (gTy t o e) := by
  unfold growTy
  split <;> next h => rw [h]
theorem gTy_some {t : Option Nat} {o e u : Nat} (h : gTy t o e = some u) : e = u ∧ t = some u ∧ o = 0 := by
  unfold gTy at h
  split at h
  · next e2 =>
    split at h
    · next e1 =>
      cases h
      exact ⟨rfl, by rw [beq_t e1], beq_t e2⟩
    · cases h
  · cases h
theorem egrow_logs {ty : Option Nat} {M M' : Mem} {ey : TyI} {a b : Nat} {l : List AV} {r : AV} (e : egrow ty M ey a b l = some (r, M')) : Gr M M' := by
  unfold egrow at e
  split at e
  · simp only [fN_eq, newRow_eq, Option.some.injEq, Prod.mk.injEq] at e
    obtain ⟨_, rfl⟩ := e
    exact .anew (anew_pair _ _)
  · cases e
theorem eappTo_gr {el : Nat} {M M' : Mem} {ey : TyI} {sA r : AV} {new : List AV} {k : Nat} (e : eappTo el ey M sA new k = some (r, M')) : Gr M M' := by
  unfold eappTo at e
  repeat' split at e
  all_goals first
    | (cases e; done)
    | (simp only [fN_eq, Option.some.injEq, Prod.mk.injEq] at e; obtain ⟨_, rfl⟩ := e; first | exact .refl _ | exact .wroteR (by assumption))
    | exact egrow_logs e
    | exact (Gr.saw _ _).trans (egrow_logs e)
    | (rw [growTy_eq] at e; exact (Gr.wroteR (by assumption)).trans (egrow_logs e))
theorem eapp_gr {E : Env} {M M' : Mem} {t u : Nat} {x y r : AV} (e : eapp E M t u x y = some (r, M')) : Gr M M' := by
  unfold eapp at e
  split at e
  · split at e
    · split at e
      · split at e
        · next e1 _ => exact (esrc_logs e1).1.trans (eappTo_gr e)
        · cases e
      · cases e
    · split at e
      · split at e
        · rw [fN_eq] at e
          exact eappTo_gr e
        · cases e
      · cases e
    · cases e
  · cases e
theorem pre_get {σ : Sg} {l : List AV} {vs us : List Value} (h : LRel σ l vs) (j : Nat) (a : AV) (e : l[j]? = some a) : ∃ v, (vs ++ us)[j]? = some v ∧ VRel σ a v := by
  obtain ⟨v, h1, h2⟩ := h.get e
  refine ⟨v, ?_, h2⟩
  rw [List.getElem?_append_left (List.getElem?_eq_some_iff.1 h1).1]
  exact h1
structure App (P : Program) (el size bytes : Nat) (k : Nat) (ns : List Value) (W : World) (run : Value → Sem Value) : Prop where
  len : ns.length = k * size
  room : ∀ (base : Option Addr) (len c : Nat) (W' : World), len + k ≤ c → (∀ ad, base = some ad → (storeCells (ad.add (len * size)) ns).run P W = .ok () W') → (base = none → W' = W) → (run (.slice base len c)).run P W = .ok (.slice base (len + k) c) W'
  grow : ∀ (base : Option Addr) (len c : Nat) (old : Array Value), ¬ len + k ≤ c → len + k ≤ 1000000 → Builtin.nextslicecap (len + k) c * bytes ≤ 281474976710656 → (Builtin.firstCells size len (.slice base len c)).run P W.drew = .ok old W.drew →
    ∃ nc rest, len + k ≤ nc ∧ rest.size = (nc - (len + k)) * size ∧ (run (.slice base len c)).run P W = .ok (.slice (some ⟨W.heap.size, 0, none⟩) (len + k) nc) (W.drew.alloc (.cells (old ++ ns.toArray ++ rest) el))
theorem egrow_sound {ey : TyI} {el : Nat} {ty : Option Nat} (hty : ∀ u, ty = some u → el = u) (hs : Is B G cx M hi s) {need c0 : Nat} {ol nl : List AV} {os ns : List Value} (ho : LRel s.σ ol os) (hn : LRel s.σ nl ns) {len k : Nat} (lo : os.length = len * ey.size) (hk : need = len + k) {r : AV}
    (e : egrow ty M ey need c0 (ol ++ nl) = some (r, M')) (hh : M'.next ≤ hi) {run : Value → Sem Value} (ha : App P el ey.size ey.bytes k ns s.W run) {c : Nat} {base : Option Addr}
    (hc : ¬ len + k ≤ c) (hb : Builtin.nextslicecap (len + k) c ≤ c0) (h0 : (Builtin.firstCells ey.size len (.slice base len c)).run P s.W.drew = .ok os.toArray s.W.drew) :
    GoodV P B G cx M M' hi s (run (.slice base len c)) r := by
  subst hk
  unfold egrow at e
  split at e
  · next e1 e2 e3 =>
    simp only [fN_eq, newRow_eq, Option.some.injEq, Prod.mk.injEq] at e
    obtain ⟨rfl, rfl⟩ := e
    have e2 := ble_t e2
    obtain ⟨nc, rest, g1, g2, g3⟩ := ha.grow base len c os.toArray hc (ble_t e1) (Nat.le_trans (Nat.mul_le_mul_right _ hb) e2) h0
    have hd := hs.drew
    obtain ⟨s', w1, w2, w3, w4⟩ := hd.newP (l := ol ++ nl) (vs := (os ++ ns) ++ rest.toList) (fun j x hj => pre_get (ho.app hn) j x hj) (anew_pair _ _) hh el hty
    refine ⟨.slice (some ⟨s.W.heap.size, 0, none⟩) (len + k) nc, s', ?_, ?_, w3, ⟨w4.le, w4.keep⟩⟩
    · rw [g3, w1]
      congr 3
      apply Array.toList_inj.1
      simp
    · refine VRel.slice w2 (fun h => by cases h) g1 (Nat.le_refl _) fun _ => ?_
      simp only [List.length_append, lo, ha.len, Array.length_toList, g2]
      have : len * ey.size + k * ey.size + (nc - (len + k)) * ey.size = nc * ey.size := by
        rw [← Nat.add_mul, ← Nat.add_mul]
        congr 1
        omega
      omega
  · cases e
theorem eappTo_sound {ey : TyI} {el : Nat} (hs : Is B G cx M hi s) {x r : AV} {u : Value} {new : List AV} {ns : List Value} {k : Nat} (hx : VRel s.σ x u) (hn : LRel s.σ new ns) {run : Value → Sem Value} (ha : App P el ey.size ey.bytes k ns s.W run)
    (e : eappTo el ey M x new k = some (r, M')) (hl : LogOk cx M') (hh : M'.next ≤ hi) : GoodV P B G cx M M' hi s (run u) r := by
  unfold eappTo at e
  split at e
  · split at e
    · next e0 =>
      simp only [Option.some.injEq, Prod.mk.injEq] at e
      obtain ⟨rfl, rfl⟩ := e
      obtain rfl := beq_t e0
      cases hx
      refine ⟨.slice none 0 0, s, ?_, .nils, hs, .refl⟩
      exact ha.room none 0 0 s.W (by omega) (fun ad h => by cases h) fun _ => rfl
    · next e0 =>
      cases hx
      have h0 := beq_f e0
      exact egrow_sound (ol := []) (os := []) (len := 0) (k := k) (c := 0) (base := none) (fun _ h => by cases h; rfl) hs .nil hn (by simp) (by omega) e hh ha (by omega) (by rw [Nat.zero_add]; exact Nat.le_refl _) rfl
  · next i o len cap ex es' =>
    obtain ⟨b, f, z, cc, rfl, q0, q1, q2, q3, q4⟩ := hx.slice_inv
    split at e
    · next ty c e1 e2 =>
      have e1 := beq_t e1
      subst e1
      split at e
      · next ec =>
        have ec := ble_t ec
        split at e
        · next c' g2 g3 =>
          simp only [fN_eq, Option.some.injEq, Prod.mk.injEq] at e
          obtain ⟨rfl, rfl⟩ := e
          have hv : cx.vis i := hl.rd i (List.mem_cons_self ..)
          have hw : cx.wok i := hl.wr i (List.mem_cons_self ..)
          obtain ⟨s', p1, p2, p3, p4⟩ := hs.stores (P := P) e2 hv hw q0 hn g2 g3
          refine ⟨.slice (some ⟨b, f + o, none⟩) (len + k) cc, s', ?_, .slice (by rw [p2]; exact q0) q1 q2 ec q4, p3, p4⟩
          refine ha.room _ len cc s'.W (by omega) (fun ad h => ?_) (fun h => by cases h)
          cases h
          rw [add_at, show f + o + len * ey.size = f + (o + len * ey.size) by omega]
          exact p1
        · cases e
      · next ec =>
        have ec := ble_f ec
        split at e
        · next old eo =>
          have hd := hs.drew
          split at e
          · have hcc := q1 rfl
            subst hcc
            have hv : cx.vis i := hl.rd i ((egrow_logs e).rd i (List.mem_cons_self ..))
            obtain ⟨os, o1, o2, o3, _⟩ := hd.cells (P := P) e2 hv q0 eo
            have := egrow_sound (base := some ⟨b, f + o, none⟩) (fun _ h => by cases h; rfl) (hs.saw i) o1 hn o2 rfl e hh ha ec (Nat.le_refl _) o3
            exact this
          · split at e
            · next g2 =>
              rw [growTy_eq] at e
              have hv : cx.vis i := hl.rd i ((egrow_logs e).rd i (List.mem_cons_self ..))
              have hw : cx.wok i := hl.wr i ((egrow_logs e).wr i (List.mem_cons_self ..))
              obtain ⟨os, o1, o2, o3, _⟩ := hd.cells (P := P) e2 hv q0 eo
              have hi' := (ob_eq (row_eq e2)).1
              by_cases hc : len + k ≤ cc
              · -- there was room
                unfold egrow at e
                split at e
                · simp only [fN_eq, newRow_eq, anew_eq, Option.some.injEq, Prod.mk.injEq] at e
                  obtain ⟨rfl, rfl⟩ := e
                  have hmul : len * ey.size + k * ey.size ≤ cc * ey.size := by
                    rw [← Nat.add_mul]
                    exact Nat.mul_le_mul_right _ hc
                  have q4 := q4 rfl
                  obtain ⟨s', p1, p2, p3, p4⟩ := hs.alias (P := P) (nx := M.next) (M' := ⟨(M.objs.set i none).set M.next (some (.row (gTy ty o el) (T.ofA (old ++ new)))), M.next + 1, i :: M.rd, i :: M.wr⟩) e2 hv q0 hw eo hn g2 (by rw [ha.len]; omega) (Nat.le_refl _) rfl rfl hh (fun _ h => (gTy_some h).2)
                  refine ⟨.slice (some ⟨b, f + o, none⟩) (len + k) cc, s', ?_, ?_, p3, p4⟩
                  · refine ha.room _ len cc s'.W hc (fun ad h => ?_) (fun h => by cases h)
                    cases h
                    rw [add_at]
                    exact p1
                  · have := VRel.slice (σ := s'.σ) (i := M.next) (o := 0) (len := len + k) (cap := len + k) (es := ey.size) (ex := false) p2 (fun h => by cases h) hc (Nat.le_refl _) (fun _ => by omega)
                    simpa [Mem.wrote] using this
                · cases e
              · obtain ⟨hdr, hto⟩ := hs.drop hi' hw
                have := egrow_sound (P := P) (s := ⟨s.σ, s.F.upd i none, s.W⟩) (base := some ⟨b, f + o, none⟩) (fun _ h => (gTy_some h).1) hdr o1 hn o2 rfl e hh ha hc (nextcap_le (by omega)) o3
                obtain ⟨q, s', p1, p2, p3, p4⟩ := this
                exact ⟨q, s', p1, p2, p3, hto.trans p4 (Nat.le_refl _)⟩
            · cases e
        · cases e
    · cases e
  · cases e
theorem eapp_sound (hE : EnvOk P E) (hs : Is B E.ng cx M hi s) {st xt ty : Nat} {x y r : AV} {u v : Value} (hx : VRel s.σ x u) (hy : VRel s.σ y v) (e : eapp E M st xt x y = some (r, M')) (hl : LogOk cx M') (hh : M'.next ≤ hi) :
    GoodV P B E.ng cx M M' hi s (Builtin.append_ #[st, xt] ty #[u, v]) r := by
  unfold eapp at e
  split at e
  · next sy xy t1 t2 =>
    obtain ⟨d1, k1, r1⟩ := facts_und (hE.tys _ _ t1)
    obtain ⟨d2, k2, r2⟩ := facts_und (hE.tys _ _ t2)
    split at e
    · next el hk hi2 =>
      rw [k1] at hk
      obtain rfl := tk_slice hk.symm
      rw [k2] at hi2
      have hni := tk_notint hi2
      split at e
      · next ey t3 =>
        have hey := hE.tys _ _ t3
        split at e
        · next new k M1 es hz =>
          obtain ⟨g1, g2, g3⟩ := esrc_logs es
          have hl1 := hl.back (eappTo_gr e)
          obtain ⟨l1, ns, l2, l3, l4, l4'⟩ := esrc_sound (P := P) hs hy es hl1
          obtain ⟨f, f1, f2, f3⟩ := facts_info hey
          obtain ⟨zv, z1, z2⟩ := facts_zero hey s.σ
          have hzs : zv.cells.size = ey.size := by
            have := z1.length
            rw [beq_t hz] at this
            simpa using this.symm
          have hd : (match d2 with | .int _ => true | _ => false) = false := by
            cases d2 <;> first | rfl | exact absurd rfl (hni _)
          have ha : App P el ey.size ey.bytes k ns s.W fun u => Builtin.append_ #[st, xt] ty #[u, v] := by
            refine ⟨l3, fun base len c W' hc h1 h2 => ?_, fun base len c old hc h1 h2 h3 => ?_⟩
            · cases base with
              | none =>
                rw [h2 rfl]
                simp only [Builtin.append_, List.getElem?_toArray, List.getElem?_cons_zero, List.getElem?_cons_succ, Sem.run_bind, r1, r2, facts_size hey, Result.andThen_ok, run_pureS, l1]
                simp only [hd, Bool.false_eq_true, if_false, Sem.run_bind, run_pureS, Result.andThen_ok, l1, if_pos hc, Bool.not_false, if_true, l4]
              | some ad => exact app_in r1 r2 hni (facts_size hey) l1 hc l4 (h1 ad rfl)
            · obtain ⟨nc, rest, g1, g2, g3⟩ := app_grow (P := P) (ty := ty) (W := s.W) r1 r2 hni (facts_size hey) f3 z2 l1 hc h1 (by rw [f2]; exact h2) h3 l4'
              exact ⟨nc, rest, g1, by rw [g2, hzs], g3⟩
          obtain ⟨q, s', p1, p2, p3, p4⟩ := eappTo_sound (hs.logs g2 g3) hx l2 ha e hl hh
          rw [g3] at p4
          exact ⟨q, s', p1, p2, p3, p4⟩
        · cases e
      · cases e
    · next el hk hi2 =>
      rw [k1] at hk
      obtain rfl := tk_slice hk.symm
      rw [k2] at hi2
      obtain ⟨kx, rfl⟩ := tk_isint hi2
      split at e
      · next ey kk k t3 =>
        have hey := hE.tys _ _ t3
        split at e
        · next e1 e2 e3 hz =>
          rw [fN_eq] at e
          cases hy
          obtain ⟨f, f1, f2, f3⟩ := facts_info hey
          obtain ⟨zv, z1, z2⟩ := facts_zero hey s.σ
          have hzs : zv.cells.size = ey.size := by
            have := z1.length
            rw [beq_t hz] at this
            simpa using this.symm
          have e1 := ble_t e1
          have e2 := ble_t e2
          have e3 := blt_t e3
          have hzk : (Builtin.zeroCells zv.cells k) = madeCells zv.cells (k * ey.size) := by rw [← hzs]; rfl
          have hb : k * f.bytes ≤ 281474976710656 := by rw [f2]; exact e2
          have ha : App P el ey.size ey.bytes k (madeCells zv.cells (k * ey.size)).toList s.W fun u => Builtin.append_ #[st, xt] ty #[u, .int kk (.ofNat k)] := by
            refine ⟨by simp [madeCells], fun base len c W' hc h1 h2 => ?_, fun base len c old hc h1 h2 h3 => ?_⟩
            · exact app_inZ r1 r2 (facts_size hey) f3 z2 e1 hb hzs hc (fun ad h => by rw [hzk]; exact h1 ad h) h2
            · obtain ⟨nc, rest, g1, g2, g3⟩ := app_growZ (P := P) (ty := ty) (W := s.W) (kk := kk) r1 r2 (facts_size hey) f3 z2 e1 hb hzs hc h1 (by rw [f2]; exact h2) h3
              exact ⟨nc, rest, g1, by rw [g2, hzs], by rw [g3, hzk]⟩
          exact eappTo_sound hs hx (zmk_rel (n := k * ey.size) z1 hzs (.inr e3)) ha e hl hh
        · cases e
      · cases e
    · cases e
  · cases e
end
end GrG
namespace GrG
open Go Go.RowKit
section
variable {P : Program} {B : World} {G : Nat} {E : Env} {cx : Cx} {M M' : Mem} {hi : Nat} {s : At} {L : T AV} {n : Nat} {a : Act}
theorem efirst_logs {size k : Nat} {x : AV} {l : List AV} (e : efirst M size k x = some (l, M')) : Gr M M' ∧ M'.objs = M.objs ∧ M'.next = M.next := by
  unfold efirst at e
  repeat' split at e
  all_goals first
    | (cases e; done)
    | (simp only [Option.some.injEq, Prod.mk.injEq] at e; obtain ⟨_, rfl⟩ := e; first | exact ⟨.refl _, rfl, rfl⟩ | exact ⟨.saw _ _, rfl, rfl⟩)
theorem ecopy_gr {t : Nat} {x y r : AV} (e : ecopy E M t x y = some (r, M')) : Gr M M' := by
  unfold ecopy at e
  split at e
  · split at e
    · split at e
      · split at e
        · split at e
          · next e1 =>
            simp only [Option.some.injEq, Prod.mk.injEq] at e
            obtain ⟨_, rfl⟩ := e
            exact (efirst_logs e1).1
          · cases e
        · simp only [fN_eq] at e
          split at e
          · next e1 =>
            split at e
            · split at e
              · simp only [Option.some.injEq, Prod.mk.injEq] at e
                obtain ⟨_, rfl⟩ := e
                exact (efirst_logs e1).1.trans (.wroteR (by assumption))
              · cases e
            · cases e
          · cases e
        · cases e
      · cases e
    · cases e
  · cases e
theorem elenS_sound {σ : Sg} {x : AV} {v : Value} {k : Nat} (hx : VRel σ x v) (e : elenS x = some k) : Builtin.lenOf v = pure k := by
  unfold elenS at e
  split at e
  · simp only [Option.some.injEq] at e
    subst e
    cases hx
    rfl
  · simp only [Option.some.injEq] at e
    subst e
    cases hx
    rfl
  · simp only [Option.some.injEq] at e
    subst e
    obtain ⟨b, f, z, cc, rfl, _⟩ := hx.slice_inv
    rfl
  · simp only [Option.some.injEq] at e
    subst e
    obtain ⟨rfl, _⟩ := hx.str_inv
    simp [Builtin.lenOf, sB_size]
  · cases e
theorem efirst_sound (hs : Is B G cx M hi s) {size k m : Nat} {x : AV} {v : Value} {l : List AV} (hx : VRel s.σ x v) (hk : elenS x = some m) (hm : k ≤ m) (e : efirst M size k x = some (l, M')) (hl : LogOk cx M') :
    ∃ vs, LRel s.σ l vs ∧ (Builtin.firstCells size k v).run P s.W = .ok vs.toArray s.W := by
  unfold efirst at e
  split at e
  · simp only [Option.some.injEq, Prod.mk.injEq] at e
    obtain ⟨rfl, rfl⟩ := e
    cases hx
    exact ⟨[], .nil, rfl⟩
  · split at e
    · simp only [Option.some.injEq, Prod.mk.injEq] at e
      obtain ⟨rfl, rfl⟩ := e
      cases hx
      exact ⟨[], .nil, by simp [Builtin.firstCells, loadCells, loadCellsFrom]⟩
    · cases e
  · next i o len c0 ex es =>
    split at e
    · next c e1 e2 =>
      split at e
      · next l' el =>
        simp only [Option.some.injEq, Prod.mk.injEq] at e
        obtain ⟨rfl, rfl⟩ := e
        obtain ⟨b, f, z, cc, rfl, q0, _⟩ := hx.slice_inv
        obtain ⟨vs, h1, h2, h3, h4⟩ := hs.cells (P := P) e2 (hl.rd i (List.mem_cons_self ..)) q0 el
        exact ⟨vs, h1, h3⟩
      · cases e
    · cases e
  · next l =>
    split at e
    · next e1 =>
      simp only [Option.some.injEq, Prod.mk.injEq] at e
      obtain ⟨rfl, rfl⟩ := e
      obtain ⟨rfl, hb⟩ := hx.str_inv
      refine ⟨(l.take k).map fun x => .int .u8 (.ofNat x), ?_, ?_⟩
      · have hb' : ∀ y ∈ l.take k, y < 256 := fun y hy => hb y (List.mem_of_mem_take hy)
        generalize l.take k = l' at hb'
        clear e1 hx hk
        induction l' with
        | nil => exact .nil
        | cons x l ih => exact .cons (.int _ _) (ih fun y hy => hb' y (List.mem_cons_of_mem _ hy))
      · have : ((sB l).extract 0 k).data.map (fun b => Value.int .u8 b.toNat) = ((l.take k).map fun x => Value.int .u8 (.ofNat x)).toArray := by
          rw [sB_extract, List.drop_zero]
          apply Array.toList_inj.1
          simp only [Array.toList_map, sB_data, List.map_map]
          refine List.map_congr_left fun x hx => ?_
          simp [UInt8.toNat_ofNat', Nat.mod_eq_of_lt (hb x (List.mem_of_mem_take hx))]
        simp only [Builtin.firstCells, this, run_pureS]
    · cases e
  · cases e
theorem ecopy_sound (hE : EnvOk P E) (hs : Is B G cx M hi s) {st xt ty : Nat} {x y r : AV} {u v : Value} (hx : VRel s.σ x u) (hy : VRel s.σ y v) (e : ecopy E M st x y = some (r, M')) (hl : LogOk cx M') :
    GoodV P B G cx M M' hi s (Builtin.copy_ #[st, xt] ty #[u, v]) r := by
  unfold ecopy at e
  split at e
  · next sy t1 =>
    obtain ⟨d1, k1, r1⟩ := facts_und (hE.tys _ _ t1)
    split at e
    · next el hk =>
      rw [k1] at hk
      obtain rfl := tk_slice hk.symm
      split at e
      · next ey k t2 e2 =>
        have hey := hE.tys _ _ t2
        have hlen := elenS_sound hy e2
        split at e
        · split at e
          · next l M1 e3 =>
            simp only [Option.some.injEq, Prod.mk.injEq] at e
            obtain ⟨rfl, rfl⟩ := e
            obtain ⟨g1, g2, g3⟩ := efirst_logs e3
            obtain ⟨vs, h1, h2⟩ := efirst_sound (P := P) hs hy e2 (Nat.zero_le _) e3 hl
            cases hx
            refine ⟨.int .i64 (.ofNat 0), s, ?_, .int _ _, hs.logs g2 g3, .refl⟩
            simp only [Builtin.copy_, List.getElem?_toArray, List.getElem?_cons_zero, List.getElem?_cons_succ, Sem.run_bind, r1, Result.andThen_ok, hlen, run_pureS, facts_size hey]
            rw [show Nat.min k 0 = 0 from Nat.min_zero k]
            simp only [h2, Result.andThen_ok, run_pureS]
            rfl
          · cases e
        · next i o len cap ex es =>
          simp only [fN_eq] at e
          split at e
          · next l M1 e3 =>
            split at e
            · next c e4 e5 e6 =>
              split at e
              · next c' e7 =>
                simp only [Option.some.injEq, Prod.mk.injEq] at e
                obtain ⟨rfl, rfl⟩ := e
                obtain ⟨g1, g2, g3⟩ := efirst_logs e3
                have hl1 := hl.back (.wroteR e5)
                obtain ⟨vs, h1, h2⟩ := efirst_sound (P := P) hs hy e2 (Nat.min_le_left k len) e3 hl1
                obtain ⟨b, f, z, cc, rfl, q0, q1, q2, q3, q4⟩ := hx.slice_inv
                have hv : cx.vis i := hl.rd i (List.mem_cons_self ..)
                have hw : cx.wok i := hl.wr i (List.mem_cons_self ..)
                obtain ⟨s', p1, p2, p3, p4⟩ := (hs.logs g2 g3).stores (P := P) e5 hv hw q0 h1 e6 e7
                rw [g3] at p4
                refine ⟨.int .i64 (.ofNat (Nat.min k len)), s', ?_, .int _ _, p3, p4⟩
                simp only [Builtin.copy_, List.getElem?_toArray, List.getElem?_cons_zero, List.getElem?_cons_succ, Sem.run_bind, r1, Result.andThen_ok, hlen, run_pureS, facts_size hey, h2, p1]
                rfl
              · cases e
            · cases e
          · cases e
        · cases e
      · cases e
    · cases e
  · cases e
theorem run_getObj_map {w : World} {b : Nat} {ws : Array MapEntry} {clock : Nat} (h : w.heap[b]? = some (.map ws clock)) : (getObj b).run P w = .ok (.map ws clock) w := by simp [getObj, Sem.run, h]
theorem Is.mapAt (hs : Is B G cx M hi s) {i : Nat} {es : List En} {ck : Option Nat} (e : M.emap i = some (es, ck)) (hv : cx.vis i) : s.F i = some (.map es ck) ∧ i < M.next ∧ ∃ b z ws clock, s.σ i = some (b, 0, z) ∧ s.W.heap[b]? = some (.map ws clock) ∧ MRel s.σ es ck ws.toList clock := by
  unfold Mem.emap at e
  split at e
  · next es' ck' eo =>
    simp only [Option.some.injEq, Prod.mk.injEq] at e
    obtain ⟨rfl, rfl⟩ := e
    have hF := hs.obj eo hv
    obtain ⟨b, f, z, o, h1, h2, rfl, ws, cl, rfl, h3⟩ := hs.rel.rep i _ hF
    exact ⟨hF, (ob_eq eo).1, b, z, ws, cl, h1, h2, h3⟩
  · cases e
theorem ELRel.length {σ : Sg} : ∀ {l : List En} {m : List MapEntry}, ELRel σ l m → l.length = m.length
  | _, _, .nil => rfl
  | _, _, .cons _ h => congrArg (· + 1) h.length
theorem MRel.length {σ : Sg} {es : List En} {ck : Option Nat} {ws : List MapEntry} {clock : Nat} (h : MRel σ es ck ws clock) : es.length = ws.length := by
  obtain ⟨vs, h1, h2⟩ := h.perm
  rw [h2.length, h1.length_eq]
theorem elen_gr {t : Nat} {x r : AV} (e : elen E M t x = some (r, M')) : Gr M M' ∧ M'.objs = M.objs ∧ M'.next = M.next := by
  unfold elen at e
  repeat' split at e
  all_goals first
    | (cases e; done)
    | (simp only [Option.some.injEq, Prod.mk.injEq] at e; obtain ⟨_, rfl⟩ := e; first | exact ⟨.refl _, rfl, rfl⟩ | exact ⟨.saw _ _, rfl, rfl⟩)
theorem elen_sound (hE : EnvOk P E) (hs : Is B G cx M hi s) {t ty' : Nat} {x r : AV} {u : Value} (hx : VRel s.σ x u) (e : elen E M t x = some (r, M')) (hl : LogOk cx M') : ∃ q, VRel s.σ r q ∧ (Builtin.len_ #[t] ty' #[u]).run P s.W = .ok q s.W := by
  unfold elen at e
  split at e
  · next ty et =>
    obtain ⟨d, k1, r1⟩ := facts_und (hE.tys _ _ et)
    rw [k1] at e
    split at e
    · next hk =>
      obtain rfl := tk_str hk.symm
      simp only [Option.some.injEq, Prod.mk.injEq] at e
      obtain ⟨rfl, rfl⟩ := e
      cases hx
      exact ⟨_, .int _ _, by simp [Builtin.len_, Sem.run_bind, r1, goInt, sB_size]⟩
    · next hk =>
      obtain rfl := tk_array hk.symm
      simp only [Option.some.injEq, Prod.mk.injEq] at e
      obtain ⟨rfl, rfl⟩ := e
      exact ⟨_, .int _ _, by simp [Builtin.len_, Sem.run_bind, r1, goInt]⟩
    · next hk =>
      obtain rfl := tk_slice hk.symm
      simp only [Option.some.injEq, Prod.mk.injEq] at e
      obtain ⟨rfl, rfl⟩ := e
      cases hx
      exact ⟨_, .int _ _, by simp [Builtin.len_, Sem.run_bind, r1, goInt]⟩
    · next hk =>
      obtain rfl := tk_slice hk.symm
      simp only [Option.some.injEq, Prod.mk.injEq] at e
      obtain ⟨rfl, rfl⟩ := e
      cases hx
      exact ⟨_, .int _ _, by simp [Builtin.len_, Sem.run_bind, r1, goInt]⟩
    · next hk =>
      obtain rfl := tk_slice hk.symm
      simp only [Option.some.injEq, Prod.mk.injEq] at e
      obtain ⟨rfl, rfl⟩ := e
      obtain ⟨b, f, z, cc, rfl, _⟩ := hx.slice_inv
      exact ⟨_, .int _ _, by simp [Builtin.len_, Sem.run_bind, r1, goInt]⟩
    · next hk =>
      obtain rfl := tk_map hk.symm
      simp only [Option.some.injEq, Prod.mk.injEq] at e
      obtain ⟨rfl, rfl⟩ := e
      cases hx
      exact ⟨_, .int _ _, by simp [Builtin.len_, Sem.run_bind, r1, goInt]⟩
    · next i hk =>
      obtain rfl := tk_map hk.symm
      split at e
      · next es ck em =>
        simp only [Option.some.injEq, Prod.mk.injEq] at e
        obtain ⟨rfl, rfl⟩ := e
        obtain ⟨_, _, b, z, ws, cl, h1, h2, h3⟩ := hs.mapAt em (hl.rd i (List.mem_cons_self ..))
        cases hx
        next b' f' z' h4 =>
        rw [h1] at h4
        cases h4
        refine ⟨_, .int _ _, ?_⟩
        simp only [Builtin.len_, List.getElem?_toArray, List.getElem?_cons_zero, Sem.run_bind, r1, Result.andThen_ok, run_getObj_map h2, goInt, run_pureS]
        rw [h3.length]
        simp
      · cases e
    · cases e
  · cases e
theorem ecap_sound (hE : EnvOk P E) {t ty' : Nat} {x r : AV} {u : Value} {σ : Sg} (hx : VRel σ x u) (e : ecap E M t x = some (r, M')) (w : World) : M' = M ∧ ∃ q, VRel σ r q ∧ (Builtin.cap_ #[t] ty' #[u]).run P w = .ok q w := by
  unfold ecap at e
  split at e
  · next ty et =>
    obtain ⟨d, k1, r1⟩ := facts_und (hE.tys _ _ et)
    rw [k1] at e
    split at e
    · next hk =>
      obtain rfl := tk_slice hk.symm
      simp only [Option.some.injEq, Prod.mk.injEq] at e
      obtain ⟨rfl, rfl⟩ := e
      cases hx
      exact ⟨rfl, _, .int _ _, by simp [Builtin.cap_, Sem.run_bind, r1, goInt]⟩
    · next hk =>
      obtain rfl := tk_slice hk.symm
      simp only [Option.some.injEq, Prod.mk.injEq] at e
      obtain ⟨rfl, rfl⟩ := e
      obtain ⟨b, f, z, cc, rfl, q0, q1, _⟩ := hx.slice_inv
      rw [q1 rfl]
      exact ⟨rfl, _, .int _ _, by simp [Builtin.cap_, Sem.run_bind, r1, goInt]⟩
    · next hk =>
      obtain rfl := tk_slice hk.symm
      simp only [Option.some.injEq, Prod.mk.injEq] at e
      obtain ⟨rfl, rfl⟩ := e
      obtain ⟨b, f, z, cc, rfl, q0, q1, q2, _⟩ := hx.slice_inv
      exact ⟨rfl, _, .atl q2, by simp [Builtin.cap_, Sem.run_bind, r1, goInt]⟩
    · cases e
  · cases e
end
end GrG
