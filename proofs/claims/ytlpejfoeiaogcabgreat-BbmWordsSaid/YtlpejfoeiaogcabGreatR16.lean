/-
  A MACHINE FOR CLOSED CALLS (second form), 16: copies, lengths, what has no body. No program in sight.
-/
import Derived.Test.YtlpejfoeiaogcabGreatR15
set_option linter.unusedSimpArgs false
set_option linter.unusedVariables false
namespace GrG
open Go Go.RowKit
section
variable {P : Program} {B : World} {G : Nat} {E : Env} {cx : Cx} {M M' : Mem} {hi : Nat} {s : At} {L : T AV} {n : Nat} {a : Act}
theorem efirst_logs {size k : Nat} {x : AV} {l : List AV} (e : efirst M size k x = some (l, M')) : Gr M M' ∧ M'.objs = M.objs ∧ M'.next = M.next := by
  unfold efirst at e
  repeat' split at e
  all_goals first
    | (cases e; done)
    | (simp only [Option.some.injEq, Prod.mk.injEq] at e; obtain ⟨_, rfl⟩ := e; first | exact ⟨.refl _, rfl, rfl⟩ | exact ⟨.saw _ _, rfl, rfl⟩)
theorem ecopy_gr {t : Nat} {x y r : AV} (e : ecopy E M t x y = some (r, M')) : Gr M M' := by
  unfold ecopy at e
  split at e
  · split at e
    · split at e
      · split at e
        · split at e
          · next e1 =>
            simp only [Option.some.injEq, Prod.mk.injEq] at e
            obtain ⟨_, rfl⟩ := e
            exact (efirst_logs e1).1
          · cases e
        · simp only [fN_eq] at e
          split at e
          · next e1 =>
            split at e
            · split at e
              · simp only [Option.some.injEq, Prod.mk.injEq] at e
                obtain ⟨_, rfl⟩ := e
                exact (efirst_logs e1).1.trans (.wroteR (by assumption))
              · cases e
            · cases e
          · cases e
        · cases e
      · cases e
    · cases e
  · cases e
theorem elenS_sound {σ : Sg} {x : AV} {v : Value} {k : Nat} (hx : VRel σ x v) (e : elenS x = some k) : Builtin.lenOf v = pure k := by
  unfold elenS at e
  split at e
  · simp only [Option.some.injEq] at e
    subst e
    cases hx
    rfl
  · simp only [Option.some.injEq] at e
    subst e
    cases hx
    rfl
  · simp only [Option.some.injEq] at e
    subst e
    obtain ⟨b, f, z, cc, rfl, _⟩ := hx.slice_inv
    rfl
  · simp only [Option.some.injEq] at e
    subst e
    obtain ⟨rfl, _⟩ := hx.str_inv
    simp [Builtin.lenOf, sB_size]
  · cases e
theorem efirst_sound (hs : Is B G cx M hi s) {size k m : Nat} {x : AV} {v : Value} {l : List AV} (hx : VRel s.σ x v) (hk : elenS x = some m) (hm : k ≤ m) (e : efirst M size k x = some (l, M')) (hl : LogOk cx M') :
    ∃ vs, LRel s.σ l vs ∧ (Builtin.firstCells size k v).run P s.W = .ok vs.toArray s.W := by
  unfold efirst at e
  split at e
  · simp only [Option.some.injEq, Prod.mk.injEq] at e
    obtain ⟨rfl, rfl⟩ := e
    cases hx
    exact ⟨[], .nil, rfl⟩
  · split at e
    · simp only [Option.some.injEq, Prod.mk.injEq] at e
      obtain ⟨rfl, rfl⟩ := e
      cases hx
      exact ⟨[], .nil, by simp [Builtin.firstCells, loadCells, loadCellsFrom]⟩
    · cases e
  · next i o len c0 ex es =>
    split at e
    · next c e1 e2 =>
      split at e
      · next l' el =>
        simp only [Option.some.injEq, Prod.mk.injEq] at e
        obtain ⟨rfl, rfl⟩ := e
        obtain ⟨b, f, z, cc, rfl, q0, _⟩ := hx.slice_inv
        obtain ⟨vs, h1, h2, h3, h4⟩ := hs.cells (P := P) e2 (hl.rd i (List.mem_cons_self ..)) q0 el
        exact ⟨vs, h1, h3⟩
      · cases e
    · cases e
  · next l =>
    split at e
    · next e1 =>
      simp only [Option.some.injEq, Prod.mk.injEq] at e
      obtain ⟨rfl, rfl⟩ := e
      obtain ⟨rfl, hb⟩ := hx.str_inv
      refine ⟨(l.take k).map fun x => .int .u8 (.ofNat x), ?_, ?_⟩
      · have hb' : ∀ y ∈ l.take k, y < 256 := fun y hy => hb y (List.mem_of_mem_take hy)
        generalize l.take k = l' at hb'
        clear e1 hx hk
        induction l' with
        | nil => exact .nil
        | cons x l ih => exact .cons (.int _ _) (ih fun y hy => hb' y (List.mem_cons_of_mem _ hy))
      · have : ((sB l).extract 0 k).data.map (fun b => Value.int .u8 b.toNat) = ((l.take k).map fun x => Value.int .u8 (.ofNat x)).toArray := by
          rw [sB_extract, List.drop_zero]
          apply Array.toList_inj.1
          simp only [Array.toList_map, sB_data, List.map_map]
          refine List.map_congr_left fun x hx => ?_
          simp [UInt8.toNat_ofNat', Nat.mod_eq_of_lt (hb x (List.mem_of_mem_take hx))]
        simp only [Builtin.firstCells, this, run_pureS]
    · cases e
  · cases e
theorem ecopy_sound (hE : EnvOk P E) (hs : Is B G cx M hi s) {st xt ty : Nat} {x y r : AV} {u v : Value} (hx : VRel s.σ x u) (hy : VRel s.σ y v) (e : ecopy E M st x y = some (r, M')) (hl : LogOk cx M') :
    GoodV P B G cx M M' hi s (Builtin.copy_ #[st, xt] ty #[u, v]) r := by
  unfold ecopy at e
  split at e
  · next sy t1 =>
    obtain ⟨d1, k1, r1⟩ := facts_und (hE.tys _ _ t1)
    split at e
    · next el hk =>
      rw [k1] at hk
      obtain rfl := tk_slice hk.symm
      split at e
      · next ey k t2 e2 =>
        have hey := hE.tys _ _ t2
        have hlen := elenS_sound hy e2
        split at e
        · split at e
          · next l M1 e3 =>
            simp only [Option.some.injEq, Prod.mk.injEq] at e
            obtain ⟨rfl, rfl⟩ := e
            obtain ⟨g1, g2, g3⟩ := efirst_logs e3
            obtain ⟨vs, h1, h2⟩ := efirst_sound (P := P) hs hy e2 (Nat.zero_le _) e3 hl
            cases hx
            refine ⟨.int .i64 (.ofNat 0), s, ?_, .int _ _, hs.logs g2 g3, .refl⟩
            simp only [Builtin.copy_, List.getElem?_toArray, List.getElem?_cons_zero, List.getElem?_cons_succ, Sem.run_bind, r1, Result.andThen_ok, hlen, run_pureS, facts_size hey]
            rw [show Nat.min k 0 = 0 from Nat.min_zero k]
            simp only [h2, Result.andThen_ok, run_pureS]
            rfl
          · cases e
        · next i o len cap ex es =>
          simp only [fN_eq] at e
          split at e
          · next l M1 e3 =>
            split at e
            · next c e4 e5 e6 =>
              split at e
              · next c' e7 =>
                simp only [Option.some.injEq, Prod.mk.injEq] at e
                obtain ⟨rfl, rfl⟩ := e
                obtain ⟨g1, g2, g3⟩ := efirst_logs e3
                have hl1 := hl.back (.wroteR e5)
                obtain ⟨vs, h1, h2⟩ := efirst_sound (P := P) hs hy e2 (Nat.min_le_left k len) e3 hl1
                obtain ⟨b, f, z, cc, rfl, q0, q1, q2, q3, q4⟩ := hx.slice_inv
                have hv : cx.vis i := hl.rd i (List.mem_cons_self ..)
                have hw : cx.wok i := hl.wr i (List.mem_cons_self ..)
                obtain ⟨s', p1, p2, p3, p4⟩ := (hs.logs g2 g3).stores (P := P) e5 hv hw q0 h1 e6 e7
                rw [g3] at p4
                refine ⟨.int .i64 (.ofNat (Nat.min k len)), s', ?_, .int _ _, p3, p4⟩
                simp only [Builtin.copy_, List.getElem?_toArray, List.getElem?_cons_zero, List.getElem?_cons_succ, Sem.run_bind, r1, Result.andThen_ok, hlen, run_pureS, facts_size hey, h2, p1]
                rfl
              · cases e
            · cases e
          · cases e
        · cases e
      · cases e
    · cases e
  · cases e
/-! Maps, as they stand in a block. -/
theorem run_getObj_map {w : World} {b : Nat} {ws : Array MapEntry} {clock : Nat} (h : w.heap[b]? = some (.map ws clock)) : (getObj b).run P w = .ok (.map ws clock) w := by simp [getObj, Sem.run, h]
theorem Is.mapAt (hs : Is B G cx M hi s) {i : Nat} {es : List En} {ck : Option Nat} (e : M.emap i = some (es, ck)) (hv : cx.vis i) : s.F i = some (.map es ck) ∧ i < M.next ∧ ∃ b z ws clock, s.σ i = some (b, 0, z) ∧ s.W.heap[b]? = some (.map ws clock) ∧ MRel s.σ es ck ws.toList clock := by
  unfold Mem.emap at e
  split at e
  · next es' ck' eo =>
    simp only [Option.some.injEq, Prod.mk.injEq] at e
    obtain ⟨rfl, rfl⟩ := e
    have hF := hs.obj eo hv
    obtain ⟨b, f, z, o, h1, h2, rfl, ws, cl, rfl, h3⟩ := hs.rel.rep i _ hF
    exact ⟨hF, (ob_eq eo).1, b, z, ws, cl, h1, h2, h3⟩
  · cases e
theorem ELRel.length {σ : Sg} : ∀ {l : List En} {m : List MapEntry}, ELRel σ l m → l.length = m.length
  | _, _, .nil => rfl
  | _, _, .cons _ h => congrArg (· + 1) h.length
theorem MRel.length {σ : Sg} {es : List En} {ck : Option Nat} {ws : List MapEntry} {clock : Nat} (h : MRel σ es ck ws clock) : es.length = ws.length := by
  obtain ⟨vs, h1, h2⟩ := h.perm
  rw [h2.length, h1.length_eq]
theorem elen_gr {t : Nat} {x r : AV} (e : elen E M t x = some (r, M')) : Gr M M' ∧ M'.objs = M.objs ∧ M'.next = M.next := by
  unfold elen at e
  repeat' split at e
  all_goals first
    | (cases e; done)
    | (simp only [Option.some.injEq, Prod.mk.injEq] at e; obtain ⟨_, rfl⟩ := e; first | exact ⟨.refl _, rfl, rfl⟩ | exact ⟨.saw _ _, rfl, rfl⟩)
theorem elen_sound (hE : EnvOk P E) (hs : Is B G cx M hi s) {t ty' : Nat} {x r : AV} {u : Value} (hx : VRel s.σ x u) (e : elen E M t x = some (r, M')) (hl : LogOk cx M') : ∃ q, VRel s.σ r q ∧ (Builtin.len_ #[t] ty' #[u]).run P s.W = .ok q s.W := by
  unfold elen at e
  split at e
  · next ty et =>
    obtain ⟨d, k1, r1⟩ := facts_und (hE.tys _ _ et)
    rw [k1] at e
    split at e
    · next hk =>
      obtain rfl := tk_str hk.symm
      simp only [Option.some.injEq, Prod.mk.injEq] at e
      obtain ⟨rfl, rfl⟩ := e
      cases hx
      exact ⟨_, .int _ _, by simp [Builtin.len_, Sem.run_bind, r1, goInt, sB_size]⟩
    · next hk =>
      obtain rfl := tk_array hk.symm
      simp only [Option.some.injEq, Prod.mk.injEq] at e
      obtain ⟨rfl, rfl⟩ := e
      exact ⟨_, .int _ _, by simp [Builtin.len_, Sem.run_bind, r1, goInt]⟩
    · next hk =>
      obtain rfl := tk_slice hk.symm
      simp only [Option.some.injEq, Prod.mk.injEq] at e
      obtain ⟨rfl, rfl⟩ := e
      cases hx
      exact ⟨_, .int _ _, by simp [Builtin.len_, Sem.run_bind, r1, goInt]⟩
    · next hk =>
      obtain rfl := tk_slice hk.symm
      simp only [Option.some.injEq, Prod.mk.injEq] at e
      obtain ⟨rfl, rfl⟩ := e
      cases hx
      exact ⟨_, .int _ _, by simp [Builtin.len_, Sem.run_bind, r1, goInt]⟩
    · next hk =>
      obtain rfl := tk_slice hk.symm
      simp only [Option.some.injEq, Prod.mk.injEq] at e
      obtain ⟨rfl, rfl⟩ := e
      obtain ⟨b, f, z, cc, rfl, _⟩ := hx.slice_inv
      exact ⟨_, .int _ _, by simp [Builtin.len_, Sem.run_bind, r1, goInt]⟩
    · next hk =>
      obtain rfl := tk_map hk.symm
      simp only [Option.some.injEq, Prod.mk.injEq] at e
      obtain ⟨rfl, rfl⟩ := e
      cases hx
      exact ⟨_, .int _ _, by simp [Builtin.len_, Sem.run_bind, r1, goInt]⟩
    · next i hk =>
      obtain rfl := tk_map hk.symm
      split at e
      · next es ck em =>
        simp only [Option.some.injEq, Prod.mk.injEq] at e
        obtain ⟨rfl, rfl⟩ := e
        obtain ⟨_, _, b, z, ws, cl, h1, h2, h3⟩ := hs.mapAt em (hl.rd i (List.mem_cons_self ..))
        cases hx
        next b' f' z' h4 =>
        rw [h1] at h4
        cases h4
        refine ⟨_, .int _ _, ?_⟩
        simp only [Builtin.len_, List.getElem?_toArray, List.getElem?_cons_zero, Sem.run_bind, r1, Result.andThen_ok, run_getObj_map h2, goInt, run_pureS]
        rw [h3.length]
        simp
      · cases e
    · cases e
  · cases e
theorem ecap_sound (hE : EnvOk P E) {t ty' : Nat} {x r : AV} {u : Value} {σ : Sg} (hx : VRel σ x u) (e : ecap E M t x = some (r, M')) (w : World) : M' = M ∧ ∃ q, VRel σ r q ∧ (Builtin.cap_ #[t] ty' #[u]).run P w = .ok q w := by
  unfold ecap at e
  split at e
  · next ty et =>
    obtain ⟨d, k1, r1⟩ := facts_und (hE.tys _ _ et)
    rw [k1] at e
    split at e
    · next hk =>
      obtain rfl := tk_slice hk.symm
      simp only [Option.some.injEq, Prod.mk.injEq] at e
      obtain ⟨rfl, rfl⟩ := e
      cases hx
      exact ⟨rfl, _, .int _ _, by simp [Builtin.cap_, Sem.run_bind, r1, goInt]⟩
    · next hk =>
      obtain rfl := tk_slice hk.symm
      simp only [Option.some.injEq, Prod.mk.injEq] at e
      obtain ⟨rfl, rfl⟩ := e
      obtain ⟨b, f, z, cc, rfl, q0, q1, _⟩ := hx.slice_inv
      rw [q1 rfl]
      exact ⟨rfl, _, .int _ _, by simp [Builtin.cap_, Sem.run_bind, r1, goInt]⟩
    · next hk =>
      obtain rfl := tk_slice hk.symm
      simp only [Option.some.injEq, Prod.mk.injEq] at e
      obtain ⟨rfl, rfl⟩ := e
      obtain ⟨b, f, z, cc, rfl, q0, q1, q2, _⟩ := hx.slice_inv
      exact ⟨rfl, _, .atl q2, by simp [Builtin.cap_, Sem.run_bind, r1, goInt]⟩
    · cases e
  · cases e
end
end GrG
