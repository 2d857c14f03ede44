/-
  Texts of one claim, merged.
-/
import Derived.Test.YtlflknfkenfpiaaGreatDoorR19
set_option linter.unusedSimpArgs false
set_option linter.unusedVariables false
namespace GrG
open Go Go.RowKit
section
variable {P : Program} {B : World} {G : Nat} {E : Env} {self : Self} {cx : Cx} {M M' : Mem} {hi n : Nat} {s : At} {L : T AV} {a : Act}
theorem Jn.also {M0 a m : Mem} (h : Jn M0 a m) (rd wr : List Nat) : Jn M0 a (m.also rd wr) :=
  ⟨fun i q l => List.mem_append_left _ (h.rd i q l), fun i q l => List.mem_append_left _ (h.wr i q l), h.next, h.wk, fun i q r => h.keep i q fun x => r (List.mem_append_left _ x)⟩
structure Fr0 (M0 a : Mem) : Prop where
  next : M0.next ≤ a.next
  keep : ∀ i, i < M0.next → i ∉ a.wr → a.objs.get i = M0.objs.get i
theorem jM_fr0 {M0 a b : Mem} (ha : Fr0 M0 a) (_hb : Fr0 M0 b) : Fr0 M0 (jM M0 a b) := by
  have hm : Nat.max a.next b.next = max a.next b.next := rfl
  have h1 := ha.next
  have hn : (jM M0 a b).next = max a.next b.next := rfl
  refine ⟨by rw [hn]; omega, fun i q r => ?_⟩
  have r1 : i ∉ a.wr := fun h => r (List.mem_append_left _ h)
  have r2 : i ∉ b.wr := fun h => r (List.mem_append_right _ h)
  rw [jM_get, if_neg r2, if_neg r1, if_pos q, ha.keep i q r1]
theorem slim_fr0 {M0 : Mem} {p : AV × Mem} (h : Fr0 M0 p.2) : Fr0 M0 (slim M0.next p).2 := ⟨h.next, fun i q r => h.keep i q fun x => r ((slim_log q).2 x)⟩
theorem jV_fr0 {M0 : Mem} : ∀ (l : List (AV × Mem)) (p q : AV × Mem), jV M0 p l = some q → Fr0 M0 p.2 → (∀ r ∈ l, Fr0 M0 r.2) → Fr0 M0 q.2
  | [], p, q, h, hp, hl => by
    simp only [jV, Option.some.injEq] at h
    subst h
    exact hp
  | r :: l, p, q, h, hp, hl => by
    simp only [jV] at h
    split at h
    · exact jV_fr0 l _ q h (jM_fr0 hp (hl r (List.mem_cons_self ..))) fun x hx => hl x (List.mem_cons_of_mem _ hx)
    · cases h
theorem Fr0.of {M0 M : Mem} (g : Gr M0.fresh M) : Fr0 M0 M := ⟨g.next, g.keep⟩
theorem From.of {M0 M : Mem} (g : Gr M0.fresh M) (ht : ∀ i, M0.next ≤ i → M0.objs.get i = none) : From M0 M := ⟨g.next, g.keep, g.top ht⟩
theorem gr_of {M0 m : Mem} (h : Fr0 M0 m) (ht : (∀ i, M0.next ≤ i → M0.objs.get i = none) → ∀ i, m.next ≤ i → m.objs.get i = none) : Gr M0 (m.also M0.rd M0.wr) :=
  ⟨h.next, fun i q => List.mem_append_right _ q, fun i q => List.mem_append_right _ q, fun i q r => h.keep i q fun x => r (List.mem_append_left _ x), ht⟩
theorem jR1_all {r : R1} {p : AV → Mem → Prop} (hlo : cx.lo ≤ M.next) (hf : ∀ v m, r.In v m → From M m) (h : (jR1 M r).All fun v M' => LogOk cx M' ∧ M'.next ≤ hi ∧ p v M') :
    r.All fun v m => LogOk cx m ∧ m.next ≤ hi ∧ M.next ≤ m.next ∧ ∃ q, Jn M m q ∧ LogOk cx q ∧ q.next ≤ hi ∧ p v q := by
  unfold jR1 at h
  split at h
  · next x l =>
    split at h
    · next q e =>
      have fl : ∀ r ∈ l.map (slim M.next), From M r.2 := fun r hr => by
        obtain ⟨y, hy, rfl⟩ := List.mem_map.1 hr
        exact slim_from (hf y.1 y.2 (List.mem_cons_of_mem _ hy))
      obtain ⟨k1, k2⟩ := jV_jn _ _ q e (slim_from (hf x.1 x.2 (List.mem_cons_self ..))) fl
      obtain ⟨h1, h2, h3⟩ := h.all _ _ ⟨rfl, rfl⟩
      refine ⟨⟨_, _, List.mem_cons_self ..⟩, fun v m hin => ?_⟩
      have hin' : (slim M.next (v, m)) ∈ slim M.next x :: l.map (slim M.next) := by
        rcases List.mem_cons.1 (show (v, m) ∈ x :: l from hin) with h | h
        · rw [h]; exact List.mem_cons_self ..
        · exact List.mem_cons_of_mem _ (List.mem_map_of_mem h)
      obtain ⟨e1, e2⟩ := k2 _ hin'
      have e1 : v = q.1 := e1
      have j := (e2.slim (p := (v, m))).also M.rd M.wr
      refine ⟨⟨fun i hi => ?_, fun i hi => ?_⟩, Nat.le_trans j.next h2, (hf v m hin).next, _, j, h1, h2, by rw [e1]; exact h3⟩
      · by_cases hl : i < M.next
        · exact h1.rd i (j.rd i hi hl)
        · exact cx.seen i (cx.own i (by omega))
      · by_cases hl : i < M.next
        · exact h1.wr i (j.wr i hi hl)
        · exact cx.own i (by omega)
    · exact absurd rfl h.is
  · next v m =>
    obtain ⟨h1, h2, h3⟩ := h.all _ _ ⟨rfl, rfl⟩
    refine .one ?_
    have j := (Jn.refl M m).also M.rd M.wr
    exact ⟨⟨fun i hi => h1.rd i (List.mem_append_left _ hi), fun i hi => h1.wr i (List.mem_append_left _ hi)⟩, h2, (hf v m ⟨rfl, rfl⟩).next, _, j, h1, h2, h3⟩
  · exact absurd rfl h.is
theorem jR1_gr {r : R1} (hf : ∀ v m, r.In v m → Gr M.fresh m) {v : AV} (h : (jR1 M r).In v M') : Gr M M' := by
  unfold jR1 at h
  split at h
  · next x l =>
    split at h
    · next q e =>
      obtain ⟨_, rfl⟩ := h
      have f0 := hf x.1 x.2 (List.mem_cons_self ..)
      have fl : ∀ r ∈ l, Gr M.fresh r.2 := fun r hr => hf r.1 r.2 (List.mem_cons_of_mem _ hr)
      exact gr_of (jV_fr0 _ _ q e (slim_fr0 (.of f0)) fun r hr => by
        obtain ⟨y, hy, rfl⟩ := List.mem_map.1 hr
        exact slim_fr0 (.of (fl y hy))) fun ht => (jV_jn _ _ q e (slim_from (.of f0 ht)) fun r hr => by
        obtain ⟨y, hy, rfl⟩ := List.mem_map.1 hr
        exact slim_from (.of (fl y hy) ht)).1.top
    · exact h.elim
  · next v m =>
    obtain ⟨_, rfl⟩ := h
    have := hf v m ⟨rfl, rfl⟩
    exact gr_of (.of this) this.top
  · exact h.elim
theorem splitRun_in {k : List AV → Mem → R1} : ∀ {l : List (List AV × Mem)} {m : List (AV × Mem)}, splitRun k l = some m → ∀ x ∈ l, (∃ v M', (k x.1 x.2).In v M') ∧ ∀ v M', (k x.1 x.2).In v M' → (v, M') ∈ m
  | [], m, h, x, hx => by cases hx
  | p :: l, m, h, x, hx => by
    simp only [splitRun] at h
    split at h
    · next y a b e1 e2 =>
      simp only [Option.some.injEq] at h
      subst h
      rcases List.mem_cons.1 hx with rfl | hx
      · exact ⟨⟨y.1, y.2, (R1.list_in e1 _ _).2 (List.mem_cons_self ..)⟩, fun v M' q => List.mem_append_left _ ((R1.list_in e1 _ _).1 q)⟩
      · obtain ⟨h4, h2⟩ := splitRun_in e2 x hx
        exact ⟨h4, fun v M' q => List.mem_append_right _ (h2 v M' q)⟩
    · cases h
theorem splitRun_of {k : List AV → Mem → R1} : ∀ {l : List (List AV × Mem)} {m : List (AV × Mem)}, splitRun k l = some m → ∀ v M', (v, M') ∈ m → ∃ x ∈ l, (k x.1 x.2).In v M'
  | [], m, h, v, M', hm => by
    simp only [splitRun, Option.some.injEq] at h
    subst h
    cases hm
  | p :: l, m, h, v, M', hm => by
    simp only [splitRun] at h
    split at h
    · next y a b e1 e2 =>
      simp only [Option.some.injEq] at h
      subst h
      rcases List.mem_append.1 hm with hm | hm
      · exact ⟨p, List.mem_cons_self .., (R1.list_in e1 _ _).2 hm⟩
      · obtain ⟨x, h1, h2⟩ := splitRun_of e2 v M' hm
        exact ⟨x, List.mem_cons_of_mem _ h1, h2⟩
    · cases h
theorem canon_gr {nx : Nat} {v r : AV} (e : canon nx v M = some (r, M')) : Gr M M' := by
  unfold canon at e
  split at e
  · next i o len c es =>
    split at e
    · next _ty cr er =>
      split at e
      · split at e
        · next hx =>
          simp only [Option.some.injEq, Prod.mk.injEq] at e
          obtain ⟨_, rfl⟩ := e
          have hx := ble_t hx
          refine ⟨Nat.le_succ_of_le hx, fun _ h => List.mem_cons_of_mem _ h, fun _ h => List.mem_cons_of_mem _ h, fun j q r => ?_, fun h j hj => ?_⟩
          · have q1 : j ≠ nx := by omega
            have q2 : j ≠ i := fun e => r (e ▸ List.mem_cons_self ..)
            show ((M.objs.set i none).set nx _).get j = _
            rw [T.get_set_ne _ _ q1, T.get_set_ne _ _ q2]
          · have hj : nx + 1 ≤ j := hj
            have hi := (ob_eq (row_eq er)).1
            show ((M.objs.set i none).set nx _).get j = _
            rw [T.get_set_ne _ _ (by omega), T.get_set_ne _ _ (by omega)]
            exact h j (by omega)
        · cases e
      · cases e
    · cases e
  · cases e
theorem canon_ok (hs : Is B G cx M hi s) {nx : Nat} {v r : AV} {q : Value} (hv : VRel s.σ v q) (e : canon nx v M = some (r, M')) (hl : LogOk cx M') (hh : M'.next ≤ hi) :
    ∃ s', s'.W = s.W ∧ VRel s'.σ r q ∧ Is B G cx M' hi s' ∧ To cx M.next hi s s' := by
  unfold canon at e
  split at e
  · next i o len c es =>
    split at e
    · next _ty cr er =>
      split at e
      · next l el =>
        split at e
        · next hx =>
          simp only [Option.some.injEq, Prod.mk.injEq] at e
          obtain ⟨rfl, rfl⟩ := e
          have hx := ble_t hx
          obtain ⟨b, f, z, cc, rfl, q0, q1, q2, q3, q4⟩ := hv.slice_inv
          have hw : cx.wok i := hl.wr i (List.mem_cons_self ..)
          have hvi : cx.vis i := cx.seen i hw
          have q4 := q4 rfl
          have hle : len * es ≤ cc * es := Nat.mul_le_mul_right _ (Nat.le_trans q3 q2)
          obtain ⟨s', p1, p2, p3, p4⟩ := hs.alias (P := default) (nl := []) (vs := []) (M' := ⟨(M.objs.set i none).set nx (some (.row none (T.ofA l))), nx + 1, i :: M.rd, i :: M.wr⟩) er hvi q0 hw el .nil rfl (by simp; omega) hx (by rw [List.append_nil]) rfl hh
          have hW : s'.W = s.W := by
            have : (storeCells ⟨b, f + o + len * es, none⟩ []).run default s.W = .ok () s.W := rfl
            rw [this] at p1
            injection p1 with _ p1
            exact p1.symm
          refine ⟨s', hW, ?_, p3, p4⟩
          have := VRel.slice (σ := s'.σ) (i := nx) (o := 0) (len := len) (cap := len) (es := es) (ex := false) p2 (fun h => by cases h) (Nat.le_trans q3 q2) (Nat.le_refl _) (fun _ => by rw [Nat.add_zero]; exact q4)
          rw [Nat.add_zero] at this
          exact this
        · cases e
      · cases e
    · cases e
  · cases e
theorem canonL_in {nx : Nat} : ∀ {l m : List (AV × Mem)}, canonL nx l = some m → (∀ x ∈ l, ∃ y ∈ m, canon nx x.1 x.2 = some y) ∧ (∀ y ∈ m, ∃ x ∈ l, canon nx x.1 x.2 = some y)
  | [], m, h => by
    simp only [canonL, Option.some.injEq] at h
    subst h
    exact ⟨(fun x h => by cases h), (fun x h => by cases h)⟩
  | p :: l, m, h => by
    simp only [canonL] at h
    split at h
    · next q m' e1 e2 =>
      simp only [Option.some.injEq] at h
      subst h
      obtain ⟨k1, k2⟩ := canonL_in e2
      refine ⟨fun x hx => ?_, fun y hy => ?_⟩
      · rcases List.mem_cons.1 hx with rfl | hx
        · exact ⟨q, List.mem_cons_self .., e1⟩
        · obtain ⟨y, h1, h2⟩ := k1 x hx
          exact ⟨y, List.mem_cons_of_mem _ h1, h2⟩
      · rcases List.mem_cons.1 hy with rfl | hy
        · exact ⟨p, List.mem_cons_self .., e1⟩
        · obtain ⟨x, h1, h2⟩ := k2 y hy
          exact ⟨x, List.mem_cons_of_mem _ h1, h2⟩
    · cases h
def Cn (v : AV) (m : Mem) (v' : AV) (m' : Mem) : Prop := (v' = v ∧ m' = m) ∨ ∃ nx, canon nx v m = some (v', m')
theorem Cn.gr {v v' : AV} {m m' : Mem} (h : Cn v m v' m') : Gr m m' := by
  rcases h with ⟨_, rfl⟩ | ⟨nx, h⟩
  · exact .refl _
  · exact canon_gr h
theorem canonR_all {r : R1} {p : AV → Mem → Prop} (h : (canonR r).All p) : r.All fun v m => ∃ v' m', Cn v m v' m' ∧ (canonR r).In v' m' := by
  unfold canonR at *
  cases r with
  | no => exact absurd rfl h.is
  | dfr d M => exact absurd rfl h.is
  | one v M => exact .one ⟨_, _, .inl ⟨rfl, rfl⟩, rfl, rfl⟩
  | many l =>
    simp only [fN_eq] at h ⊢
    obtain ⟨m, e, _, hm⟩ := R1.ofO_in h.is
    refine ⟨?_, fun v M hin => ?_⟩
    · obtain ⟨v, M, hin⟩ := h.ex
      obtain ⟨x, h1, _⟩ := (canonL_in e).2 _ ((hm _ _).1 hin)
      exact ⟨x.1, x.2, h1⟩
    obtain ⟨y, h1, h2⟩ := (canonL_in e).1 (v, M) hin
    exact ⟨y.1, y.2, .inr ⟨_, h2⟩, (hm _ _).2 h1⟩
theorem canonR_in {r : R1} {v' : AV} {m' : Mem} (h : (canonR r).In v' m') : ∃ v m, r.In v m ∧ Cn v m v' m' := by
  unfold canonR at h
  cases r with
  | no => exact h.elim
  | dfr d M => exact h.elim
  | one v M => exact ⟨v, M, ⟨rfl, rfl⟩, .inl h⟩
  | many l =>
    simp only [fN_eq] at h
    obtain ⟨m, e, _, hm⟩ := R1.ofO_in (R1.in_no h)
    obtain ⟨x, h1, h2⟩ := (canonL_in e).2 _ ((hm _ _).1 h)
    exact ⟨x.1, x.2, h1, .inr ⟨_, h2⟩⟩
theorem fillB_get : ∀ (k : Nat) (c : T AV) (o j : Nat) (a : AV), (fillB c o k).get j = some a → c.get j = some a ∨ (a = .bad ∧ o ≤ j ∧ j < o + k)
  | 0, c, o, j, a, h => .inl h
  | k + 1, c, o, j, a, h => by
    simp only [fillB, fN_eq] at h
    split at h
    · rcases fillB_get k _ _ j a h with h | ⟨h1, h2, h3⟩
      · exact .inl h
      · exact .inr ⟨h1, by omega, by omega⟩
    · rcases fillB_get k _ _ j a h with h | ⟨h1, h2, h3⟩
      · rcases T.get_set _ _ _ _ _ h with ⟨h1, h2⟩ | h
        · cases h2
          exact .inr ⟨rfl, by omega, by omega⟩
        · exact .inl h
      · exact .inr ⟨h1, by omega, by omega⟩
theorem caps_in {i o len es : Nat} {l : List AV} : ∀ (k c x : Nat), c ≤ x → x < c + k → (.slice i o len x true es :: l, M) ∈ caps i o len es l M c k
  | 0, c, x, h1, h2 => by omega
  | k + 1, c, x, h1, h2 => by
    rw [caps, fN_eq]
    by_cases q : x = c
    · subst q; exact List.mem_cons_self ..
    · exact List.mem_cons_of_mem _ (caps_in k (c + 1) x (by omega) (by omega))
theorem caps_gr {i o len es : Nat} {l : List AV} : ∀ (k c : Nat), ∀ x ∈ caps i o len es l M c k, x.2 = M
  | 0, c, x, h => by cases h
  | k + 1, c, x, h => by
    rw [caps, fN_eq] at h
    rcases List.mem_cons.1 h with rfl | h
    · rfl
    · exact caps_gr k (c + 1) x h
theorem splitA_gr {args : List AV} {l : List (List AV × Mem)} (e : splitA args M = some l) : ∀ x ∈ l, Gr M x.2 := by
  unfold splitA at e
  intro x hx
  split at e
  · split at e
    · next er =>
      split at e
      · simp only [Option.some.injEq] at e
        subst e
        rcases List.mem_singleton.1 hx with rfl
        exact .refl _
      · simp only [fN_eq, Option.some.injEq] at e
        subst e
        rcases List.mem_cons.1 hx with rfl | hx
        · exact .wroteR er
        · rw [caps_gr _ _ x hx]
          exact .refl _
    · cases e
  · simp only [Option.some.injEq] at e
    subst e
    rcases List.mem_singleton.1 hx with rfl
    exact .refl _
theorem splitA_ok (hs : Is B G cx M hi s) {args : List AV} {vs : List Value} (hv : LRel s.σ args vs) {l : List (List AV × Mem)} (e : splitA args M = some l) (hl : ∀ x ∈ l, LogOk cx x.2) :
    ∃ x ∈ l, ∃ s', s'.W = s.W ∧ LRel s'.σ x.1 vs ∧ Is B G cx x.2 hi s' ∧ To cx M.next hi s s' := by
  unfold splitA at e
  split at e
  · next i o len cap es x v =>
    split at e
    · next m ty c e1 er =>
      split at e
      · simp only [Option.some.injEq] at e
        subst e
        exact ⟨_, List.mem_singleton.2 rfl, s, rfl, hv, hs, .refl⟩
      · next hc =>
        simp only [fN_eq, Option.some.injEq] at e
        subst e
        have hc := ble_f hc
        cases hv with
        | cons h1 h2 =>
          obtain ⟨b, f, z, cc, rfl, q0, q1, q2, q3, q4⟩ := h1.slice_inv
          have q4 := q4 rfl
          by_cases hcc : len + m ≤ cc
          · have hll := hl _ (List.mem_cons_self ..)
            have hvi : cx.vis i := hll.rd i (List.mem_cons_self ..)
            have hwi : cx.wok i := hll.wr i (List.mem_cons_self ..)
            have hF := hs.row er hvi
            obtain ⟨cs, t, r1, r0, r2, r3⟩ := hs.rel.rowAt hF q0
            have hmul : (len + m) * es ≤ cc * es := Nat.mul_le_mul_right _ hcc
            have hr : RelM B G s.σ (s.F.upd i (some (.row ty (fillB c o ((len + m) * es))))) s.W := hs.rel.chg hF q0 (fun _ _ => rfl) r1 ⟨cs, t, rfl, r0, r2, fun j a hj => by
              rcases fillB_get _ _ _ _ _ hj with hj | ⟨rfl, k1, k2⟩
              · exact r3 j a hj
              · have : f + j < cs.size := by omega
                exact ⟨cs[f + j], Array.getElem?_eq_getElem this, .bad _⟩⟩ hs.rel.base
            obtain ⟨k1, k2⟩ := hs.put (ob_eq (row_eq er)).1 hwi hr
            refine ⟨_, List.mem_cons_self .., ⟨s.σ, s.F.upd i (some (.row ty (fillB c o ((len + m) * es)))), s.W⟩, rfl, .cons ?_ h2, k1, k2⟩
            exact .slice q0 (fun h => by cases h) hcc (by omega) (fun _ => q4)
          · refine ⟨_, List.mem_cons_of_mem _ (caps_in (len + m - cap) cap cc (by omega) (by omega)), s, rfl, .cons ?_ h2, hs, .refl⟩
            exact .slice q0 (fun _ => rfl) (Nat.le_refl _) (by omega) (fun h => by cases h)
    · cases e
  · simp only [Option.some.injEq] at e
    subst e
    exact ⟨_, List.mem_singleton.2 rfl, s, rfl, hv, hs, .refl⟩
theorem Ret.of {M1 : Mem} {s1 : At} {p p' : AV → Mem → Prop} (hW : s1.W = s.W) (ht : To cx M.next hi s s1) (hn : M.next ≤ M1.next) (hp : ∀ v m s2 q, p v m → VRel s2.σ v q → Is B G cx m hi s2 → To cx M.next hi s s2 → ∃ v' m' s', p' v' m' ∧ s'.W = s2.W ∧ VRel s'.σ v' q ∧ Is B G cx m' hi s' ∧ To cx M.next hi s s') :
    ∀ e W', Ret B G cx M1 hi s1 p e W' → Ret B G cx M hi s p' e W' := by
  intro e W' h
  cases e with
  | returned q =>
    obtain ⟨v, m, s2, h1, h2, h3, h4, h5⟩ := h
    obtain ⟨v', m', s', k1, k2, k3, k4, k5⟩ := hp v m s2 q h1 h3 h4 (ht.trans h5 hn)
    exact ⟨v', m', s', k1, k2.trans h2, k3, k4, k5⟩
  | panicked c => exact h.elim
  | outgrown => exact h.elim
theorem fresh_is (h : Is B G cx M hi s) : Is B G cx M.fresh hi s := h.logs rfl rfl
theorem evCallF0_gr (hS : SelfOk P B E self) {f : Nat} {args : List AV} {v : AV} (h : (evCallF0 E self f args M).In v M') : Gr M M' := by
  unfold evCallF0 at h
  split at h
  · next fn ef =>
    split at h
    · next c hb =>
      rw [fN_eq] at h
      split at h
      · exact body1_gr hS h
      · exact jR1_gr (fun v m hin => body1_gr hS hin) h
      · split at h
        · next l el =>
          refine jR1_gr (fun v m hin => ?_) h
          obtain ⟨v0, m0, h0, hc⟩ := canonR_in hin
          obtain ⟨m, e, _, hm⟩ := R1.ofO_in (R1.in_no h0)
          obtain ⟨x, hx, h1⟩ := splitRun_of e v0 m0 ((hm _ _).1 h0)
          exact (splitA_gr el x hx).trans ((body1_gr hS h1).trans hc.gr)
        · exact h.elim
    · exact h.elim
  · exact h.elim
theorem evCallF0_ok (hE : EnvOk P E) (hS : SelfOk P B E self) {f : Nat} {args : List AV} {vs : List Value} (hs : Is B E.ng cx M hi s) (hv : LRel s.σ args vs) {p : AV → Mem → Prop}
    (h : (evCallF0 E self f args M).All fun v M' => LogOk cx M' ∧ M'.next ≤ hi ∧ p v M') : ∃ fn, E.fns f = some fn ∧ CallsIn (fw none) 0 P f vs.toArray s.W (Ret B E.ng cx M hi s p) := by
  unfold evCallF0 at h
  split at h
  · next fn ef =>
    obtain ⟨k1, k2, k3⟩ := hE.fns _ _ ef
    refine ⟨fn, ef, ?_⟩
    split at h
    · next c hb =>
      rw [fN_eq] at h
      split at h
      · exact body1_ok hE hS k1 hb hs hv h
      · have ha := jR1_all hs.ol (fun v m hin => From.of (body1_gr hS hin) hs.top) h
        refine (body1_ok hE hS k1 hb (fresh_is hs) hv ha).mono ?_
        refine Ret.of rfl .refl (Nat.le_refl _) fun v m s2 u ⟨j0, q, j1, j2, j3, j4⟩ hu h2 h3 => ?_
        obtain ⟨s', e1, e2, e3, e4⟩ := h2.join j1 j2 j3 j0 hs.ol
        exact ⟨v, q, s', j4, e1, by rw [e2]; exact hu, e3, h3.trans e4 (Nat.le_refl _)⟩
      · split at h
        · next l el =>
          have ha := jR1_all hs.ol (fun v m hin => From.of (by
            obtain ⟨v0, m0, h0, hc⟩ := canonR_in hin
            obtain ⟨m, e, _, hm⟩ := R1.ofO_in (R1.in_no h0)
            obtain ⟨x, hx, h1⟩ := splitRun_of e v0 m0 ((hm _ _).1 h0)
            exact (splitA_gr el x hx).trans ((body1_gr hS h1).trans hc.gr)) hs.top) h
          have hb' := canonR_all ha
          obtain ⟨mm, e, _, hm⟩ := R1.ofO_in hb'.is
          have each : ∀ x ∈ l, (body1 E self (Nat.max args.length fn.ntmps) fn c x.1 x.2).All fun v m => LogOk cx m ∧ m.next ≤ hi ∧ M.next ≤ m.next ∧ (∃ v' m', Cn v m v' m' ∧ LogOk cx m' ∧ m'.next ≤ hi ∧ M.next ≤ m'.next ∧ ∃ q, Jn M m' q ∧ LogOk cx q ∧ q.next ≤ hi ∧ p v' q) := fun x hx => by
            obtain ⟨h1, h2⟩ := splitRun_in e x hx
            refine ⟨h1, fun v m hin => ?_⟩
            obtain ⟨v', m', hc, hin'⟩ := hb'.all v m ((hm _ _).2 (h2 v m hin))
            obtain ⟨p1, p2, p3, p4⟩ := ha.all v' m' hin'
            exact ⟨p1.back hc.gr, Nat.le_trans hc.gr.next p2, Nat.le_trans (splitA_gr el x hx).next (body1_gr hS hin).next, v', m', hc, p1, p2, p3, p4⟩
          have logs : ∀ x ∈ l, LogOk cx x.2 := fun x hx => by
            obtain ⟨⟨v, m, hin⟩, _⟩ := splitRun_in e x hx
            exact ((each x hx).all v m hin).1.back (body1_gr hS hin)
          obtain ⟨x, hx, s1, w1, w2, w3, w4⟩ := splitA_ok (fresh_is hs) hv el logs
          have hlen : x.1.length = args.length := by rw [w2.length, hv.length]
          have hx' := each x hx
          rw [← hlen] at hx'
          have := body1_ok hE hS k1 hb w3 w2 hx'
          rw [w1] at this
          have gx := splitA_gr el x hx
          refine this.mono ?_
          refine Ret.of w1 w4 gx.next fun v m s2 u ⟨c0, v', m', hc, c1, c2, c3, q, j1, j2, j3, j4⟩ hu h2 h3 => ?_
          rcases hc with ⟨rfl, rfl⟩ | ⟨nx, hc⟩
          · obtain ⟨s', e1, e2, e3, e4⟩ := h2.join j1 j2 j3 c3 hs.ol
            exact ⟨v', q, s', j4, e1, by rw [e2]; exact hu, e3, h3.trans e4 (Nat.le_refl _)⟩
          · have hm := h3.le
            obtain ⟨s3, d1, d2, d3, d4⟩ := canon_ok h2 hu hc c1 c2
            obtain ⟨s', e1, e2, e3, e4⟩ := d3.join j1 j2 j3 c3 hs.ol
            exact ⟨v', q, s', j4, e1.trans d1, by rw [e2]; exact d2, e3, (h3.trans d4 c0).trans e4 (Nat.le_refl _)⟩
        · exact absurd rfl h.is
    · exact absurd rfl h.is
  · exact absurd rfl h.is
theorem allP_t {α : Type} {p : α → Bool} : ∀ {l : List α}, allP p l = true → ∀ a ∈ l, p a = true
  | [], _, a, h => by cases h
  | x :: l, e, a, h => by
    simp only [allP] at e
    split at e
    · next e1 =>
      rcases List.mem_cons.1 h with rfl | h
      · exact e1
      · exact allP_t e a h
    · cases e
theorem keyIn_t {α : Type} {i : Nat} : ∀ {l : List (Nat × α)}, keyIn i l = true → ∃ x, (i, x) ∈ l
  | [], h => by cases h
  | p :: l, h => by
    simp only [keyIn] at h
    split at h
    · next e => exact ⟨p.2, by rw [← beq_t e]; exact List.mem_cons_self ..⟩
    · obtain ⟨x, hx⟩ := keyIn_t h
      exact ⟨x, List.mem_cons_of_mem _ hx⟩
theorem memN_iff' {i : Nat} : ∀ {l : List Nat}, memN i l = true → i ∈ l
  | [], h => by cases h
  | a :: l, h => by
    simp only [memN] at h
    split at h
    · next e => rw [beq_t e]; exact List.mem_cons_self ..
    · exact List.mem_cons_of_mem _ (memN_iff' h)
theorem subN_in : ∀ {l m : List Nat}, subN l m = true → ∀ j ∈ l, j ∈ m
  | [], m, _, j, h => by cases h
  | a :: l, m, e, j, h => by
    simp only [subN] at e
    split at e
    · next e1 =>
      rcases List.mem_cons.1 h with rfl | h
      · exact memN_iff' e1
      · exact subN_in e j h
    · cases e
structure EntGood (e : Ent) (n : Nat) : Prop where
  nx : n ≤ e.nx
  top : ∀ p ∈ e.out, p.1 < e.nx
  old : ∀ p ∈ e.out, p.1 < n → p.1 ∈ e.wr
  wr : ∀ i ∈ e.wr, i ∈ e.rd
  rd : ∀ i ∈ e.rd, ∃ o, (i, o) ∈ e.inn
  low : ∀ p ∈ e.inn, p.1 < n
  all : ∀ i ∈ e.wr, ∃ o, (i, o) ∈ e.out
theorem entGood_t {e : Ent} {n : Nat} (h : entGood e n = true) : EntGood e n := by
  unfold entGood at h
  split at h
  · next h1 h2 h3 h4 h5 h6 =>
    have ho : ∀ p ∈ e.out, p.1 < e.nx ∧ (p.1 < n → p.1 ∈ e.wr) := fun p hp => by
      have := allP_t h2 p hp
      unfold outOk at this
      split at this
      · next a b => exact ⟨blt_t a, fun _ => memN_iff' this⟩
      · next a b => exact ⟨blt_t a, fun q => absurd q (blt_f b)⟩
      · cases this
    exact ⟨ble_t h1, fun p hp => (ho p hp).1, fun p hp => (ho p hp).2, subN_in h3, fun i hi => keyIn_t (allP_t h4 i hi), fun p hp => blt_t (allP_t h5 p hp), fun i hi => keyIn_t (allP_t h6 i hi)⟩
  · cases h
theorem layO_get {i : Nat} : ∀ {l : List (Nat × Option Ob)} {t : T Ob}, ((∀ p ∈ l, p.1 ≠ i) ∧ (layO l t).get i = t.get i) ∨ ∃ o, (i, o) ∈ l ∧ (layO l t).get i = o
  | [], t => .inl ⟨(fun _ h => by cases h), rfl⟩
  | p :: l, t => by
    rcases layO_get (i := i) (l := l) (t := t.set p.1 p.2) with ⟨h1, h2⟩ | ⟨o, h1, h2⟩
    · by_cases q : p.1 = i
      · subst q
        refine .inr ⟨p.2, List.mem_cons_self .., ?_⟩
        show (layO l (t.set p.1 p.2)).get p.1 = p.2
        rw [h2, T.get_set_eq]
      · refine .inl ⟨fun x hx => ?_, ?_⟩
        · rcases List.mem_cons.1 hx with rfl | hx
          · exact q
          · exact h1 x hx
        · show (layO l (t.set p.1 p.2)).get i = _
          rw [h2, T.get_set_ne _ _ (Ne.symm q)]
    · exact .inr ⟨o, List.mem_cons_of_mem _ h1, h2⟩
theorem entMem_gr {e : Ent} (g : EntGood e M.next) : Gr M (entMem e M) :=
  ⟨g.nx, fun i h => List.mem_append_right _ h, fun i h => List.mem_append_right _ h, fun i h1 h2 => by
    rcases layO_get (i := i) (l := e.out) (t := M.objs) with ⟨_, h⟩ | ⟨o, h, _⟩
    · exact h
    · exact absurd (List.mem_append_left _ (g.old _ h h1)) h2, fun h i hi => by
    have hi : e.nx ≤ i := hi
    rcases layO_get (i := i) (l := e.out) (t := M.objs) with ⟨_, q⟩ | ⟨o, q, _⟩
    · show (layO e.out M.objs).get i = none
      rw [q]
      exact h i (Nat.le_trans g.nx hi)
    · have := g.top _ q
      have : i < e.nx := this
      omega⟩
theorem entUse_t {e : Ent} {f : Nat} {args : List AV} (h : entUse e f args M = true) : f = e.fn ∧ eqL eqa args e.args = true ∧ EntGood e M.next ∧ ∀ p ∈ e.inn, eqOO (M.ob p.1) (some p.2) = true := by
  unfold entUse at h
  split at h
  · next h1 h2 h3 h4 => exact ⟨beq_t h1, h2, entGood_t h3, fun p hp => allP_t h4 p hp⟩
  · cases h
theorem evCallF_in {f : Nat} {args : List AV} {v : AV} (h : (evCallF E self f args M).In v M') : (evCallF0 E self f args M).In v M' ∨ ∃ e fn, E.orc.get M.next = some e ∧ E.fns f = some fn ∧ entUse e f args M = true ∧ v = e.v ∧ M' = entMem e M := by
  unfold evCallF at h
  split at h
  · next e fn e1 e2 =>
    split at h
    · next e3 => exact .inr ⟨e, fn, e1, e2, e3, h.1, h.2⟩
    · exact .inl h
  · exact .inl h
theorem evCallF_gr (hS : SelfOk P B E self) {f : Nat} {args : List AV} {v : AV} (h : (evCallF E self f args M).In v M') : Gr M M' := by
  rcases evCallF_in h with h | ⟨e, fn, _, _, e3, _, rfl⟩
  · exact evCallF0_gr hS h
  · exact entMem_gr (entUse_t e3).2.2.1
theorem evCallF_ok (hE : EnvOk P E) (hS : SelfOk P B E self) {f : Nat} {args : List AV} {vs : List Value} (hs : Is B E.ng cx M hi s) (hv : LRel s.σ args vs) {p : AV → Mem → Prop}
    (h : (evCallF E self f args M).All fun v M' => LogOk cx M' ∧ M'.next ≤ hi ∧ p v M') : ∃ fn, E.fns f = some fn ∧ CallsIn (fw none) 0 P f vs.toArray s.W (Ret B E.ng cx M hi s p) := by
  unfold evCallF at h
  split at h
  · next e fn e1 e2 =>
    split at h
    · next e3 =>
      obtain ⟨l1, l2, l3⟩ := h.all _ _ ⟨rfl, rfl⟩
      refine ⟨fn, e2, ?_⟩
      exact (hE.orc _ _ e1 B cx M hi s f args vs rfl e3 hs hv l1 l2).mono fun e' W' hR => by
        cases e' with
        | returned q =>
          obtain ⟨v, m, s', ⟨rfl, rfl⟩, k2, k3, k4, k5⟩ := hR
          exact ⟨_, _, s', l3, k2, k3, k4, k5⟩
        | panicked c => exact hR.elim
        | outgrown => exact hR.elim
    · exact evCallF0_ok hE hS hs hv h
  · exact evCallF0_ok hE hS hs hv h
end
end GrG
