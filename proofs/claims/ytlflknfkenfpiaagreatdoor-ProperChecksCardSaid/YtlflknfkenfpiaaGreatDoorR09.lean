/-
  Texts of one claim, merged.
-/
import Derived.Test.YtlflknfkenfpiaaGreatDoorR08
import Derived.ChangeKeysEq
import Derived.Laws.Entries
set_option linter.unusedSimpArgs false
set_option linter.unusedVariables false
namespace GrG
open Go Go.RowKit
theorem ofL_rel {σ : Sg} : ∀ {l : List Value} {m : List AV}, ofL l = some m → LRel σ m l
  | [], m, h => by
    simp only [ofL, Option.some.injEq] at h
    subst h
    exact .nil
  | v :: l, m, h => by
    simp only [ofL] at h
    split at h
    · next a m' e1 e2 =>
      simp only [Option.some.injEq] at h
      subst h
      exact .cons (ofConst_rel e1) (ofL_rel e2)
    · cases h
section
variable {P : Program} {t : Nat} {i : TyI}
theorem facts_all (h : facts P t = some i) : ∃ d f v, P.underlying t = some d ∧ P.info? t = some f ∧ f.zero = some v ∧ ofL v.cells.toList = some i.zero ∧ i.kind = tkOf d ∧ i.size = f.size ∧ i.bytes = f.bytes := by
  unfold facts at h
  split at h
  · next d f e1 e2 =>
    split at h
    · next v e3 =>
      split at h
      · next z e4 _ =>
        simp only [Option.some.injEq] at h
        subst h
        exact ⟨d, f, v, e1, e2, e3, e4, rfl, rfl, rfl⟩
      · cases h
    · cases h
  · cases h
theorem facts_form (h : facts P t = some i) : ∃ d f v, P.underlying t = some d ∧ P.info? t = some f ∧ f.zero = some v ∧ ofL v.cells.toList = some i.zero ∧ i.kind = tkOf d ∧ aggV v = i.kind.agg := by
  unfold facts at h
  split at h
  · next d f e1 e2 =>
    split at h
    · next v e3 =>
      split at h
      · next z e4 e5 =>
        simp only [Option.some.injEq] at h
        subst h
        exact ⟨d, f, v, e1, e2, e3, e4, rfl, by simpa using e5⟩
      · cases h
    · cases h
  · cases h
theorem facts_und (h : facts P t = some i) : ∃ d, i.kind = tkOf d ∧ ∀ w, (underlying t).run P w = .ok d w := by
  obtain ⟨d, f, v, e1, _, _, _, e5, _⟩ := facts_all h
  exact ⟨d, e5, fun w => run_underlying e1 w⟩
theorem facts_info (h : facts P t = some i) : ∃ f, f.size = i.size ∧ f.bytes = i.bytes ∧ ∀ w, (typeInfo t).run P w = .ok f w := by
  obtain ⟨d, f, v, _, e2, _, _, _, e6, e7⟩ := facts_all h
  exact ⟨f, e6.symm, e7.symm, fun w => by simp [typeInfo, program, e2, Sem.run]⟩
theorem facts_size (h : facts P t = some i) (w : World) : (Go.sizeOf t).run P w = .ok i.size w := by
  obtain ⟨f, e1, _, e3⟩ := facts_info h
  simp [Go.sizeOf, e3, e1]
theorem facts_agg (h : facts P t = some i) (w : World) : (isAgg t).run P w = .ok i.kind.agg w := by
  obtain ⟨d, e1, e2⟩ := facts_und h
  unfold isAgg
  rw [Sem.run_bind, e2 w, e1]
  cases d <;> rfl
theorem facts_zero (h : facts P t = some i) (σ : Sg) : ∃ v, LRel σ i.zero v.cells.toList ∧ ∀ w, (zeroValue t).run P w = .ok v w := by
  obtain ⟨d, f, v, _, e2, e3, e4, _⟩ := facts_all h
  exact ⟨v, ofL_rel e4, fun w => by simp [zeroValue, typeInfo, program, e2, e3, Sem.run]⟩
end
theorem tk_struct {d : TypeDesc} {fs : List (Nat × Nat)} (h : TK.struct fs = tkOf d) : ∃ fields, d = .struct fields ∧ fs = fields.toList.map fun f => (f.offset, f.type) := by
  cases d <;> simp only [tkOf, TK.struct.injEq, reduceCtorEq] at h
  exact ⟨_, rfl, h⟩
theorem tk_array {d : TypeDesc} {n e : Nat} (h : TK.array n e = tkOf d) : d = .array n e := by
  cases d <;> simp only [tkOf, TK.array.injEq, reduceCtorEq] at h
  obtain ⟨rfl, rfl⟩ := h
  rfl
theorem tk_slice {d : TypeDesc} {e : Nat} (h : TK.slice e = tkOf d) : d = .slice e := by
  cases d <;> simp only [tkOf, TK.slice.injEq, reduceCtorEq] at h
  subst h
  rfl
theorem tk_map {d : TypeDesc} {k e : Nat} (h : TK.map k e = tkOf d) : d = .map k e := by
  cases d <;> simp only [tkOf, TK.map.injEq, reduceCtorEq] at h
  obtain ⟨rfl, rfl⟩ := h
  rfl
theorem tk_int {d : TypeDesc} {k : IntKind} (h : TK.int k = tkOf d) : d = .int k := by
  cases d <;> simp only [tkOf, TK.int.injEq, reduceCtorEq] at h
  subst h
  rfl
theorem tk_str {d : TypeDesc} (h : TK.str = tkOf d) : d = .string := by
  cases d <;> simp only [tkOf, reduceCtorEq] at h
  rfl
theorem tk_notint {d : TypeDesc} (h : (tkOf d).isInt = false) (k : IntKind) : d ≠ .int k := by
  rintro rfl
  cases h
theorem tk_isint {d : TypeDesc} (h : (tkOf d).isInt = true) : ∃ k, d = .int k := by
  cases d <;> first | (cases h; done) | exact ⟨_, rfl⟩
theorem getN_len {c : T AV} : ∀ {n o : Nat} {l : List AV}, getN c o n = some l → l.length = n
  | 0, o, l, h => by
    simp only [getN, Option.some.injEq] at h
    subst h
    rfl
  | n + 1, o, l, h => by
    simp only [getN, fN_eq] at h
    split at h
    · split at h
      · next e2 =>
        simp only [Option.some.injEq] at h
        subst h
        simp [getN_len e2]
      · cases h
    · cases h
theorem getN_get {c : T AV} : ∀ {n o : Nat} {l : List AV}, getN c o n = some l → ∀ j a, l[j]? = some a → c.get (o + j) = some a
  | 0, o, l, h, j, a, hj => by
    simp only [getN, Option.some.injEq] at h
    subst h
    simp at hj
  | n + 1, o, l, h, j, a, hj => by
    simp only [getN, fN_eq] at h
    split at h
    · next x e1 =>
      split at h
      · next m e2 =>
        simp only [Option.some.injEq] at h
        subst h
        cases j with
        | zero => simp only [List.getElem?_cons_zero, Option.some.injEq] at hj; subst hj; exact e1
        | succ j =>
          have := getN_get e2 j a (by simpa using hj)
          rw [show o + (j + 1) = o + 1 + j by omega]
          exact this
      · cases h
    · cases h
theorem evens_get {α : Type} : ∀ (l : List α) (j : Nat), (T.evens l)[j]? = l[2 * j]?
  | [], j => by simp [T.evens]
  | [a], 0 => rfl
  | [a], j + 1 => by simp [T.evens]
  | a :: b :: l, 0 => rfl
  | a :: b :: l, j + 1 => by
    simp only [T.evens, List.getElem?_cons_succ]
    rw [evens_get l j, show 2 * (j + 1) = 2 * j + 1 + 1 by omega]
    simp
theorem ofN_get {α : Type} : ∀ (k : Nat) (l : List α) (p : Pth) (a : α), T.getP p (T.ofN k l) = some a → l[p.num]? = some a
  | 0, l, p, a, h => by
    rw [T.ofN, T.getP_leaf] at h
    cases h
  | k + 1, [], p, a, h => by
    rw [T.ofN, T.getP_leaf] at h
    cases h
  | k + 1, x :: l, .h, a, h => h
  | k + 1, x :: l, .l p, a, h => by
    have h' : T.getP p (T.ofN k (T.evens l)) = some a := h
    have := ofN_get k _ p a h'
    rw [evens_get] at this
    simp only [Pth.num]
    rw [List.getElem?_cons_succ]
    exact this
  | k + 1, x :: l, .r p, a, h => by
    have h' : T.getP p (T.ofN k (T.evens (l.drop 1))) = some a := h
    have := ofN_get k _ p a h'
    rw [evens_get, List.getElem?_drop] at this
    simp only [Pth.num]
    rw [List.getElem?_cons_succ, show 2 * p.num + 1 = 1 + 2 * p.num by omega]
    exact this
theorem ofA_get {α : Type} {l : List α} {j : Nat} {a : α} (h : (T.ofA l).get j = some a) : l[j]? = some a := by
  have := ofN_get 60 l (pth j) a h
  rwa [num_pth] at this
structure Cx where
  vis : Nat → Prop
  wok : Nat → Prop
  lo : Nat
  own : ∀ i, lo ≤ i → wok i
  seen : ∀ i, wok i → vis i
structure LogOk (cx : Cx) (M : Mem) : Prop where
  rd : ∀ i ∈ M.rd, cx.vis i
  wr : ∀ i ∈ M.wr, cx.wok i
structure Gr (M M' : Mem) : Prop where
  next : M.next ≤ M'.next
  rd : ∀ i ∈ M.rd, i ∈ M'.rd
  wr : ∀ i ∈ M.wr, i ∈ M'.wr
  keep : ∀ i, i < M.next → i ∉ M'.wr → M'.objs.get i = M.objs.get i
  top : (∀ i, M.next ≤ i → M.objs.get i = none) → ∀ i, M'.next ≤ i → M'.objs.get i = none
theorem Gr.refl (M : Mem) : Gr M M := ⟨Nat.le_refl _, fun _ h => h, fun _ h => h, fun _ _ _ => rfl, fun h => h⟩
theorem Gr.trans {M M' M'' : Mem} (h : Gr M M') (k : Gr M' M'') : Gr M M'' :=
  ⟨Nat.le_trans h.next k.next, fun i q => k.rd i (h.rd i q), fun i q => k.wr i (h.wr i q), fun i q r => (k.keep i (Nat.lt_of_lt_of_le q h.next) r).trans (h.keep i q fun x => r (k.wr i x)), fun q => k.top (h.top q)⟩
theorem LogOk.back {cx : Cx} {M M' : Mem} (h : LogOk cx M') (g : Gr M M') : LogOk cx M := ⟨fun i q => h.rd i (g.rd i q), fun i q => h.wr i (g.wr i q)⟩
theorem Gr.saw (M : Mem) (i : Nat) : Gr M (M.saw i) := ⟨Nat.le_refl _, fun _ h => List.mem_cons_of_mem _ h, fun _ h => h, fun _ _ _ => rfl, fun h => h⟩
theorem ob_eq {M : Mem} {i : Nat} {x : Ob} (e : M.ob i = some x) : i < M.next ∧ M.objs.get i = some x := by
  unfold Mem.ob at e
  split at e
  · next q => exact ⟨blt_t q, e⟩
  · cases e
theorem row_eq {M : Mem} {i : Nat} {ty : Option Nat} {c : T AV} (e : M.row i = some (ty, c)) : M.ob i = some (.row ty c) := by
  unfold Mem.row at e
  split at e
  · next q =>
    simp only [Option.some.injEq, Prod.mk.injEq] at e
    obtain ⟨rfl, rfl⟩ := e
    exact q
  · cases e
theorem Gr.wrote {M : Mem} {i : Nat} {o : Option Ob} (ho : i < M.next ∨ o = none) : Gr M (M.wrote i o) := ⟨Nat.le_refl _, fun _ h => List.mem_cons_of_mem _ h, fun _ h => List.mem_cons_of_mem _ h, (fun j _ h => by
  have q : j ≠ i := fun e => h (e ▸ List.mem_cons_self ..)
  exact T.get_set_ne _ _ q), fun h j hj => by
  by_cases q : j = i
  · subst q
    show (M.objs.set j o).get j = none
    rw [T.get_set_eq]
    rcases ho with ho | ho
    · have : M.next ≤ j := hj
      omega
    · exact ho
  · show (M.objs.set i o).get j = none
    rw [T.get_set_ne _ _ q]
    exact h j hj⟩
theorem Gr.wroteR {M : Mem} {i : Nat} {o : Option Ob} {ty : Option Nat} {c : T AV} (e : M.row i = some (ty, c)) : Gr M (M.wrote i o) := .wrote (.inl (ob_eq (row_eq e)).1)
theorem anew_eq (M : Mem) (o : Ob) : anew M o = (M.next, ⟨M.objs.set M.next (some o), M.next + 1, M.rd, M.wr⟩) := by rw [anew, fN_eq]
theorem Gr.anew {M M' : Mem} {o : Ob} {i : Nat} (e : anew M o = (i, M')) : Gr M M' := by
  rw [anew_eq] at e
  cases e
  exact ⟨Nat.le_succ _, fun _ h => h, fun _ h => h, (fun j q _ => T.get_set_ne _ _ (by omega)), fun h j hj => by
    have hj : M.next + 1 ≤ j := hj
    show (M.objs.set M.next (some o)).get j = none
    rw [T.get_set_ne _ _ (by omega)]
    exact h j (by omega)⟩
structure At where
  σ : Sg
  F : Fm
  W : World
structure Is (B : World) (G : Nat) (cx : Cx) (M : Mem) (hi : Nat) (s : At) : Prop where
  rel : RelM B G s.σ s.F s.W
  vis : ∀ i, cx.vis i → i < M.next → s.F i = M.objs.get i
  fr : ∀ i, M.next ≤ i → i < hi → s.F i = none ∧ s.σ i = none
  lo : ∀ i, cx.wok i → G ≤ i
  gl : G ≤ M.next
  nh : M.next ≤ hi
  gb : ∀ g, g < G → ∃ z, s.σ g = some (g, 0, z)
  top : ∀ i, M.next ≤ i → M.objs.get i = none
  ol : cx.lo ≤ M.next
structure To (cx : Cx) (lo hi : Nat) (s s' : At) : Prop where
  le : s.σ.le s'.σ
  keep : ∀ i, (¬ cx.wok i ∧ i < lo) ∨ hi ≤ i → s'.F i = s.F i ∧ s'.σ i = s.σ i
theorem To.refl {cx : Cx} {lo hi : Nat} {s : At} : To cx lo hi s s := ⟨.refl _, fun _ _ => ⟨rfl, rfl⟩⟩
theorem To.trans {cx : Cx} {lo lo' hi : Nat} {s s' s'' : At} (h : To cx lo hi s s') (k : To cx lo' hi s' s'') (hl : lo ≤ lo') : To cx lo hi s s'' :=
  ⟨h.le.trans k.le, fun i q => by
    have h1 := h.keep i q
    have h2 := k.keep i (q.imp (fun h => ⟨h.1, by omega⟩) id)
    exact ⟨h2.1.trans h1.1, h2.2.trans h1.2⟩⟩
section
variable {P : Program} {B : World} {G : Nat} {cx : Cx} {M M' : Mem} {hi : Nat} {s : At}
theorem Is.drew (h : Is B G cx M hi s) : Is B G cx M hi ⟨s.σ, s.F, s.W.drew⟩ := ⟨h.rel.drew, h.vis, h.fr, h.lo, h.gl, h.nh, h.gb, h.top, h.ol⟩
theorem Is.logs (h : Is B G cx M hi s) (e1 : M'.objs = M.objs) (e2 : M'.next = M.next) : Is B G cx M' hi s :=
  ⟨h.rel, by rw [e1, e2]; exact h.vis, by rw [e2]; exact h.fr, h.lo, by rw [e2]; exact h.gl, by rw [e2]; exact h.nh, h.gb, by rw [e1, e2]; exact h.top, by rw [e2]; exact h.ol⟩
theorem Is.saw (h : Is B G cx M hi s) (i : Nat) : Is B G cx (M.saw i) hi s := h.logs rfl rfl
theorem Is.obj (h : Is B G cx M hi s) {i : Nat} {x : Ob} (e : M.ob i = some x) (hv : cx.vis i) : s.F i = some x := by
  obtain ⟨e1, e2⟩ := ob_eq e
  rw [h.vis i hv e1, e2]
theorem Is.row (h : Is B G cx M hi s) {i : Nat} {ty : Option Nat} {c : T AV} (e : M.row i = some (ty, c)) (hv : cx.vis i) : s.F i = some (.row ty c) := h.obj (row_eq e) hv
theorem Is.put (h : Is B G cx M hi s) {i : Nat} {x : Option Ob} {U : World} (hi' : i < M.next) (hw : cx.wok i) (hr : RelM B G s.σ (s.F.upd i x) U) :
    Is B G cx (M.wrote i x) hi ⟨s.σ, s.F.upd i x, U⟩ ∧ To cx M.next hi s ⟨s.σ, s.F.upd i x, U⟩ := by
  have hn := h.nh
  refine ⟨⟨hr, fun j h1 h2 => ?_, fun j h1 h2 => ?_, h.lo, h.gl, h.nh, h.gb, fun j hj => (T.get_set_ne _ _ (by have : M.next ≤ j := hj; omega)).trans (h.top j hj), h.ol⟩, ⟨.refl _, fun j hj => ?_⟩⟩
  · by_cases q : j = i
    · subst q
      show s.F.upd j _ j = (M.objs.set j _).get j
      rw [Fm.upd_self, T.get_set_eq]
    · show s.F.upd i _ j = (M.objs.set i _).get j
      rw [Fm.upd_ne q, T.get_set_ne _ _ q]
      exact h.vis j h1 h2
  · have h1 : M.next ≤ j := h1
    show s.F.upd i _ j = none ∧ _
    rw [Fm.upd_ne (by omega)]
    exact h.fr j h1 h2
  · have q : j ≠ i := by
      rintro rfl
      rcases hj with hj | hj
      · exact hj.1 hw
      · omega
    exact ⟨Fm.upd_ne q, rfl⟩
theorem Is.drop (h : Is B G cx M hi s) {i : Nat} (hi' : i < M.next) (hw : cx.wok i) : Is B G cx (M.wrote i none) hi ⟨s.σ, s.F.upd i none, s.W⟩ ∧ To cx M.next hi s ⟨s.σ, s.F.upd i none, s.W⟩ :=
  h.put hi' hw (h.rel.less fun j o e => by
    by_cases q : j = i
    · subst q; rw [Fm.upd_self] at e; cases e
    · rwa [Fm.upd_ne q] at e)
theorem Is.fresh (h : Is B G cx M hi s) {x : Option Ob} {v : Nat × Nat × Nat} {U : World} (hh : M.next + 1 ≤ hi) (hr : RelM B G (s.σ.upd M.next v) (s.F.upd M.next x) U) {M' : Mem} (e1 : M'.objs = M.objs.set M.next x) (e2 : M'.next = M.next + 1) :
    Is B G cx M' hi ⟨s.σ.upd M.next v, s.F.upd M.next x, U⟩ ∧ To cx M.next hi s ⟨s.σ.upd M.next v, s.F.upd M.next x, U⟩ := by
  obtain ⟨f1, f2⟩ := h.fr M.next (Nat.le_refl _) (by omega)
  refine ⟨⟨hr, fun j h1 h2 => ?_, fun j h1 h2 => ?_, h.lo, ?_, ?_, fun g hg => ?_, fun j hj => ?_, by rw [e2]; exact Nat.le_succ_of_le h.ol⟩, ⟨Sg.upd_le f2, fun j hj => ?_⟩⟩
  · rw [e1]
    rw [e2] at h2
    by_cases q : j = M.next
    · subst q
      show s.F.upd M.next _ M.next = _
      rw [Fm.upd_self, T.get_set_eq]
    · show s.F.upd M.next _ j = _
      rw [Fm.upd_ne q, T.get_set_ne _ _ q]
      exact h.vis j h1 (by omega)
  · rw [e2] at h1
    have q : j ≠ M.next := by omega
    show s.F.upd M.next _ j = none ∧ s.σ.upd M.next _ j = none
    rw [Fm.upd_ne q, Sg.upd_ne q]
    exact h.fr j (by omega) h2
  · have := h.gl
    rw [e2]
    omega
  · rw [e2]
    exact hh
  · obtain ⟨z, hz⟩ := h.gb g hg
    exact ⟨z, Sg.upd_le f2 _ _ hz⟩
  · rw [e2] at hj
    rw [e1, T.get_set_ne _ _ (by omega)]
    exact h.top j (by omega)
  · have q : j ≠ M.next := by
      rintro rfl
      rcases hj with hj | hj <;> omega
    exact ⟨Fm.upd_ne q, Sg.upd_ne q⟩
theorem Is.alloc (h : Is B G cx M hi s) {x : Ob} {o : Obj} {z i : Nat} (e : anew M x = (i, M')) (hh : M'.next ≤ hi) (ho : OC (s.σ.upd i (s.W.heap.size, 0, z)) 0 z x o) :
    ∃ s', s'.W = s.W.alloc o ∧ s'.σ i = some (s.W.heap.size, 0, z) ∧ Is B G cx M' hi s' ∧ To cx M.next hi s s' := by
  rw [anew_eq] at e
  cases e
  have hh : M.next + 1 ≤ hi := hh
  obtain ⟨f1, f2⟩ := h.fr M.next (Nat.le_refl _) (by omega)
  obtain ⟨h1, h2⟩ := h.fresh hh (h.rel.new f1 f2 ho) (M' := ⟨M.objs.set M.next (some x), M.next + 1, M.rd, M.wr⟩) rfl rfl
  exact ⟨_, rfl, Sg.upd_self, h1, h2⟩
theorem add_at (b o j : Nat) : (⟨b, o, none⟩ : Addr).add j = ⟨b, o + j, none⟩ := by
  unfold Addr.add
  split
  · next e => subst e; rfl
  · rfl
theorem loadCells_at {w : World} {b o : Nat} : ∀ (n i : Nat) (vs : List Value) (acc : Array Value), vs.length = n → (∀ j v, vs[j]? = some v → w.cell? ⟨b, o + i + j, none⟩ = some v) →
    (loadCellsFrom ⟨b, o, none⟩ i n acc).run P w = .ok (acc ++ vs.toArray) w
  | 0, i, vs, acc, hl, h => by
    obtain rfl : vs = [] := List.eq_nil_of_length_eq_zero hl
    simp [loadCellsFrom]
  | n + 1, i, vs, acc, hl, h => by
    cases vs with
    | nil => cases hl
    | cons v vs =>
      have h0 := h 0 v rfl
      rw [Nat.add_zero] at h0
      have ih := loadCells_at n (i + 1) vs (acc.push v) (by simpa using hl) fun j u hj => by
        have := h (j + 1) u (by simpa using hj)
        rwa [show o + i + (j + 1) = o + (i + 1) + j by omega] at this
      simp only [loadCellsFrom, load, add_at, Sem.run_bind, Sem.run, h0, Result.andThen_ok]
      rw [ih]
      simp
theorem RelM.cells {σ : Sg} {F : Fm} {W : World} (h : RelM B G σ F W) {i o n : Nat} {ty : Option Nat} {c : T AV} {l : List AV} {b f z : Nat} (hF : F i = some (.row ty c)) (hs : σ i = some (b, f, z)) (hl : getN c o n = some l) :
    ∃ vs, LRel σ l vs ∧ vs.length = n ∧ (loadCells ⟨b, f + o, none⟩ n).run P W = .ok vs.toArray W ∧ (loadCells ⟨b, f + o, none⟩ n).run P W.drew = .ok vs.toArray W.drew := by
  have main : ∀ (n o : Nat) (l : List AV), getN c o n = some l → ∃ vs, LRel σ l vs ∧ vs.length = n ∧ ∀ j v, vs[j]? = some v → W.cell? ⟨b, f + o + j, none⟩ = some v := by
    intro n
    induction n with
    | zero =>
      intro o l hl
      simp only [getN, Option.some.injEq] at hl
      subst hl
      exact ⟨[], .nil, rfl, fun j v hj => by simp at hj⟩
    | succ n ih =>
      intro o l hl
      simp only [getN, fN_eq] at hl
      split at hl
      · next a e1 =>
        split at hl
        · next m e2 =>
          simp only [Option.some.injEq] at hl
          subst hl
          obtain ⟨v, h1, h2⟩ := h.cell hF hs e1
          obtain ⟨vs, h3, h4, h5⟩ := ih (o + 1) m e2
          refine ⟨v :: vs, .cons h2 h3, by simp [h4], fun j u hj => ?_⟩
          cases j with
          | zero => simp only [List.getElem?_cons_zero, Option.some.injEq] at hj; subst hj; exact h1
          | succ j =>
            have := h5 j u (by simpa using hj)
            rwa [show f + (o + 1) + j = f + o + (j + 1) by omega] at this
        · cases hl
      · cases hl
  obtain ⟨vs, h1, h2, h3⟩ := main n o l hl
  exact ⟨vs, h1, h2, by
    have := loadCells_at (P := P) (w := W) (b := b) (o := f + o) n 0 vs #[] h2 (by simpa using h3)
    simpa [loadCells] using this, by
    have := loadCells_at (P := P) (w := W.drew) (b := b) (o := f + o) n 0 vs #[] h2 (by simpa using h3)
    simpa [loadCells] using this⟩
theorem Is.cells (h : Is B G cx M hi s) {i o n : Nat} {ty : Option Nat} {c : T AV} {l : List AV} {b f z : Nat} (e : M.row i = some (ty, c)) (hv : cx.vis i) (hs : s.σ i = some (b, f, z)) (hl : getN c o n = some l) :
    ∃ vs, LRel s.σ l vs ∧ vs.length = n ∧ (loadCells ⟨b, f + o, none⟩ n).run P s.W = .ok vs.toArray s.W ∧ (loadCells ⟨b, f + o, none⟩ n).run P s.W.drew = .ok vs.toArray s.W.drew := h.rel.cells (h.row e hv) hs hl
theorem aload_logs {ty : TyI} {p a : AV} (e : aload M ty p = some (a, M')) : Gr M M' ∧ M'.objs = M.objs ∧ M'.next = M.next := by
  unfold aload at e
  repeat' split at e
  all_goals first
    | (cases e; done)
    | (simp only [Option.some.injEq, Prod.mk.injEq] at e; obtain ⟨_, rfl⟩ := e; exact ⟨.saw _ _, rfl, rfl⟩)
theorem Is.load (h : Is B G cx M hi s) {t : Nat} {ty : TyI} (ht : facts P t = some ty) {p a : AV} {v : Value} (hp : VRel s.σ p v) (e : aload M ty p = some (a, M')) (hl : LogOk cx M') :
    ∃ u, VRel s.σ a u ∧ (Instr.loadAt t v).run P s.W = .ok u s.W := by
  unfold aload at e
  split at e
  · next i o =>
    split at e
    · next _ty c er =>
      obtain ⟨b, f, z, rfl, hs⟩ := hp.ptr_inv
      split at e
      · next eg =>
        split at e
        · next l el =>
          simp only [Option.some.injEq, Prod.mk.injEq] at e
          obtain ⟨rfl, rfl⟩ := e
          have hv : cx.vis i := hl.rd i (List.mem_cons_self ..)
          obtain ⟨vs, h1, h2, h3, _⟩ := h.cells (P := P) er hv hs el
          exact ⟨.agg vs.toArray, .agg h1, by simp [Instr.loadAt, Instr.sureAddr, loadVar, Sem.run_bind, facts_agg ht, eg, facts_size ht, h3]⟩
        · cases e
      · next eg =>
        split at e
        · next x ex =>
          simp only [Option.some.injEq, Prod.mk.injEq] at e
          obtain ⟨rfl, rfl⟩ := e
          have hv : cx.vis i := hl.rd i (List.mem_cons_self ..)
          obtain ⟨u, h1, h2⟩ := h.rel.cell (h.row er hv) hs ex
          exact ⟨u, h2, by simp [Instr.loadAt, Instr.sureAddr, loadVar, Go.load, Sem.run_bind, Sem.run, facts_agg ht, eg, h1]⟩
        · cases e
    · cases e
  · cases e
def one : Value → Bool
  | .agg _ => false
  | .tuple _ => false
  | _ => true
theorem scalar_one {σ : Sg} {a : AV} {v : Value} (h : VRel σ a v) (e : scalar a = true) : one v = true := by
  cases h <;> first | rfl | cases e
theorem scalar_bad {a : AV} (e : scalar a = true) : isBad a = false := by
  cases a <;> first | rfl | cases e
theorem run_store1 {w : World} {a : Addr} {v x : Value} (h1 : one v = true) (h2 : w.cell? a = some x) (h3 : w.frozen? a = false) : (Go.store a v).run P w = .ok () (w.setCell a v) := by
  cases v <;> first | (cases h1; done) | simp [Go.store, Sem.run, h2, h3]
theorem Fm.upd_same {F : Fm} {i : Nat} {x : Option Ob} (h : F i = x) : F.upd i x = F := funext fun j => by
  unfold Fm.upd
  split
  · next q => rw [q, h]
  · rfl
theorem Fm.upd_upd {F : Fm} {i : Nat} {x y : Option Ob} : (F.upd i x).upd i y = F.upd i y := funext fun j => by
  unfold Fm.upd
  split <;> rfl
theorem RelM.stores {i b f z : Nat} {ty : Option Nat} {σ : Sg} : ∀ (l : List AV) (vs : List Value) (o k : Nat) (c c' : T AV) (F : Fm) (W : World), LRel σ l vs → l.all scalar = true → RelM B G σ F W → F i = some (.row ty c) → σ i = some (b, f, z) → G ≤ i → putN c (o + k) l = some c' →
    ∃ W', (storeCells ⟨b, f + o, none⟩ vs k).run P W = .ok () W' ∧ RelM B G σ (F.upd i (some (.row ty c'))) W'
  | [], vs, o, k, c, c', F, W, hr, ha, h, hF, hs, hG, e => by
    cases hr
    simp only [putN, Option.some.injEq] at e
    subst e
    exact ⟨W, by simp [storeCells], by rw [Fm.upd_same hF]; exact h⟩
  | a :: l, vs, o, k, c, c', F, W, hr, ha, h, hF, hs, hG, e => by
    cases hr with
    | cons h1 h2 =>
      next v vs =>
      simp only [putN, fN_eq] at e
      split at e
      · next a' e1 =>
        have ha' : scalar a = true ∧ l.all scalar = true := by simpa using ha
        obtain ⟨x, hx, _⟩ := h.cell hF hs e1
        have hp := h.put hF hs hG e1 h1
        obtain ⟨W', r1, r2⟩ := RelM.stores (i := i) (b := b) (f := f) (z := z) l vs o (k + 1) _ c' _ _ h2 ha'.2 hp Fm.upd_self hs hG (by rwa [show o + (k + 1) = o + k + 1 by omega])
        refine ⟨W', ?_, ?_⟩
        · have hfz := h.free (o := f + (o + k)) hF hs
          have := run_store1 (P := P) (scalar_one h1 ha'.1) hx hfz
          rw [show f + (o + k) = f + o + k by omega] at this
          simp only [storeCells, add_at, Sem.run_bind, this, Result.andThen_ok]
          rw [show f + (o + k) = f + o + k by omega] at r1
          exact r1
        · rw [Fm.upd_upd] at r2
          exact r2
      · cases e
theorem Is.stores (h : Is B G cx M hi s) {i o b f z : Nat} {ty : Option Nat} {c c' : T AV} {l : List AV} {vs : List Value} (e : M.row i = some (ty, c)) (hv : cx.vis i) (hw : cx.wok i) (hs : s.σ i = some (b, f, z)) (hr : LRel s.σ l vs) (ha : l.all scalar = true) (hp : putN c o l = some c') :
    ∃ s', (storeCells ⟨b, f + o, none⟩ vs).run P s.W = .ok () s'.W ∧ s'.σ = s.σ ∧ Is B G cx (M.wrote i (some (.row ty c'))) hi s' ∧ To cx M.next hi s s' := by
  obtain ⟨W', q1, q2⟩ := RelM.stores (P := P) (G := G) (B := B) l vs o 0 c c' s.F s.W hr ha h.rel (h.row e hv) hs (h.lo i hw) (by simpa using hp)
  obtain ⟨k1, k2⟩ := h.put (ob_eq (row_eq e)).1 hw q2
  exact ⟨⟨s.σ, s.F.upd i (some (.row ty c')), W'⟩, q1, rfl, k1, k2⟩
theorem astore_gr {ty : TyI} {p a : AV} (e : astore M ty a p = some M') : Gr M M' ∧ M'.next = M.next := by
  unfold astore at e
  repeat' split at e
  all_goals first
    | (cases e; done)
    | (simp only [Option.some.injEq] at e; subst e; exact ⟨.wroteR (by assumption), rfl⟩)
theorem Is.store (h : Is B G cx M hi s) {t : Nat} {ty : TyI} (ht : facts P t = some ty) {p a : AV} {v x : Value} (hp : VRel s.σ p v) (ha : VRel s.σ a x) (e : astore M ty a p = some M') (hl : LogOk cx M') :
    ∃ s', (Instr.storeAt t v x).run P s.W = .ok () s'.W ∧ Is B G cx M' hi s' ∧ To cx M.next hi s s' := by
  unfold astore at e
  split at e
  · next i o =>
    obtain ⟨b, f, z, rfl, hs⟩ := hp.ptr_inv
    split at e
    · split at e
      · next _ty c e2 e3 e4 =>
        split at e
        · next c' e5 =>
          simp only [Option.some.injEq] at e
          subst e
          have hv : cx.vis i := hl.rd i (List.mem_cons_self ..)
          have hw : cx.wok i := hl.wr i (List.mem_cons_self ..)
          have hb : isBad a = false := by cases a <;> first | rfl | cases e3
          have hc := ha.cells hb
          obtain ⟨s', q1, _, q2, q3⟩ := h.stores (P := P) e4 hv hw hs hc e3 e5
          have hz : x.cells.size = ty.size := by
            have := hc.length
            rw [beq_t e2] at this
            simpa using this.symm
          exact ⟨s', by simp [Instr.storeAt, Instr.sureAddr, storeVar, Sem.run_bind, facts_size ht, hz, q1], q2, q3⟩
        · cases e
      · cases e
    · split at e
      · next _ty c e2 e3 e4 =>
        split at e
        · next a' e5 =>
          simp only [Option.some.injEq] at e
          subst e
          have hv : cx.vis i := hl.rd i (List.mem_cons_self ..)
          have hw : cx.wok i := hl.wr i (List.mem_cons_self ..)
          have hc := ha.cells (scalar_bad e2)
          have ec : a.cells = [a] := by cases a <;> first | rfl | cases e2
          rw [ec] at hc
          have ep : putN c o [a] = some (c.set o (some a)) := by simp only [putN, e5, fN_eq]
          obtain ⟨s', q1, _, q2, q3⟩ := h.stores (P := P) e4 hv hw hs hc (by simpa using e2) ep
          have hz : x.cells.size = ty.size := by
            have := hc.length
            rw [beq_t e3]
            simpa using this.symm
          exact ⟨s', by simp [Instr.storeAt, Instr.sureAddr, storeVar, Sem.run_bind, facts_size ht, hz, q1], q2, q3⟩
        · cases e
      · cases e
  · cases e
theorem run_newRow (t : Nat) (cs : Array Value) (w : World) : (Go.newRow t cs).run P w = .ok ⟨w.heap.size, 0, none⟩ (w.alloc (.cells cs t)) := rfl
theorem Is.newP (h : Is B G cx M hi s) {l : List AV} {vs : List Value} (hv : ∀ (j : Nat) (a : AV), l[j]? = some a → ∃ v, vs[j]? = some v ∧ VRel s.σ a v) {i : Nat} {ty : Option Nat} (e : anew M (.row ty (T.ofA l)) = (i, M')) (hh : M'.next ≤ hi) (t : Nat) (hty : ∀ u, ty = some u → t = u := by rintro _ ⟨⟩) :
    ∃ s', s'.W = s.W.alloc (.cells vs.toArray t) ∧ s'.σ i = some (s.W.heap.size, 0, vs.length) ∧ Is B G cx M' hi s' ∧ To cx M.next hi s s' := by
  have e' := e
  rw [anew_eq] at e'
  cases e'
  have hh' : M.next + 1 ≤ hi := hh
  obtain ⟨f1, f2⟩ := h.fr M.next (Nat.le_refl _) (by omega)
  refine h.alloc (z := vs.length) e hh ⟨vs.toArray, t, rfl, fun u hu => ⟨hty u hu, rfl⟩, by simp, fun j a hj => ?_⟩
  obtain ⟨v, h1, h2⟩ := hv j a (ofA_get hj)
  exact ⟨v, by rw [Nat.zero_add]; simpa using h1, h2.mono (Sg.upd_le f2)⟩
theorem Is.new (h : Is B G cx M hi s) {l : List AV} {vs : List Value} (hv : LRel s.σ l vs) {i : Nat} {ty : Option Nat} (e : anew M (.row ty (T.ofA l)) = (i, M')) (hh : M'.next ≤ hi) (t : Nat) (hty : ∀ u, ty = some u → t = u := by rintro _ ⟨⟩) :
    ∃ s', s'.W = s.W.alloc (.cells vs.toArray t) ∧ s'.σ i = some (s.W.heap.size, 0, vs.length) ∧ Is B G cx M' hi s' ∧ To cx M.next hi s s' :=
  h.newP (fun _ _ hj => hv.get hj) e hh t hty
end
end GrG
