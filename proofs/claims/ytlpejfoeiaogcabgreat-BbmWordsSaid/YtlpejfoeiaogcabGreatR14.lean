/-
  A MACHINE FOR CLOSED CALLS (second form), 14: slices made, appended to, copied. No program in sight.
-/
import Derived.Test.YtlpejfoeiaogcabGreatR13
set_option linter.unusedSimpArgs false
set_option linter.unusedVariables false
namespace GrG
open Go Go.RowKit
/-- a value that is made, and the world behind it -/
def GoodV (P : Program) (B : World) (G : Nat) (cx : Cx) (M M' : Mem) (hi : Nat) (s : At) (x : Sem Value) (r : AV) : Prop :=
  ∃ q s', x.run P s.W = .ok q s'.W ∧ VRel s'.σ r q ∧ Is B G cx M' hi s' ∧ To cx M.next hi s s'
section
variable {P : Program} {B : World} {E : Env} {cx : Cx} {M M' : Mem} {hi : Nat} {s : At} {L : T AV} {n : Nat} {a : Act}
theorem newRow_eq (M : Mem) (l : List AV) (k : Nat → Mem → OM) : newRow M l k = k (anew M (.row (T.ofA l))).1 (anew M (.row (T.ofA l))).2 := rfl
theorem anew_pair (M : Mem) (o : Ob) : anew M o = ((anew M o).1, (anew M o).2) := rfl
theorem emake_sound (hE : EnvOk P E) (hs : Is B E.ng cx M hi s) {t : Nat} {x y r : AV} {u v : Value} (hx : VRel s.σ x u) (hy : VRel s.σ y v) (e : emake E M t x y = some (r, M')) (hh : M'.next ≤ hi) :
    GoodV P B E.ng cx M M' hi s (Instr.makeSlice t u v) r := by
  unfold emake at e
  split at e
  · next k1 l k2 c =>
    cases hx
    cases hy
    split at e
    · next ty et =>
      split at e
      · next el hk =>
        split at e
        · next ey ee =>
          split at e
          · next e1 e2 e3 e4 e5 =>
            simp only [fN_eq, newRow_eq, Option.some.injEq, Prod.mk.injEq] at e
            obtain ⟨rfl, rfl⟩ := e
            obtain ⟨d, f, zv, q1, q2, q3, q4, q5, q6, q7⟩ := facts_all (hE.tys _ _ et)
            rw [q5] at hk
            obtain rfl := tk_slice hk.symm
            obtain ⟨d', f', zv', p1, p2, p3, p4, p5, p6, p7⟩ := facts_all (hE.tys _ _ ee)
            have hz := ofL_rel (σ := s.σ) p4
            have hzs : zv'.cells.size = ey.size := by
              have := hz.length
              rw [beq_t e5] at this
              simpa using this.symm
            have e1 := ble_t e1
            have e2 := ble_t e2
            have e3 := ble_t e3
            have e4 := blt_t e4
            obtain ⟨s', w1, w2, w3, w4⟩ := hs.new (zmk_rel (n := c * ey.size) hz hzs (.inr e4)) (anew_pair _ _) hh el
            have hrun := run_make (P := P) s.W t el f' zv' q1 p2 p3 k1 k2 (Int.ofNat l) (Int.ofNat c) (by simp) (by simpa using e1) (by
              rw [← p7]
              have : ((ey.bytes * c : Nat) : Int) ≤ 281474976710656 := by omega
              simpa using this) (by
              show ((c : Nat) : Int) ≤ _
              omega)
            refine ⟨.slice (some ⟨s.W.heap.size, 0, none⟩) l c, s', ?_, ?_, w3, w4⟩
            · rw [hrun, w1, ← p6]
              simp
            · exact VRel.slice w2 (fun _ => rfl) (Nat.le_refl _) e1 (fun q => by cases q)
          · cases e
        · cases e
      · cases e
    · cases e
  · cases e
theorem ebs_sound (hE : EnvOk P E) (hs : Is B E.ng cx M hi s) {t len : Nat} {l : List (Nat × AV)} {m : Array (Nat × Value)} (hl : PRl s.σ l m.toList) {r : AV} (e : ebs E M t len l = some (r, M')) (hh : M'.next ≤ hi) :
    GoodV P B E.ng cx M M' hi s (Instr.buildSlice t len m) r := by
  unfold ebs at e
  split at e
  · next ty et =>
    split at e
    · next el hk =>
      split at e
      · next ey ee =>
        split at e
        · next e1 e2 e3 =>
          split at e
          · next r' er =>
            split at e
            · next e4 =>
              simp only [newRow_eq, Option.some.injEq, Prod.mk.injEq] at e
              obtain ⟨rfl, rfl⟩ := e
              obtain ⟨d, k1, r1⟩ := facts_und (hE.tys _ _ et)
              rw [k1] at hk
              obtain rfl := tk_slice hk.symm
              obtain ⟨zv, z1, z2⟩ := facts_zero (hE.tys _ _ ee) s.σ
              have e1 := ble_t e1
              have e2 := blt_t e2
              have hzs : zv.cells.size = ey.size := by
                have := z1.length
                rw [beq_t e3] at this
                simpa using this.symm
              obtain ⟨rs, f1, f2⟩ := efill_sound hl (zmk_rel (n := len * ey.size) z1 hzs (.inr e2)) er
              obtain ⟨s', w1, w2, w3, w4⟩ := hs.new f2 (anew_pair _ _) hh el
              refine ⟨.slice (some ⟨s.W.heap.size, 0, none⟩) len len, s', ?_, ?_, w3, w4⟩
              · have hb : ¬ len * ey.size > 2 ^ 24 := by omega
                simp only [Instr.buildSlice, Sem.run_bind, r1, Result.andThen_ok, facts_size (hE.tys _ _ ee), hb, if_false, run_pureS]
                by_cases h0 : len * ey.size = 0
                · rw [if_pos h0]
                  simp only [Sem.run_bind, run_pureS, Result.andThen_ok]
                  have : madeCells zv.cells (len * ey.size) = (Array.range (len * ey.size)).map ((#[] : Array Value)[· % (#[] : Array Value).size]!) := by
                    rw [h0]; simp [madeCells]
                  rw [← this, f1]
                  simp only [run_newRow, Sem.run_bind, Result.andThen_ok, run_pureS, w1]
                  try simp
                · rw [if_neg h0]
                  simp only [Sem.run_bind, z2, run_pureS, Result.andThen_ok]
                  have : madeCells zv.cells (len * ey.size) = (Array.range (len * ey.size)).map (zv.cells[· % zv.cells.size]!) := rfl
                  rw [← this, f1]
                  simp only [run_newRow, Sem.run_bind, Result.andThen_ok, run_pureS, w1]
                  try simp
              · exact VRel.slice w2 (fun _ => rfl) (Nat.le_refl _) (Nat.le_refl _) (fun q => by cases q)
            · cases e
          · cases e
        · cases e
      · cases e
    · cases e
  · cases e
/-- cells are written, whatever was there -/
theorem stores_raw {b p : Nat} : ∀ (vs : List Value) (k : Nat) (cs : Array Value) (t : TypeId) (W : World), W.heap[b]? = some (.cells cs t (0, 0)) → p + k + vs.length ≤ cs.size → (∀ v ∈ vs, one v = true) →
    ∃ W' cs', (storeCells ⟨b, p, none⟩ vs k).run P W = .ok () W' ∧ W'.heap[b]? = some (.cells cs' t (0, 0)) ∧ cs'.size = cs.size ∧ (∀ j v, vs[j]? = some v → cs'[p + k + j]? = some v) ∧ (∀ j, j < p + k → cs'[j]? = cs[j]?) ∧
      (∀ c, c ≠ b → W'.heap[c]? = W.heap[c]?) ∧ (∀ N U, N ≤ b → Below N U W → Below N U W')
  | [], k, cs, t, W, h, hl, ho => ⟨W, cs, rfl, h, rfl, fun j v hj => by simp at hj, fun _ _ => rfl, fun _ _ => rfl, fun _ _ _ h => h⟩
  | v :: vs, k, cs, t, W, h, hl, ho => by
    have hlt : p + k < cs.size := by simp only [List.length_cons] at hl; omega
    have hc : W.cell? ⟨b, p + k, none⟩ = some cs[p + k] := by rw [cell_of_row W b (p + k) cs t (0, 0) h]; exact Array.getElem?_eq_getElem hlt
    have hr := run_store1 (P := P) (ho v (List.mem_cons_self ..)) hc (frozen_of_row W b _ cs t h)
    have h' := heap_setCell_same W b (p + k) cs t v h
    obtain ⟨W', cs', q1, q2, q3, q4, q5, q6, q7⟩ := stores_raw (b := b) (p := p) vs (k + 1) (cs.setIfInBounds (p + k) v) t _ h' (by simp only [List.length_cons] at hl; simp; omega) fun u hu => ho u (List.mem_cons_of_mem _ hu)
    refine ⟨W', cs', ?_, q2, by simpa using q3, fun j u hj => ?_, fun j hj => ?_, fun c hc => ?_, fun N U hN hB => q7 N U hN (hB.setCell hN v)⟩
    · simp only [storeCells, add_at, Sem.run_bind, hr, Result.andThen_ok]
      exact q1
    · cases j with
      | zero =>
        simp only [List.getElem?_cons_zero, Option.some.injEq] at hj
        subst hj
        rw [q5 (p + k + 0) (by omega)]
        simp [hlt]
      | succ j =>
        have := q4 j u (by simpa using hj)
        rwa [show p + k + (j + 1) = p + (k + 1) + j by omega]
    · rw [q5 j (by omega), Array.getElem?_setIfInBounds_ne (by omega)]
    · rw [q6 c hc, heap_setCell_other W _ c v hc]
theorem scalars_one {σ : Sg} : ∀ {l : List AV} {vs : List Value}, LRel σ l vs → l.all scalar = true → ∀ v ∈ vs, one v = true
  | _, _, .nil, _, v, hv => by cases hv
  | a :: l, _, .cons ha hl, h, v, hv => by
    have h' : scalar a = true ∧ l.all scalar = true := by simpa using h
    rcases List.mem_cons.1 hv with rfl | hv
    · exact scalar_one ha h'.1
    · exact scalars_one hl h'.2 v hv
/-! Append. -/
/-- so many elements of it -/
theorem esrc_logs {size k : Nat} {x : AV} {l : List AV} (e : esrc M size x = some (l, k, M')) : Gr M M' ∧ M'.objs = M.objs ∧ M'.next = M.next := by
  unfold esrc at e
  repeat' split at e
  all_goals first
    | (cases e; done)
    | (simp only [Option.some.injEq, Prod.mk.injEq] at e; obtain ⟨_, _, rfl⟩ := e; first | exact ⟨.refl _, rfl, rfl⟩ | exact ⟨.saw _ _, rfl, rfl⟩)
theorem esrc_sound (hs : Is B E.ng cx M hi s) {size k : Nat} {x : AV} {v : Value} {l : List AV} (hx : VRel s.σ x v) (e : esrc M size x = some (l, k, M')) (hl : LogOk cx M') :
    Builtin.lenOf v = pure k ∧ ∃ vs, LRel s.σ l vs ∧ vs.length = k * size ∧ (Builtin.firstCells size k v).run P s.W = .ok vs.toArray s.W ∧ (Builtin.firstCells size k v).run P s.W.drew = .ok vs.toArray s.W.drew := by
  unfold esrc at e
  split at e
  · simp only [Option.some.injEq, Prod.mk.injEq] at e
    obtain ⟨rfl, rfl, rfl⟩ := e
    cases hx
    exact ⟨rfl, [], .nil, by simp, rfl, rfl⟩
  · simp only [Option.some.injEq, Prod.mk.injEq] at e
    obtain ⟨rfl, rfl, rfl⟩ := e
    cases hx
    exact ⟨rfl, [], .nil, by simp, by simp [Builtin.firstCells, loadCells, loadCellsFrom], by simp [Builtin.firstCells, loadCells, loadCellsFrom]⟩
  · next i o len c0 ex es =>
    split at e
    · next c e1 e2 =>
      split at e
      · next l' el =>
        simp only [Option.some.injEq, Prod.mk.injEq] at e
        obtain ⟨rfl, rfl, rfl⟩ := e
        obtain ⟨b, f, z, cc, rfl, q0, _⟩ := hx.slice_inv
        obtain ⟨vs, h1, h2, h3, h4⟩ := hs.cells (P := P) e2 (hl.rd i (List.mem_cons_self ..)) q0 el
        exact ⟨rfl, vs, h1, h2, h3, h4⟩
      · cases e
    · cases e
  · next l =>
    split at e
    · next e1 =>
      simp only [Option.some.injEq, Prod.mk.injEq] at e
      obtain ⟨rfl, rfl, rfl⟩ := e
      obtain ⟨rfl, hb⟩ := hx.str_inv
      refine ⟨by simp [Builtin.lenOf, sB_size], l.map fun x => .int .u8 (.ofNat x), ?_, by simp [beq_t e1], ?_, ?_⟩
      · clear e1 hx
        induction l with
        | nil => exact .nil
        | cons x l ih => exact .cons (.int _ _) (ih fun y hy => hb y (List.mem_cons_of_mem _ hy))
      all_goals
        have : ((sB l).extract 0 l.length).data.map (fun b => Value.int .u8 b.toNat) = (l.map fun x => Value.int .u8 (.ofNat x)).toArray := by
          rw [sB_extract, List.take_length, List.drop_zero]
          apply Array.toList_inj.1
          simp only [Array.toList_map, sB_data, List.map_map]
          refine List.map_congr_left fun x hx => ?_
          simp [UInt8.toNat_ofNat', Nat.mod_eq_of_lt (hb x hx)]
        simp only [Builtin.firstCells, this, run_pureS]
    · cases e
  · cases e
theorem nextcap_le {need c : Nat} (h : c < need) : Builtin.nextslicecap need c ≤ 4 * need + 4000 := by
  unfold Builtin.nextslicecap
  split
  · omega
  · split
    · omega
    · simp only [Builtin.growBy]
      repeat' split
      all_goals omega
/-- there is room -/
theorem app_in {st xt ty el size : Nat} {dx : TypeDesc} (r1 : ∀ w, (underlying st).run P w = .ok (.slice el) w) (r2 : ∀ w, (underlying xt).run P w = .ok dx w) (hn : (∀ k, dx ≠ .int k)) (r3 : ∀ w, (Go.sizeOf el).run P w = .ok size w)
    {ad : Addr} {len c k : Nat} {xv : Value} (hl : Builtin.lenOf xv = pure k) (hc : len + k ≤ c) {vs : List Value} {W W' : World} (h1 : (Builtin.firstCells size k xv).run P W = .ok vs.toArray W) (h2 : (storeCells (ad.add (len * size)) vs).run P W = .ok () W') :
    (Builtin.append_ #[st, xt] ty #[.slice (some ad) len c, xv]).run P W = .ok (.slice (some ad) (len + k) c) W' := by
  have hd : (match dx with | .int _ => true | _ => false) = false := by
    cases dx <;> first | rfl | exact absurd rfl (hn _)
  simp only [Builtin.append_, List.getElem?_toArray, List.getElem?_cons_zero, List.getElem?_cons_succ, Sem.run_bind, r1, r2, r3, Result.andThen_ok, run_pureS, hl]
  simp only [hd, Bool.false_eq_true, if_false, Sem.run_bind, run_pureS, Result.andThen_ok, hl, if_pos hc, Bool.not_false, if_true, h1, h2]
/-- there is none -/
theorem app_grow {st xt ty el size : Nat} {dx : TypeDesc} {f : TypeInfo} {zv : Value} (r1 : ∀ w, (underlying st).run P w = .ok (.slice el) w) (r2 : ∀ w, (underlying xt).run P w = .ok dx w) (hn : (∀ k, dx ≠ .int k)) (r3 : ∀ w, (Go.sizeOf el).run P w = .ok size w)
    (r4 : ∀ w, (typeInfo el).run P w = .ok f w) (r5 : ∀ w, (zeroValue el).run P w = .ok zv w) {base : Option Addr} {len c k : Nat} {xv : Value} (hl : Builtin.lenOf xv = pure k) (hc : ¬ len + k ≤ c) (hs : len + k ≤ 1000000) (hb : Builtin.nextslicecap (len + k) c * f.bytes ≤ 281474976710656)
    {old new : Array Value} {W : World} (h0 : (Builtin.firstCells size len (.slice base len c)).run P W.drew = .ok old W.drew) (h1 : (Builtin.firstCells size k xv).run P W.drew = .ok new W.drew) :
    ∃ nc rest, len + k ≤ nc ∧ rest.size = (nc - (len + k)) * zv.cells.size ∧ (Builtin.append_ #[st, xt] ty #[.slice base len c, xv]).run P W = .ok (.slice (some ⟨W.heap.size, 0, none⟩) (len + k) nc) (W.drew.alloc (.cells (old ++ new ++ rest) el)) := by
  have hd : (match dx with | .int _ => true | _ => false) = false := by
    cases dx <;> first | rfl | exact absurd rfl (hn _)
  refine ⟨(Question.appendCap (len + k) c el).cut (W.tape W.drawn (.appendCap (len + k) c el)), Builtin.zeroCells zv.cells ((Question.appendCap (len + k) c el).cut (W.tape W.drawn (.appendCap (len + k) c el)) - (len + k)), ?_, by simp [Builtin.zeroCells], ?_⟩
  · simp only [Question.cut]
    omega
  · have hb' : ¬ Builtin.nextslicecap (len + k) c * f.bytes > 2 ^ 48 := by omega
    have hq : (choose (.appendCap (len + k) c el)).run P W = .ok ((Question.appendCap (len + k) c el).cut (W.tape W.drawn (.appendCap (len + k) c el))) W.drew := rfl
    have hi : ¬ (((len + k : Nat) : Int) > IntKind.i64.max ∧ (False ∨ f.bytes = 0)) := by
      rintro ⟨h, _⟩
      simp [IntKind.max, IntKind.signed, IntKind.bits] at h
      omega
    have ha : ∀ b w, (askRoom b).run P w = .ok () w := fun b w => by
      unfold askRoom
      split <;> rfl
    simp only [Builtin.append_, List.getElem?_toArray, List.getElem?_cons_zero, List.getElem?_cons_succ, Sem.run_bind, r1, r2, r3, Result.andThen_ok, run_pureS, hl]
    simp only [hd, Bool.false_eq_true, if_false, Sem.run_bind, run_pureS, Result.andThen_ok, hl, if_neg hc, r4, if_neg hi, if_neg hb', hq, ha, h0, Bool.not_false, if_true, h1, r5, run_newRow]
    rfl
/-- zeros are appended: there is room -/
theorem app_inZ {st xt ty el size : Nat} {kx : IntKind} {f : TypeInfo} {zv : Value} (r1 : ∀ w, (underlying st).run P w = .ok (.slice el) w) (r2 : ∀ w, (underlying xt).run P w = .ok (.int kx) w) (r3 : ∀ w, (Go.sizeOf el).run P w = .ok size w)
    (r4 : ∀ w, (typeInfo el).run P w = .ok f w) (r5 : ∀ w, (zeroValue el).run P w = .ok zv w) {base : Option Addr} {len c k : Nat} {kk : IntKind} (hk : k ≤ 1000000) (hb : k * f.bytes ≤ 281474976710656) (hz : zv.cells.size = size) (hc : len + k ≤ c) {W W' : World}
    (h2 : ∀ ad, base = some ad → (storeCells (ad.add (len * size)) (Builtin.zeroCells zv.cells k).toList).run P W = .ok () W') (h3 : base = none → W' = W) :
    (Builtin.append_ #[st, xt] ty #[.slice base len c, .int kk (.ofNat k)]).run P W = .ok (.slice base (len + k) c) W' := by
  have hai : ∀ w, (asInt (.int kk (Int.ofNat k))).run P w = .ok (Int.ofNat k) w := fun w => by simp [asInt, asIntOf]
  have hw : IntKind.i64.wrap (Int.ofNat k) = (k : Int) := by
    rw [← wr_eq]
    have : Nat.blt k 9223372036854775808 = true := by
      rw [Nat.blt_eq]
      omega
    simp only [wr, lim, this]
    rfl
  have h0 : ¬ ((k : Int) < 0) := by omega
  have h1 : ¬ ((k : Int) * (f.bytes : Int) > 2 ^ 48) := by
    have : ((k * f.bytes : Nat) : Int) ≤ 281474976710656 := by omega
    rw [Int.natCast_mul] at this
    omega
  have hap : (if k * size = 0 then pure #[] else do pure (Builtin.zeroCells (← zeroValue el).cells k) : Sem (Array Value)).run P W = .ok (Builtin.zeroCells zv.cells k) W := by
    split
    · next q => simp [Builtin.zeroCells, hz, q]
    · simp only [Sem.run_bind, r5, Result.andThen_ok, run_pureS]
  simp only [Builtin.append_, List.getElem?_toArray, List.getElem?_cons_zero, List.getElem?_cons_succ, Sem.run_bind, r1, r2, r3, Result.andThen_ok, run_pureS, if_true, hai, hw, h0, if_false, r4, h1, Int.toNat_natCast, if_pos hc, Bool.not_true, Bool.false_eq_true, hap]
  cases base with
  | none =>
    rw [h3 rfl]
    rfl
  | some ad =>
    simp only [Sem.run_bind, h2 ad rfl, Result.andThen_ok, run_pureS]
/-- zeros are appended: there is no room -/
theorem app_growZ {st xt ty el size : Nat} {kx : IntKind} {f : TypeInfo} {zv : Value} (r1 : ∀ w, (underlying st).run P w = .ok (.slice el) w) (r2 : ∀ w, (underlying xt).run P w = .ok (.int kx) w) (r3 : ∀ w, (Go.sizeOf el).run P w = .ok size w)
    (r4 : ∀ w, (typeInfo el).run P w = .ok f w) (r5 : ∀ w, (zeroValue el).run P w = .ok zv w) {base : Option Addr} {len c k : Nat} {kk : IntKind} (hk : k ≤ 1000000) (hb1 : k * f.bytes ≤ 281474976710656) (hz : zv.cells.size = size) (hc : ¬ len + k ≤ c) (hs : len + k ≤ 1000000) (hb : Builtin.nextslicecap (len + k) c * f.bytes ≤ 281474976710656)
    {old : Array Value} {W : World} (h0 : (Builtin.firstCells size len (.slice base len c)).run P W.drew = .ok old W.drew) :
    ∃ nc rest, len + k ≤ nc ∧ rest.size = (nc - (len + k)) * zv.cells.size ∧ (Builtin.append_ #[st, xt] ty #[.slice base len c, .int kk (.ofNat k)]).run P W = .ok (.slice (some ⟨W.heap.size, 0, none⟩) (len + k) nc) (W.drew.alloc (.cells (old ++ Builtin.zeroCells zv.cells k ++ rest) el)) := by
  refine ⟨(Question.appendCap (len + k) c el).cut (W.tape W.drawn (.appendCap (len + k) c el)), Builtin.zeroCells zv.cells ((Question.appendCap (len + k) c el).cut (W.tape W.drawn (.appendCap (len + k) c el)) - (len + k)), ?_, by simp [Builtin.zeroCells], ?_⟩
  · simp only [Question.cut]
    omega
  · have hb' : ¬ Builtin.nextslicecap (len + k) c * f.bytes > 2 ^ 48 := by omega
    have hq : (choose (.appendCap (len + k) c el)).run P W = .ok ((Question.appendCap (len + k) c el).cut (W.tape W.drawn (.appendCap (len + k) c el))) W.drew := rfl
    have hi : ¬ (((len + k : Nat) : Int) > IntKind.i64.max ∧ (True ∨ f.bytes = 0)) := by
      rintro ⟨h, _⟩
      simp [IntKind.max, IntKind.signed, IntKind.bits] at h
      omega
    have ha : ∀ b w, (askRoom b).run P w = .ok () w := fun b w => by
      unfold askRoom
      split <;> rfl
    have hai : ∀ w, (asInt (.int kk (Int.ofNat k))).run P w = .ok (Int.ofNat k) w := fun w => by simp [asInt, asIntOf]
    have hw : IntKind.i64.wrap (Int.ofNat k) = (k : Int) := by
      rw [← wr_eq]
      have : Nat.blt k 9223372036854775808 = true := by
        rw [Nat.blt_eq]
        omega
      simp only [wr, lim, this]
      rfl
    have g0 : ¬ ((k : Int) < 0) := by omega
    have g1 : ¬ ((k : Int) * (f.bytes : Int) > 2 ^ 48) := by
      have : ((k * f.bytes : Nat) : Int) ≤ 281474976710656 := by omega
      rw [Int.natCast_mul] at this
      omega
    have hap : ∀ w, (if k * size = 0 then pure #[] else do pure (Builtin.zeroCells (← zeroValue el).cells k) : Sem (Array Value)).run P w = .ok (Builtin.zeroCells zv.cells k) w := fun w => by
      split
      · next q => simp [Builtin.zeroCells, hz, q]
      · simp only [Sem.run_bind, r5, Result.andThen_ok, run_pureS]
    simp only [Builtin.append_, List.getElem?_toArray, List.getElem?_cons_zero, List.getElem?_cons_succ, Sem.run_bind, r1, r2, r3, Result.andThen_ok, run_pureS, if_true, hai, hw, g0, if_false, r4, g1, Int.toNat_natCast, if_neg hc]
    simp only [Sem.run_bind, run_pureS, Result.andThen_ok, if_neg hi, r4, if_neg hb', hq, ha, h0, Bool.not_true, Bool.false_eq_true, if_false, hap, r5, run_newRow]
    rfl
end
end GrG
