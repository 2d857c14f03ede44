/-
  Texts of one claim, merged.
-/
import Derived.Test.YtlflknfkenfpiaaGreatDoorR13
import Derived.Laws.LoneSync
import Derived.Laws.BytesArg
import Derived.Lib.UnsafeStr
set_option linter.unusedSimpArgs false
set_option linter.unusedVariables false
namespace GrG
open Go Go.RowKit
def GoodV (P : Program) (B : World) (G : Nat) (cx : Cx) (M M' : Mem) (hi : Nat) (s : At) (x : Sem Value) (r : AV) : Prop :=
  ∃ q s', x.run P s.W = .ok q s'.W ∧ VRel s'.σ r q ∧ Is B G cx M' hi s' ∧ To cx M.next hi s s'
section
variable {P : Program} {B : World} {E : Env} {cx : Cx} {M M' : Mem} {hi : Nat} {s : At} {L : T AV} {n : Nat} {a : Act}
theorem newRow_eq (ty : Option Nat) (M : Mem) (l : List AV) (k : Nat → Mem → OM) : newRow ty M l k = k (anew M (.row ty (T.ofA l))).1 (anew M (.row ty (T.ofA l))).2 := rfl
theorem anew_pair (M : Mem) (o : Ob) : anew M o = ((anew M o).1, (anew M o).2) := rfl
theorem emake_sound (hE : EnvOk P E) (hs : Is B E.ng cx M hi s) {t : Nat} {x y r : AV} {u v : Value} (hx : VRel s.σ x u) (hy : VRel s.σ y v) (e : emake E M t x y = some (r, M')) (hh : M'.next ≤ hi) :
    GoodV P B E.ng cx M M' hi s (Instr.makeSlice t u v) r := by
  unfold emake at e
  split at e
  · next k1 l k2 c =>
    cases hx
    cases hy
    split at e
    · next ty et =>
      split at e
      · next el hk =>
        split at e
        · next ey ee =>
          split at e
          · next e1 e2 e3 e4 e5 =>
            simp only [fN_eq, newRow_eq, Option.some.injEq, Prod.mk.injEq] at e
            obtain ⟨rfl, rfl⟩ := e
            obtain ⟨d, f, zv, q1, q2, q3, q4, q5, q6, q7⟩ := facts_all (hE.tys _ _ et)
            rw [q5] at hk
            obtain rfl := tk_slice hk.symm
            obtain ⟨d', f', zv', p1, p2, p3, p4, p5, p6, p7⟩ := facts_all (hE.tys _ _ ee)
            have hz := ofL_rel (σ := s.σ) p4
            have hzs : zv'.cells.size = ey.size := by
              have := hz.length
              rw [beq_t e5] at this
              simpa using this.symm
            have e1 := ble_t e1
            have e2 := ble_t e2
            have e3 := ble_t e3
            have e4 := blt_t e4
            obtain ⟨s', w1, w2, w3, w4⟩ := hs.new (zmk_rel (n := c * ey.size) hz hzs (.inr e4)) (anew_pair _ _) hh el (fun _ h => by cases h; rfl)
            have hrun := run_make (P := P) s.W t el f' zv' q1 p2 p3 k1 k2 (Int.ofNat l) (Int.ofNat c) (by simp) (by simpa using e1) (by
              rw [← p7]
              have : ((ey.bytes * c : Nat) : Int) ≤ 281474976710656 := by omega
              simpa using this) (by
              show ((c : Nat) : Int) ≤ _
              omega)
            refine ⟨.slice (some ⟨s.W.heap.size, 0, none⟩) l c, s', ?_, ?_, w3, w4⟩
            · rw [hrun, w1, ← p6]
              simp
            · exact VRel.slice w2 (fun _ => rfl) (Nat.le_refl _) e1 (fun q => by cases q)
          · cases e
        · cases e
      · cases e
    · cases e
  · cases e
theorem ebs_sound (hE : EnvOk P E) (hs : Is B E.ng cx M hi s) {t len : Nat} {l : List (Nat × AV)} {m : Array (Nat × Value)} (hl : PRl s.σ l m.toList) {r : AV} (e : ebs E M t len l = some (r, M')) (hh : M'.next ≤ hi) :
    GoodV P B E.ng cx M M' hi s (Instr.buildSlice t len m) r := by
  unfold ebs at e
  split at e
  · next ty et =>
    split at e
    · next el hk =>
      split at e
      · next ey ee =>
        split at e
        · next e1 e2 e3 =>
          split at e
          · next r' er =>
            split at e
            · next e4 =>
              simp only [newRow_eq, Option.some.injEq, Prod.mk.injEq] at e
              obtain ⟨rfl, rfl⟩ := e
              obtain ⟨d, k1, r1⟩ := facts_und (hE.tys _ _ et)
              rw [k1] at hk
              obtain rfl := tk_slice hk.symm
              obtain ⟨zv, z1, z2⟩ := facts_zero (hE.tys _ _ ee) s.σ
              have e1 := ble_t e1
              have e2 := blt_t e2
              have hzs : zv.cells.size = ey.size := by
                have := z1.length
                rw [beq_t e3] at this
                simpa using this.symm
              obtain ⟨rs, f1, f2⟩ := efill_sound hl (zmk_rel (n := len * ey.size) z1 hzs (.inr e2)) er
              obtain ⟨s', w1, w2, w3, w4⟩ := hs.new f2 (anew_pair _ _) hh el
              refine ⟨.slice (some ⟨s.W.heap.size, 0, none⟩) len len, s', ?_, ?_, w3, w4⟩
              · have hb : ¬ len * ey.size > 2 ^ 24 := by omega
                simp only [Instr.buildSlice, Sem.run_bind, r1, Result.andThen_ok, facts_size (hE.tys _ _ ee), hb, if_false, run_pureS]
                by_cases h0 : len * ey.size = 0
                · rw [if_pos h0]
                  simp only [Sem.run_bind, run_pureS, Result.andThen_ok]
                  have : madeCells zv.cells (len * ey.size) = (Array.range (len * ey.size)).map ((#[] : Array Value)[· % (#[] : Array Value).size]!) := by
                    rw [h0]; simp [madeCells]
                  rw [← this, f1]
                  simp only [run_newRow, Sem.run_bind, Result.andThen_ok, run_pureS, w1]
                  try simp
                · rw [if_neg h0]
                  simp only [Sem.run_bind, z2, run_pureS, Result.andThen_ok]
                  have : madeCells zv.cells (len * ey.size) = (Array.range (len * ey.size)).map (zv.cells[· % zv.cells.size]!) := rfl
                  rw [← this, f1]
                  simp only [run_newRow, Sem.run_bind, Result.andThen_ok, run_pureS, w1]
                  try simp
              · exact VRel.slice w2 (fun _ => rfl) (Nat.le_refl _) (Nat.le_refl _) (fun q => by cases q)
            · cases e
          · cases e
        · cases e
      · cases e
    · cases e
  · cases e
theorem stores_raw {b p : Nat} : ∀ (vs : List Value) (k : Nat) (cs : Array Value) (t : TypeId) (W : World), W.heap[b]? = some (.cells cs t (0, 0)) → p + k + vs.length ≤ cs.size → (∀ v ∈ vs, one v = true) →
    ∃ W' cs', (storeCells ⟨b, p, none⟩ vs k).run P W = .ok () W' ∧ W'.heap[b]? = some (.cells cs' t (0, 0)) ∧ cs'.size = cs.size ∧ (∀ j v, vs[j]? = some v → cs'[p + k + j]? = some v) ∧ (∀ j, j < p + k → cs'[j]? = cs[j]?) ∧
      (∀ c, c ≠ b → W'.heap[c]? = W.heap[c]?) ∧ (∀ N U, N ≤ b → Below N U W → Below N U W')
  | [], k, cs, t, W, h, hl, ho => ⟨W, cs, rfl, h, rfl, fun j v hj => by simp at hj, fun _ _ => rfl, fun _ _ => rfl, fun _ _ _ h => h⟩
  | v :: vs, k, cs, t, W, h, hl, ho => by
    have hlt : p + k < cs.size := by simp only [List.length_cons] at hl; omega
    have hc : W.cell? ⟨b, p + k, none⟩ = some cs[p + k] := by rw [cell_of_row W b (p + k) cs t (0, 0) h]; exact Array.getElem?_eq_getElem hlt
    have hr := run_store1 (P := P) (ho v (List.mem_cons_self ..)) hc (frozen_of_row W b _ cs t h)
    have h' := heap_setCell_same W b (p + k) cs t v h
    obtain ⟨W', cs', q1, q2, q3, q4, q5, q6, q7⟩ := stores_raw (b := b) (p := p) vs (k + 1) (cs.setIfInBounds (p + k) v) t _ h' (by simp only [List.length_cons] at hl; simp; omega) fun u hu => ho u (List.mem_cons_of_mem _ hu)
    refine ⟨W', cs', ?_, q2, by simpa using q3, fun j u hj => ?_, fun j hj => ?_, fun c hc => ?_, fun N U hN hB => q7 N U hN (hB.setCell hN v)⟩
    · simp only [storeCells, add_at, Sem.run_bind, hr, Result.andThen_ok]
      exact q1
    · cases j with
      | zero =>
        simp only [List.getElem?_cons_zero, Option.some.injEq] at hj
        subst hj
        rw [q5 (p + k + 0) (by omega)]
        simp [hlt]
      | succ j =>
        have := q4 j u (by simpa using hj)
        rwa [show p + k + (j + 1) = p + (k + 1) + j by omega]
    · rw [q5 j (by omega), Array.getElem?_setIfInBounds_ne (by omega)]
    · rw [q6 c hc, heap_setCell_other W _ c v hc]
theorem scalars_one {σ : Sg} : ∀ {l : List AV} {vs : List Value}, LRel σ l vs → l.all scalar = true → ∀ v ∈ vs, one v = true
  | _, _, .nil, _, v, hv => by cases hv
  | a :: l, _, .cons ha hl, h, v, hv => by
    have h' : scalar a = true ∧ l.all scalar = true := by simpa using h
    rcases List.mem_cons.1 hv with rfl | hv
    · exact scalar_one ha h'.1
    · exact scalars_one hl h'.2 v hv
theorem esrc_logs {size k : Nat} {x : AV} {l : List AV} (e : esrc M size x = some (l, k, M')) : Gr M M' ∧ M'.objs = M.objs ∧ M'.next = M.next := by
  unfold esrc at e
  repeat' split at e
  all_goals first
    | (cases e; done)
    | (simp only [Option.some.injEq, Prod.mk.injEq] at e; obtain ⟨_, _, rfl⟩ := e; first | exact ⟨.refl _, rfl, rfl⟩ | exact ⟨.saw _ _, rfl, rfl⟩)
theorem esrc_sound (hs : Is B E.ng cx M hi s) {size k : Nat} {x : AV} {v : Value} {l : List AV} (hx : VRel s.σ x v) (e : esrc M size x = some (l, k, M')) (hl : LogOk cx M') :
    Builtin.lenOf v = pure k ∧ ∃ vs, LRel s.σ l vs ∧ vs.length = k * size ∧ (Builtin.firstCells size k v).run P s.W = .ok vs.toArray s.W ∧ (Builtin.firstCells size k v).run P s.W.drew = .ok vs.toArray s.W.drew := by
  unfold esrc at e
  split at e
  · simp only [Option.some.injEq, Prod.mk.injEq] at e
    obtain ⟨rfl, rfl, rfl⟩ := e
    cases hx
    exact ⟨rfl, [], .nil, by simp, rfl, rfl⟩
  · simp only [Option.some.injEq, Prod.mk.injEq] at e
    obtain ⟨rfl, rfl, rfl⟩ := e
    cases hx
    exact ⟨rfl, [], .nil, by simp, by simp [Builtin.firstCells, loadCells, loadCellsFrom], by simp [Builtin.firstCells, loadCells, loadCellsFrom]⟩
  · next i o len c0 ex es =>
    split at e
    · next c e1 e2 =>
      split at e
      · next l' el =>
        simp only [Option.some.injEq, Prod.mk.injEq] at e
        obtain ⟨rfl, rfl, rfl⟩ := e
        obtain ⟨b, f, z, cc, rfl, q0, _⟩ := hx.slice_inv
        obtain ⟨vs, h1, h2, h3, h4⟩ := hs.cells (P := P) e2 (hl.rd i (List.mem_cons_self ..)) q0 el
        exact ⟨rfl, vs, h1, h2, h3, h4⟩
      · cases e
    · cases e
  · next l =>
    split at e
    · next e1 =>
      simp only [Option.some.injEq, Prod.mk.injEq] at e
      obtain ⟨rfl, rfl, rfl⟩ := e
      obtain ⟨rfl, hb⟩ := hx.str_inv
      refine ⟨by simp [Builtin.lenOf, sB_size], l.map fun x => .int .u8 (.ofNat x), ?_, by simp [beq_t e1], ?_, ?_⟩
      · clear e1 hx
        induction l with
        | nil => exact .nil
        | cons x l ih => exact .cons (.int _ _) (ih fun y hy => hb y (List.mem_cons_of_mem _ hy))
      all_goals
        have : ((sB l).extract 0 l.length).data.map (fun b => Value.int .u8 b.toNat) = (l.map fun x => Value.int .u8 (.ofNat x)).toArray := by
          rw [sB_extract, List.take_length, List.drop_zero]
          apply Array.toList_inj.1
          simp only [Array.toList_map, sB_data, List.map_map]
          refine List.map_congr_left fun x hx => ?_
          simp [UInt8.toNat_ofNat', Nat.mod_eq_of_lt (hb x hx)]
        simp only [Builtin.firstCells, this, run_pureS]
    · cases e
  · cases e
theorem nextcap_le {need c : Nat} (h : c < need) : Builtin.nextslicecap need c ≤ 4 * need + 4000 := by
  unfold Builtin.nextslicecap
  split
  · omega
  · split
    · omega
    · simp only [Builtin.growBy]
      repeat' split
      all_goals omega
theorem app_in {st xt ty el size : Nat} {dx : TypeDesc} (r1 : ∀ w, (underlying st).run P w = .ok (.slice el) w) (r2 : ∀ w, (underlying xt).run P w = .ok dx w) (hn : (∀ k, dx ≠ .int k)) (r3 : ∀ w, (Go.sizeOf el).run P w = .ok size w)
    {ad : Addr} {len c k : Nat} {xv : Value} (hl : Builtin.lenOf xv = pure k) (hc : len + k ≤ c) {vs : List Value} {W W' : World} (h1 : (Builtin.firstCells size k xv).run P W = .ok vs.toArray W) (h2 : (storeCells (ad.add (len * size)) vs).run P W = .ok () W') :
    (Builtin.append_ #[st, xt] ty #[.slice (some ad) len c, xv]).run P W = .ok (.slice (some ad) (len + k) c) W' := by
  have hd : (match dx with | .int _ => true | _ => false) = false := by
    cases dx <;> first | rfl | exact absurd rfl (hn _)
  simp only [Builtin.append_, List.getElem?_toArray, List.getElem?_cons_zero, List.getElem?_cons_succ, Sem.run_bind, r1, r2, r3, Result.andThen_ok, run_pureS, hl]
  simp only [hd, Bool.false_eq_true, if_false, Sem.run_bind, run_pureS, Result.andThen_ok, hl, if_pos hc, Bool.not_false, if_true, h1, h2]
theorem app_grow {st xt ty el size : Nat} {dx : TypeDesc} {f : TypeInfo} {zv : Value} (r1 : ∀ w, (underlying st).run P w = .ok (.slice el) w) (r2 : ∀ w, (underlying xt).run P w = .ok dx w) (hn : (∀ k, dx ≠ .int k)) (r3 : ∀ w, (Go.sizeOf el).run P w = .ok size w)
    (r4 : ∀ w, (typeInfo el).run P w = .ok f w) (r5 : ∀ w, (zeroValue el).run P w = .ok zv w) {base : Option Addr} {len c k : Nat} {xv : Value} (hl : Builtin.lenOf xv = pure k) (hc : ¬ len + k ≤ c) (hs : len + k ≤ 1000000) (hb : Builtin.nextslicecap (len + k) c * f.bytes ≤ 281474976710656)
    {old new : Array Value} {W : World} (h0 : (Builtin.firstCells size len (.slice base len c)).run P W.drew = .ok old W.drew) (h1 : (Builtin.firstCells size k xv).run P W.drew = .ok new W.drew) :
    ∃ nc rest, len + k ≤ nc ∧ rest.size = (nc - (len + k)) * zv.cells.size ∧ (Builtin.append_ #[st, xt] ty #[.slice base len c, xv]).run P W = .ok (.slice (some ⟨W.heap.size, 0, none⟩) (len + k) nc) (W.drew.alloc (.cells (old ++ new ++ rest) el)) := by
  have hd : (match dx with | .int _ => true | _ => false) = false := by
    cases dx <;> first | rfl | exact absurd rfl (hn _)
  refine ⟨(Question.appendCap (len + k) c el).cut (W.tape W.drawn (.appendCap (len + k) c el)), Builtin.zeroCells zv.cells ((Question.appendCap (len + k) c el).cut (W.tape W.drawn (.appendCap (len + k) c el)) - (len + k)), ?_, by simp [Builtin.zeroCells], ?_⟩
  · simp only [Question.cut]
    omega
  · have hb' : ¬ Builtin.nextslicecap (len + k) c * f.bytes > 2 ^ 48 := by omega
    have hq : (choose (.appendCap (len + k) c el)).run P W = .ok ((Question.appendCap (len + k) c el).cut (W.tape W.drawn (.appendCap (len + k) c el))) W.drew := rfl
    have hi : ¬ (((len + k : Nat) : Int) > IntKind.i64.max ∧ (False ∨ f.bytes = 0)) := by
      rintro ⟨h, _⟩
      simp [IntKind.max, IntKind.signed, IntKind.bits] at h
      omega
    have ha : ∀ b w, (askRoom b).run P w = .ok () w := fun b w => by
      unfold askRoom
      split <;> rfl
    simp only [Builtin.append_, List.getElem?_toArray, List.getElem?_cons_zero, List.getElem?_cons_succ, Sem.run_bind, r1, r2, r3, Result.andThen_ok, run_pureS, hl]
    simp only [hd, Bool.false_eq_true, if_false, Sem.run_bind, run_pureS, Result.andThen_ok, hl, if_neg hc, r4, if_neg hi, if_neg hb', hq, ha, h0, Bool.not_false, if_true, h1, r5, run_newRow]
    rfl
theorem app_inZ {st xt ty el size : Nat} {kx : IntKind} {f : TypeInfo} {zv : Value} (r1 : ∀ w, (underlying st).run P w = .ok (.slice el) w) (r2 : ∀ w, (underlying xt).run P w = .ok (.int kx) w) (r3 : ∀ w, (Go.sizeOf el).run P w = .ok size w)
    (r4 : ∀ w, (typeInfo el).run P w = .ok f w) (r5 : ∀ w, (zeroValue el).run P w = .ok zv w) {base : Option Addr} {len c k : Nat} {kk : IntKind} (hk : k ≤ 1000000) (hb : k * f.bytes ≤ 281474976710656) (hz : zv.cells.size = size) (hc : len + k ≤ c) {W W' : World}
    (h2 : ∀ ad, base = some ad → (storeCells (ad.add (len * size)) (Builtin.zeroCells zv.cells k).toList).run P W = .ok () W') (h3 : base = none → W' = W) :
    (Builtin.append_ #[st, xt] ty #[.slice base len c, .int kk (.ofNat k)]).run P W = .ok (.slice base (len + k) c) W' := by
  have hai : ∀ w, (asInt (.int kk (Int.ofNat k))).run P w = .ok (Int.ofNat k) w := fun w => by simp [asInt, asIntOf]
  have hw : IntKind.i64.wrap (Int.ofNat k) = (k : Int) := by
    rw [← wr_eq]
    have : Nat.blt k 9223372036854775808 = true := by
      rw [Nat.blt_eq]
      omega
    simp only [wr, lim, this]
    rfl
  have h0 : ¬ ((k : Int) < 0) := by omega
  have h1 : ¬ ((k : Int) * (f.bytes : Int) > 2 ^ 48) := by
    have : ((k * f.bytes : Nat) : Int) ≤ 281474976710656 := by omega
    rw [Int.natCast_mul] at this
    omega
  have hap : (if k * size = 0 then pure #[] else do pure (Builtin.zeroCells (← zeroValue el).cells k) : Sem (Array Value)).run P W = .ok (Builtin.zeroCells zv.cells k) W := by
    split
    · next q => simp [Builtin.zeroCells, hz, q]
    · simp only [Sem.run_bind, r5, Result.andThen_ok, run_pureS]
  simp only [Builtin.append_, List.getElem?_toArray, List.getElem?_cons_zero, List.getElem?_cons_succ, Sem.run_bind, r1, r2, r3, Result.andThen_ok, run_pureS, if_true, hai, hw, h0, if_false, r4, h1, Int.toNat_natCast, if_pos hc, Bool.not_true, Bool.false_eq_true, hap]
  cases base with
  | none =>
    rw [h3 rfl]
    rfl
  | some ad =>
    simp only [Sem.run_bind, h2 ad rfl, Result.andThen_ok, run_pureS]
theorem app_growZ {st xt ty el size : Nat} {kx : IntKind} {f : TypeInfo} {zv : Value} (r1 : ∀ w, (underlying st).run P w = .ok (.slice el) w) (r2 : ∀ w, (underlying xt).run P w = .ok (.int kx) w) (r3 : ∀ w, (Go.sizeOf el).run P w = .ok size w)
    (r4 : ∀ w, (typeInfo el).run P w = .ok f w) (r5 : ∀ w, (zeroValue el).run P w = .ok zv w) {base : Option Addr} {len c k : Nat} {kk : IntKind} (hk : k ≤ 1000000) (hb1 : k * f.bytes ≤ 281474976710656) (hz : zv.cells.size = size) (hc : ¬ len + k ≤ c) (hs : len + k ≤ 1000000) (hb : Builtin.nextslicecap (len + k) c * f.bytes ≤ 281474976710656)
    {old : Array Value} {W : World} (h0 : (Builtin.firstCells size len (.slice base len c)).run P W.drew = .ok old W.drew) :
    ∃ nc rest, len + k ≤ nc ∧ rest.size = (nc - (len + k)) * zv.cells.size ∧ (Builtin.append_ #[st, xt] ty #[.slice base len c, .int kk (.ofNat k)]).run P W = .ok (.slice (some ⟨W.heap.size, 0, none⟩) (len + k) nc) (W.drew.alloc (.cells (old ++ Builtin.zeroCells zv.cells k ++ rest) el)) := by
  refine ⟨(Question.appendCap (len + k) c el).cut (W.tape W.drawn (.appendCap (len + k) c el)), Builtin.zeroCells zv.cells ((Question.appendCap (len + k) c el).cut (W.tape W.drawn (.appendCap (len + k) c el)) - (len + k)), ?_, by simp [Builtin.zeroCells], ?_⟩
  · simp only [Question.cut]
    omega
  · have hb' : ¬ Builtin.nextslicecap (len + k) c * f.bytes > 2 ^ 48 := by omega
    have hq : (choose (.appendCap (len + k) c el)).run P W = .ok ((Question.appendCap (len + k) c el).cut (W.tape W.drawn (.appendCap (len + k) c el))) W.drew := rfl
    have hi : ¬ (((len + k : Nat) : Int) > IntKind.i64.max ∧ (True ∨ f.bytes = 0)) := by
      rintro ⟨h, _⟩
      simp [IntKind.max, IntKind.signed, IntKind.bits] at h
      omega
    have ha : ∀ b w, (askRoom b).run P w = .ok () w := fun b w => by
      unfold askRoom
      split <;> rfl
    have hai : ∀ w, (asInt (.int kk (Int.ofNat k))).run P w = .ok (Int.ofNat k) w := fun w => by simp [asInt, asIntOf]
    have hw : IntKind.i64.wrap (Int.ofNat k) = (k : Int) := by
      rw [← wr_eq]
      have : Nat.blt k 9223372036854775808 = true := by
        rw [Nat.blt_eq]
        omega
      simp only [wr, lim, this]
      rfl
    have g0 : ¬ ((k : Int) < 0) := by omega
    have g1 : ¬ ((k : Int) * (f.bytes : Int) > 2 ^ 48) := by
      have : ((k * f.bytes : Nat) : Int) ≤ 281474976710656 := by omega
      rw [Int.natCast_mul] at this
      omega
    have hap : ∀ w, (if k * size = 0 then pure #[] else do pure (Builtin.zeroCells (← zeroValue el).cells k) : Sem (Array Value)).run P w = .ok (Builtin.zeroCells zv.cells k) w := fun w => by
      split
      · next q => simp [Builtin.zeroCells, hz, q]
      · simp only [Sem.run_bind, r5, Result.andThen_ok, run_pureS]
    simp only [Builtin.append_, List.getElem?_toArray, List.getElem?_cons_zero, List.getElem?_cons_succ, Sem.run_bind, r1, r2, r3, Result.andThen_ok, run_pureS, if_true, hai, hw, g0, if_false, r4, g1, Int.toNat_natCast, if_neg hc]
    simp only [Sem.run_bind, run_pureS, Result.andThen_ok, if_neg hi, r4, if_neg hb', hq, ha, h0, Bool.not_true, Bool.false_eq_true, if_false, hap, r5, run_newRow]
    rfl
theorem econvU_logs {t u : Nat} {v r : AV} (e : econvU E M t u v = some (r, M')) : Gr M M' := by
  unfold econvU at e
  split at e
  · split at e
    · unfold cvTo at e
      repeat' split at e
      all_goals first
        | (cases e; done)
        | (simp only [Option.some.injEq, Prod.mk.injEq] at e; obtain ⟨_, rfl⟩ := e; exact .saw _ _)
    · unfold cvOf at e
      repeat' split at e
      all_goals first
        | (cases e; done)
        | (simp only [Option.some.injEq, Prod.mk.injEq] at e; obtain ⟨_, rfl⟩ := e; exact .saw _ _)
    · unfold cvStr at e
      repeat' split at e
      all_goals first
        | (cases e; done)
        | (simp only [Option.some.injEq, Prod.mk.injEq] at e; obtain ⟨_, rfl⟩ := e; first | exact .saw _ _ | exact .refl _)
    · cases e
  · cases e
theorem cvTo_sound (hE : EnvOk P E) (hs : Is B E.ng cx M hi s) {t u el : Nat} {x r : AV} {v : Value} (u1 : P.underlying t = some (.pointer el)) (u2 : P.underlying u = some .unsafePointer) (hx : VRel s.σ x v) (e : cvTo E M el x = some (r, M')) (hl : LogOk cx M') :
    GoodV P B E.ng cx M M' hi s (convert t u v) r := by
  unfold cvTo at e
  split at e
  · next i o =>
    split at e
    · next ty c ey er ee =>
      split at e
      · next x0 ec h0 =>
        simp only [Option.some.injEq, Prod.mk.injEq] at e
        obtain ⟨rfl, rfl⟩ := e
        have hv : cx.vis i := hl.rd i (List.mem_cons_self ..)
        obtain ⟨d3, f3, z3, _, i3, _, _, _, s3, _⟩ := facts_all (hE.tys _ _ ee)
        obtain ⟨b, f, z, rfl, q⟩ := hx.ptr_inv
        obtain ⟨w, c1, _⟩ := hs.rel.cell (hs.row er hv) q ec
        have hz : (P.info? el).map (fun i => decide (i.size = 0)) = some false := by
          have := beq_f h0
          rw [i3]
          simp
          omega
        exact ⟨_, s, run_convert_to_unsafe u1 u2 hz c1, hx, hs.saw i, .refl⟩
      · cases e
    · cases e
  · cases e
theorem run_convert_of_unsafe {src dst u : TypeId} (h1 : P.underlying src = some .unsafePointer) (h2 : P.underlying dst = some (.pointer u)) {i : TypeInfo} (hi : P.info? u = some i) {a : Addr} {w : World} {e n : Nat} (hsh : w.shape? a.block = some (e, n))
    (hl : liesAt P P.depth e (n / P.cellsOf e) a.off u 1 = true) : (convert src dst (.pointer (some a))).run P w = .ok (.pointer (some a)) w := by
  simp [convert, Conv.unsafePointer, Conv.seenAt, viewAt, variablesAt, Go.sizeOf, typeInfo, run_underlying h1, run_underlying h2, hi, hsh, hl, Result.andThen]
theorem rowAt_more {fits : TypeId → Bool} {e off count : Nat} : ∀ {d : Nat}, rowAt P fits d e (off / P.cellsOf e + 1) off 1 = true → off / P.cellsOf e < count → rowAt P fits d e count off 1 = true
  | 0, h, _ => by simp [rowAt] at h
  | d + 1, h, hc => by
    have e1 : decide (off / P.cellsOf e + 1 ≤ count) = true := decide_eq_true hc
    have e2 : decide (off / P.cellsOf e < count) = true := decide_eq_true hc
    have e3 : decide (off / P.cellsOf e < off / P.cellsOf e + 1) = true := decide_eq_true (by omega)
    simp only [rowAt] at h ⊢
    split
    · next q => rw [if_pos q] at h; cases h
    · next q =>
      rw [if_neg q] at h
      simp only [e1, e2]
      simpa only [e3, Nat.le_refl, decide_true] using h
theorem lies_more {e off count u : Nat} (h : rowAt P (fun t => sameLayout P P.depth t u) P.depth e (off / P.cellsOf e + 1) off 1 = true) (hc : off / P.cellsOf e < count) : liesAt P P.depth e count off u 1 = true := by
  have h' := rowAt_more h hc
  obtain ⟨d, hd⟩ : ∃ d, P.depth = d + 1 := ⟨_, rfl⟩
  rw [show liesAt P P.depth e count off u 1 = liesAt P (d + 1) e count off u 1 from congrArg (fun x => liesAt P x e count off u 1) hd]
  simp only [liesAt, Bool.or_eq_true]
  exact .inl h'
theorem cvOf_sound (hE : EnvOk P E) (hs : Is B E.ng cx M hi s) {t u el : Nat} {x r : AV} {v : Value} (u1 : P.underlying t = some .unsafePointer) (u2 : P.underlying u = some (.pointer el)) (hx : VRel s.σ x v) (e : cvOf E M el x = some (r, M')) (hl : LogOk cx M') :
    GoodV P B E.ng cx M M' hi s (convert t u v) r := by
  unfold cvOf at e
  split at e
  · next i o =>
    split at e
    · next k c ey er ee =>
      split at e
      · next ky ek =>
        split at e
        · next x0 h0 ec hli =>
          simp only [Option.some.injEq, Prod.mk.injEq] at e
          obtain ⟨rfl, rfl⟩ := e
          have hv : cx.vis i := hl.rd i (List.mem_cons_self ..)
          obtain ⟨d3, f3, z3, _, i3, _⟩ := facts_all (hE.tys _ _ ee)
          obtain ⟨d4, f4, z4, _, i4, _, _, _, s4, _⟩ := facts_all (hE.tys _ _ ek)
          obtain ⟨b, f, z, rfl, q⟩ := hx.ptr_inv
          obtain ⟨cs, t', h1, hk, h2, h3⟩ := hs.rel.rowAt (hs.row er hv) q
          obtain ⟨rfl, rfl⟩ := hk _ rfl
          obtain ⟨w, w1, _⟩ := h3 _ _ ec
          have lt := (Array.getElem?_eq_some_iff.1 w1).1
          have hsz : P.cellsOf t' = ky.size := by simp [Program.cellsOf, i4, s4]
          have hp := blt_t h0
          refine ⟨_, s, run_convert_of_unsafe u1 u2 i3 (e := t') (n := cs.size) (by simp [World.shape?, h1]) (lies_more (hE.lies _ _ _ (by simpa using hli)) ?_), hx, hs.saw i, .refl⟩
          rw [hsz]
          show (0 + o) / ky.size < cs.size / ky.size
          rw [Nat.zero_add]
          refine (Nat.le_div_iff_mul_le hp).2 ?_
          rw [Nat.succ_mul]
          omega
        · cases e
      · cases e
    · cases e
  · cases e
theorem bytes_rel {σ : Sg} : ∀ {l : List AV} {bs : List Nat} {vs : List Value}, bytesOf l = some bs → LRel σ l vs → vs = bs.map (fun x => Value.int .u8 (.ofNat x)) ∧ ∀ x ∈ bs, x < 256
  | [], bs, vs, h, k => by
    cases h
    cases k
    exact ⟨rfl, fun _ h => by cases h⟩
  | a :: l, bs, vs, h, k => by
    cases k with
    | cons ha hl =>
      simp only [bytesOf] at h
      split at h
      · next x m e =>
        split at h
        · next hb =>
          cases h
          cases ha
          obtain ⟨rfl, h2⟩ := bytes_rel e hl
          exact ⟨rfl, fun y hy => by
            rcases List.mem_cons.1 hy with rfl | hy
            · exact blt_t hb
            · exact h2 y hy⟩
        · cases h
      · cases h
theorem LRel.back {σ : Sg} : ∀ {l : List AV} {vs : List Value} (_ : LRel σ l vs) {i : Nat} {v : Value}, vs[i]? = some v → ∃ a, l[i]? = some a ∧ VRel σ a v
  | _, _, .nil, i, v, h => by simp at h
  | _, _, .cons ha hl, 0, v, h => by
    simp only [List.getElem?_cons_zero, Option.some.injEq] at h
    subst h
    exact ⟨_, rfl, ha⟩
  | _, _, .cons ha hl, i + 1, v, h => by
    simp only [List.getElem?_cons_succ] at h ⊢
    exact hl.back h
theorem bytes_one {σ : Sg} : ∀ {l : List AV} {bs : List Nat} {j y : Nat} {a : AV} {w : Value}, bytesOf l = some bs → l[j]? = some a → VRel σ a w → bs[j]? = some y → w = .int .u8 (.ofNat y)
  | [], bs, j, y, a, w, h, k, _, _ => by simp at k
  | b :: l, bs, j, y, a, w, h, k, hr, q => by
    simp only [bytesOf] at h
    split at h
    · next x m e =>
      split at h
      · cases h
        cases j with
        | zero =>
          simp only [List.getElem?_cons_zero, Option.some.injEq] at k q
          subst k
          subst q
          cases hr
          rfl
        | succ j =>
          simp only [List.getElem?_cons_succ] at k q
          exact bytes_one e k hr q
      · cases h
    · cases h
theorem sB_nums (bs : List Nat) : strOfNums (bs.map Int.ofNat) = sB bs := by
  simp [strOfNums, sB]
theorem cvStr_sound (hE : EnvOk P E) (hs : Is B E.ng cx M hi s) {t u el : Nat} {x r : AV} {v : Value} (u1 : P.underlying t = some (.slice el)) (u2 : P.underlying u = some .string) (hx : VRel s.σ x v) (e : cvStr E M el x = some (r, M')) (hl : LogOk cx M') :
    GoodV P B E.ng cx M M' hi s (convert t u v) r := by
  unfold cvStr at e
  split at e
  · next ey ee =>
    obtain ⟨d3, f3, z3, u3, i3, _, _, k3, _⟩ := facts_all (hE.tys _ _ ee)
    split at e
    · next hk =>
      rw [k3] at hk
      obtain rfl := tk_int hk.symm
      split at e
      · simp only [Option.some.injEq, Prod.mk.injEq] at e
        obtain ⟨rfl, rfl⟩ := e
        cases hx
        exact ⟨_, s, run_convert_bytes_nil s.W t el u1 u3 0 0 u u2, .str [] (fun _ h => by cases h), hs, .refl⟩
      · next i o len cap ex es =>
        split at e
        · next ty c er =>
          split at e
          · next l el' =>
            split at e
            · next bs eb =>
              simp only [Option.some.injEq, Prod.mk.injEq] at e
              obtain ⟨rfl, rfl⟩ := e
              have hv : cx.vis i := hl.rd i (List.mem_cons_self ..)
              obtain ⟨b, f, z, cc, rfl, q0, _⟩ := hx.slice_inv
              obtain ⟨vs, h1, h2, h3, _⟩ := hs.cells (P := P) er hv q0 el'
              obtain ⟨rfl, hb⟩ := bytes_rel eb h1
              have hlen : (bs.map Int.ofNat).length = len := by simpa using h2
              refine ⟨.string (sB bs), s, ?_, .str bs hb, hs.saw i, .refl⟩
              rw [run_convert_bytes_string s.W t u el _ len cc u1 u3 u2, run_bytesToString s.W _ len cc (bs.map Int.ofNat) (by rw [h3]; simp), foldl_push_bytes, ← sB_nums]
              simp [strOfNums, ByteArray.empty, ByteArray.emptyWithCapacity]
              rfl
            · cases e
          · cases e
        · cases e
      · cases e
    · cases e
  · cases e
theorem econvU_sound (hE : EnvOk P E) (hs : Is B E.ng cx M hi s) {t u : Nat} {x r : AV} {v : Value} (hx : VRel s.σ x v) (e : econvU E M t u x = some (r, M')) (hl : LogOk cx M') :
    GoodV P B E.ng cx M M' hi s (convert t u v) r := by
  unfold econvU at e
  split at e
  · next sy d e1 e2 =>
    obtain ⟨d1, f1, z1, u1, _, _, _, k1, _⟩ := facts_all (hE.tys _ _ e1)
    obtain ⟨d2, f2, z2, u2, _, _, _, k2, _⟩ := facts_all (hE.tys _ _ e2)
    have up : ∀ {d : TypeDesc}, tkOf d = .uptr → d = .unsafePointer := fun {d} h => by
      cases d <;> simp only [tkOf, reduceCtorEq] at h
      rfl
    split at e
    · next el hk1 hk2 =>
      rw [k1] at hk1
      rw [k2] at hk2
      obtain rfl := tk_ptr hk1.symm
      obtain rfl := up hk2
      exact cvTo_sound hE hs u1 u2 hx e hl
    · next el hk1 hk2 =>
      rw [k1] at hk1
      rw [k2] at hk2
      obtain rfl := tk_ptr hk2.symm
      obtain rfl := up hk1
      exact cvOf_sound hE hs u1 u2 hx e hl
    · next el hk1 hk2 =>
      rw [k1] at hk1
      rw [k2] at hk2
      obtain rfl := tk_slice hk1.symm
      obtain rfl := tk_str hk2.symm
      exact cvStr_sound hE hs u1 u2 hx e hl
    · cases e
  · cases e
theorem eslData_sound {x r : AV} {v : Value} {ts : Array TypeId} {ty : TypeId} {σ : Sg} (hx : VRel σ x v) (e : eslData x = some r) (w : World) : ∃ q, VRel σ r q ∧ (Builtin.unsafeSliceData_ ts ty #[v]).run P w = .ok q w := by
  unfold eslData at e
  split at e
  · cases e
    cases hx
    exact ⟨_, .nilp, Lib.run_unsafeSliceData_nil w ts ty 0 0⟩
  · split at e
    · next h0 =>
      cases e
      obtain ⟨b, f, z, cc, rfl, q0, _, q2, _⟩ := hx.slice_inv
      have := blt_t h0
      exact ⟨_, .ptr q0, Lib.run_unsafeSliceData_row w ts ty _ _ cc (by omega)⟩
    · cases e
  · cases e
theorem eustr_gr {t : Nat} {x y r : AV} (e : eustr E M t x y = some (r, M')) : Gr M M' := by
  unfold eustr at e
  repeat' split at e
  all_goals first
    | (cases e; done)
    | (simp only [Option.some.injEq, Prod.mk.injEq] at e; obtain ⟨_, rfl⟩ := e; first | exact .refl _ | exact .wroteR (by assumption))
theorem RelM.lose {G : Nat} {σ : Sg} {F : Fm} {W U : World} (h : RelM B G σ F W) {i : Nat} {x : Ob} {b f z : Nat} (hF : F i = some x) (hs : σ i = some (b, f, z)) (hw : ∀ c, c ≠ b → U.heap[c]? = W.heap[c]?) (hb : Below B.heap.size B U) : RelM B G σ (F.upd i none) U := by
  have old : ∀ m y, F.upd i none m = some y → m ≠ i ∧ F m = some y := fun m y e => by
    by_cases q : m = i
    · subst q; rw [Fm.upd_self] at e; cases e
    · rw [Fm.upd_ne q] at e; exact ⟨q, e⟩
  refine ⟨fun j y e => ?_, fun j k y y' b1 f1 z1 b2 f2 z2 e1 e2 hn s1 s2 => ?_, fun j y b1 f1 z1 hG e s => ?_, hb⟩
  · obtain ⟨q, e'⟩ := old j y e
    exact (h.rep j y e').keep (.refl σ) fun b1 f1 z1 s1 => hw b1 (h.sep j i y x b1 f1 z1 b f z e' hF q s1 hs)
  · exact h.sep j k y y' b1 f1 z1 b2 f2 z2 (old _ _ e1).2 (old _ _ e2).2 hn s1 s2
  · exact h.high j y b1 f1 z1 hG (old _ _ e).2 s
theorem freeze_other (W : World) (a : Addr) (n c : Nat) (h : c ≠ a.block) : (W.freeze a n).heap[c]? = W.heap[c]? := by
  unfold World.freeze
  split
  · rfl
  · simp only [Array.getElem?_modify]
    rw [if_neg (by omega)]
theorem eustr_sound (hE : EnvOk P E) (hs : Is B E.ng cx M hi s) {t it ty : Nat} {x y r : AV} {u v : Value} (hx : VRel s.σ x u) (hy : VRel s.σ y v) (e : eustr E M t x y = some (r, M')) (hl : LogOk cx M') :
    GoodV P B E.ng cx M M' hi s (Builtin.unsafeString_ #[t, it] ty #[u, v]) r := by
  unfold eustr at e
  split at e
  · next n =>
    cases hy
    split at e
    · next h0 =>
      obtain rfl := beq_t h0
      simp only [Option.some.injEq, Prod.mk.injEq] at e
      obtain ⟨rfl, rfl⟩ := e
      cases hx
      exact ⟨_, s, Lib.run_unsafeString_none s.W t it ty none, .str [] (fun _ h => by cases h), hs, .refl⟩
    · next i o h0 =>
      obtain rfl := beq_t h0
      simp only [Option.some.injEq, Prod.mk.injEq] at e
      obtain ⟨rfl, rfl⟩ := e
      obtain ⟨b, f, z, rfl, q⟩ := hx.ptr_inv
      exact ⟨_, s, Lib.run_unsafeString_none s.W t it ty _, .str [] (fun _ h => by cases h), hs, .refl⟩
    · next i h0 =>
      split at e
      · next ty' k c et er hn =>
        obtain ⟨d1, f1, z1, u1, _, _, _, k1, _⟩ := facts_all (hE.tys _ _ et)
        split at e
        · next el hk =>
          rw [k1] at hk
          obtain rfl := tk_ptr hk.symm
          split at e
          · next ey l hke ee eg =>
            obtain rfl := beq_t hke
            split at e
            · next bs h1 eb =>
              simp only [Option.some.injEq, Prod.mk.injEq] at e
              obtain ⟨rfl, rfl⟩ := e
              have hv : cx.vis i := hl.rd i (List.mem_cons_self ..)
              have hw : cx.wok i := hl.wr i (List.mem_cons_self ..)
              obtain ⟨d4, f4, z4, _, i4, _, _, _, s4, _⟩ := facts_all (hE.tys _ _ ee)
              obtain ⟨b, f, z, rfl, q⟩ := hx.ptr_inv
              have hF := hs.row er hv
              obtain ⟨cs, t', g1, hk', g2, g3⟩ := hs.rel.rowAt hF q
              obtain ⟨rfl, rfl⟩ := hk' _ rfl
              obtain ⟨vs, j1, j2, _⟩ := hs.cells (P := P) er hv q eg
              obtain ⟨rfl, hb⟩ := bytes_rel eb j1
              have hlen : bs.length = n := by simpa using j2
              have hn0 := beq_f h0
              have hn1 := ble_t hn
              have hcell : ∀ j x, (bs.map UInt8.ofNat)[j]? = some x → s.W.cell? ((⟨b, 0, none⟩ : Addr).add j) = some (.int .u8 x.toNat) := fun j x hj => by
                rw [add_at]
                have hj' : ∃ y, bs[j]? = some y ∧ UInt8.ofNat y = x := by simpa using hj
                obtain ⟨y, y1, rfl⟩ := hj'
                have : (bs.map (fun x => Value.int .u8 (.ofNat x)))[j]? = some (.int .u8 (.ofNat y)) := by simp [y1]
                obtain ⟨a, a1, a2⟩ := j1.back this
                obtain ⟨w, w1, w2⟩ := hs.rel.cell hF q (getN_get eg j a a1)
                have hwv := bytes_one eb a1 w2 y1
                rw [show (0 : Nat) + (0 + j) = 0 + j by omega] at w1
                rw [w1, hwv]
                have := hb y (List.mem_of_getElem? y1)
                simp [Nat.mod_eq_of_lt this]
              have hle : (bs.map UInt8.ofNat).length ≤ cs.size := by
                have hlt : n - 1 < l.length := by rw [getN_len eg]; omega
                obtain ⟨w, w1, _⟩ := g3 _ _ (getN_get eg (n - 1) _ (List.getElem?_eq_getElem hlt))
                have := (Array.getElem?_eq_some_iff.1 w1).1
                simp only [List.length_map]
                omega
              have hr := Lib.run_unsafeString_row (P := P) s.W t it ty t' u1 (by simp [Program.cellsOf, i4, ← s4, beq_t h1]) b cs.size (by simp [World.shape?, g1]) (bs.map UInt8.ofNat) (by
                intro h
                have : bs.length = 0 := by simpa using congrArg List.length h
                omega) hle (by simp only [List.length_map]; omega) hcell
              have hG := hs.lo i hw
              have hlo := hs.rel.high i _ _ _ _ hG hF q
              obtain ⟨p1, p2⟩ := hs.put (i := i) (x := none) (U := s.W.freeze ⟨b, 0, none⟩ (bs.map UInt8.ofNat).length) (ob_eq (row_eq er)).1 hw (hs.rel.lose hF q (fun c hc => freeze_other _ _ _ _ hc) (Lib.below_freeze hs.rel.base hlo _))
              refine ⟨.string (sB bs), _, ?_, .str bs hb, p1, p2⟩
              have hlen' : (bs.map UInt8.ofNat).length = n := by simpa using hlen
              rw [← hlen']
              exact hr
            · cases e
          · cases e
        · cases e
      · cases e
    · cases e
  · cases e
end
end GrG
