/-
  Texts of one claim, merged.
-/
import Derived.Test.YtlflknfkenfpiaaGreatDoorR12
import Derived.Laws.MakeOwn
set_option linter.unusedSimpArgs false
set_option linter.unusedVariables false
namespace GrG
open Go Go.RowKit
section
variable {P : Program} {B : World} {E : Env} {cx : Cx} {M : Mem} {hi : Nat} {s : At} {L : T AV} {n : Nat} {a : Act}
theorem add_ptr {σ : Sg} {i o k b f z : Nat} (h : σ i = some (b, f, z)) : VRel σ (.ptr i (o + k)) (.pointer (some ((⟨b, f + o, none⟩ : Addr).add k))) := by
  rw [add_at, Nat.add_assoc]
  exact .ptr h
theorem oP_eq {i o : Nat} {r : AV} (e : oP i o = some r) : r = .ptr i o := by
  rw [oP, fN_eq] at e
  simp only [Option.some.injEq] at e
  exact e.symm
theorem efa_sound (hE : EnvOk P E) {t f : Nat} {x r : AV} {u : Value} (hx : VRel s.σ x u) (e : efa E t f x = some r) (w : World) : ∃ q, VRel s.σ r q ∧ (Instr.fieldAt t u f).run P w = .ok q w := by
  unfold efa at e
  split at e
  · split at e
    · next ty et =>
      split at e
      · next fs hk =>
        split at e
        · next off ft ef =>
          split at e
          · next fy efy =>
            split at e
            · cases e
            · next e0 =>
              have e := oP_eq e
              subst e
              cases hx
              next b g z hs =>
              obtain ⟨d, k1, r1⟩ := facts_und (hE.tys _ _ et)
              rw [k1] at hk
              obtain ⟨fields, rfl, rfl⟩ := tk_struct hk.symm
              rw [List.getElem?_map] at ef
              cases hf : fields.toList[f]? with
              | none => rw [hf] at ef; cases ef
              | some fl =>
                rw [hf] at ef
                simp only [Option.map_some, Option.some.injEq, Prod.mk.injEq] at ef
                obtain ⟨rfl, rfl⟩ := ef
                have hf' : fields[f]? = some fl := by simpa using hf
                have h0 := beq_f e0
                exact ⟨_, add_ptr hs, by simp [Instr.fieldAt, Instr.sureAddr, fieldPlace, Sem.run_bind, r1, hf', facts_size (hE.tys _ _ efy), h0]⟩
          · cases e
        · cases e
      · cases e
    · cases e
  · cases e
theorem epart_sound (hE : EnvOk P E) {t : Nat} {l : List AV} {vs : List Value} {off : Nat} {r : AV} (hl : LRel s.σ l vs) (e : epart E t l off = some r) (w : World) :
    ∃ q, VRel s.σ r q ∧ (part t vs.toArray off).run P w = .ok q w := by
  unfold epart at e
  split at e
  · next ty et =>
    have ht := hE.tys _ _ et
    split at e
    · next hg =>
      simp only [Option.some.injEq] at e
      subst e
      refine ⟨.agg ((vs.drop off).take ty.size).toArray, .agg ((hl.drop off).take _), ?_⟩
      simp only [part, Sem.run_bind, facts_agg ht, hg, Result.andThen_ok, if_true, facts_size ht]
      rw [run_pureS]
      congr 2
      apply Array.toList_inj.1
      simp [List.extract_eq_take_drop]
    · next hg =>
      obtain ⟨v, h1, h2⟩ := hl.get e
      exact ⟨v, h2, by simp [part, Sem.run_bind, facts_agg ht, hg, h1]⟩
  · cases e
theorem efld_sound (hE : EnvOk P E) {t f : Nat} {x r : AV} {u : Value} (hx : VRel s.σ x u) (e : efld E t f x = some r) (w : World) : ∃ q, VRel s.σ r q ∧ (Instr.field t u f).run P w = .ok q w := by
  unfold efld at e
  split at e
  · split at e
    · next ty et =>
      split at e
      · next fs hk =>
        split at e
        · next off ft ef =>
          cases hx
          next vs hl =>
          obtain ⟨d, k1, r1⟩ := facts_und (hE.tys _ _ et)
          rw [k1] at hk
          obtain ⟨fields, rfl, rfl⟩ := tk_struct hk.symm
          rw [List.getElem?_map] at ef
          cases hf : fields.toList[f]? with
          | none => rw [hf] at ef; cases ef
          | some fl =>
            rw [hf] at ef
            simp only [Option.map_some, Option.some.injEq, Prod.mk.injEq] at ef
            obtain ⟨rfl, rfl⟩ := ef
            have hf' : fields[f]? = some fl := by simpa using hf
            obtain ⟨q, h1, h2⟩ := epart_sound hE hl e w
            exact ⟨q, h1, by simp [Instr.field, asAgg, Sem.run_bind, r1, hf', h2]⟩
        · cases e
      · cases e
    · cases e
  · cases e
theorem sB_get {l : List Nat} {m x : Nat} (h : l[m]? = some x) : (sB l)[m]? = some (UInt8.ofNat x) := by
  have hm : m < l.length := (List.getElem?_eq_some_iff.1 h).1
  have hs : m < (sB l).size := by rw [sB_size]; exact hm
  rw [getElem?_pos (sB l) m hs]
  have := (List.getElem?_eq_some_iff.1 h).2
  congr 1
  show (sB l).data[m] = _
  simp [sB, this]
theorem eidx_sound (hE : EnvOk P E) {t : Nat} {x y r : AV} {u v : Value} (hx : VRel s.σ x u) (hy : VRel s.σ y v) (e : eidx E t x y = some r) (w : World) : ∃ q, VRel s.σ r q ∧ (Instr.index t u v).run P w = .ok q w := by
  unfold eidx at e
  split at e
  · split at e
    · next ty et =>
      split at e
      · next hk =>
        split at e
        · next x ex =>
          simp only [Option.some.injEq] at e
          subst e
          cases hy
          cases hx
          next m hl =>
          obtain ⟨d, k1, r1⟩ := facts_und (hE.tys _ _ et)
          rw [k1] at hk
          obtain rfl := tk_str hk.symm
          have hx := hl x (List.mem_of_getElem? ex)
          have h256 : (UInt8.ofNat x).toNat = x := by simp [UInt8.toNat_ofNat', Nat.mod_eq_of_lt hx]
          exact ⟨_, .int _ _, by simp [Instr.index, asIntOf, Sem.run_bind, r1, sB_get ex, h256]⟩
        · cases e
      · cases e
    · cases e
  · split at e
    · next ty et =>
      split at e
      · next k el hk =>
        split at e
        · next ey e1 e2 =>
          cases hy
          cases hx
          next hl =>
          obtain ⟨d, k1, r1⟩ := facts_und (hE.tys _ _ et)
          rw [k1] at hk
          obtain rfl := tk_array hk.symm
          obtain ⟨q, h1, h2⟩ := epart_sound hE hl e w
          have e1 := blt_t e1
          exact ⟨q, h1, by simp [Instr.index, asIntOf, Sem.run_bind, r1, e1, facts_size (hE.tys _ _ e2), show (part el _ (_ * ey.size)).run P w = _ from h2]⟩
        · cases e
      · cases e
    · cases e
  · cases e
theorem eia_sound (hE : EnvOk P E) {t : Nat} {x y r : AV} {u v : Value} (hx : VRel s.σ x u) (hy : VRel s.σ y v) (e : eia E t x y = some r) (w : World) : ∃ q, VRel s.σ r q ∧ (Instr.indexAt t u v).run P w = .ok q w := by
  unfold eia at e
  split at e
  · split at e
    · next ty et =>
      split at e
      · next el hk =>
        split at e
        · next ey e1 e2 =>
          split at e
          · next e3 =>
            have e := oP_eq e
            subst e
            cases hy
            cases hx
            next hs _ _ _ _ =>
            obtain ⟨d, k1, r1⟩ := facts_und (hE.tys _ _ et)
            rw [k1] at hk
            obtain rfl := tk_slice hk.symm
            have e3 := beq_t e3
            have e1 := blt_t e1
            refine ⟨_, add_ptr hs, ?_⟩
            simp [Instr.indexAt, asIntOf, Sem.run_bind, r1, e1, facts_size (hE.tys _ _ e2), e3]
          · cases e
        · cases e
      · cases e
    · cases e
  · split at e
    · next ty et =>
      split at e
      · next k el hk =>
        split at e
        · next ey e1 e2 =>
          have e := oP_eq e
          subst e
          cases hy
          cases hx
          next hs =>
          obtain ⟨d, k1, r1⟩ := facts_und (hE.tys _ _ et)
          rw [k1] at hk
          obtain rfl := tk_array hk.symm
          have e1 := blt_t e1
          refine ⟨_, add_ptr hs, ?_⟩
          simp [Instr.indexAt, Instr.sureAddr, asIntOf, Sem.run_bind, r1, e1, facts_size (hE.tys _ _ e2)]
        · cases e
      · cases e
    · cases e
  · cases e
theorem bound_run {k : IntKind} {m y : Nat} (h : m ≤ y) (c : BoundsCode) (w : World) : (Instr.sliceBound (.int k (.ofNat m)) y c).run P w = .ok m w := by
  have : (Int.ofNat m ≤ (y : Int)) := Int.ofNat_le.2 h
  simp [Instr.sliceBound, asIntOf, h]
theorem bounds_run {σ : Sg} {lo hi' : Option AV} {lv hv : Option Value} (h1 : ORl σ lo lv) (h2 : ORl σ hi' hv) {len cap l h : Nat} (e1 : bnd 0 lo = some l) (e2 : bnd len hi' = some h) (k1 : l ≤ h) (k2 : h ≤ cap) (b : Bool) (w : World) :
    (Instr.sliceBounds b len cap lv hv none).run P w = .ok (l, h, cap) w := by
  unfold Instr.sliceBounds
  cases h2 with
  | none =>
    simp only [bnd, Option.some.injEq] at e2
    subst e2
    cases h1 with
    | none =>
      simp only [bnd, Option.some.injEq] at e1
      subst e1
      rfl
    | some hv =>
      unfold bnd at e1
      split at e1
      · next q => cases q
      · next q =>
        cases q
        cases hv
        simp only [Option.some.injEq] at e1
        subst e1
        simp only [Sem.run_bind, run_pureS, Result.andThen_ok, bound_run k1]
      · cases e1
  | some hv2 =>
    unfold bnd at e2
    split at e2
    · next q => cases q
    · next q =>
      cases q
      cases hv2
      simp only [Option.some.injEq] at e2
      subst e2
      cases h1 with
      | none =>
        simp only [bnd, Option.some.injEq] at e1
        subst e1
        simp only [Sem.run_bind, run_pureS, Result.andThen_ok, bound_run k2]
      | some hv =>
        unfold bnd at e1
        split at e1
        · next q => cases q
        · next q =>
          cases q
          cases hv
          simp only [Option.some.injEq] at e1
          subst e1
          simp only [Sem.run_bind, run_pureS, Result.andThen_ok, bound_run k2, bound_run k1]
        · cases e1
    · cases e2
theorem sB_extract (s : List Nat) (l h : Nat) : (sB s).extract l h = sB ((s.take h).drop l) := ba_ext (by
  simp [sB, ByteArray.data_extract, List.extract_eq_take_drop, List.map_take, List.map_drop, List.drop_take])
theorem esl_sound (hE : EnvOk P E) {t : Nat} {x r : AV} {lo h' : Option AV} {u : Value} {lv hv : Option Value} (hx : VRel s.σ x u) (h1 : ORl s.σ lo lv) (h2 : ORl s.σ h' hv) (e : esl E t x lo h' = some r) (w : World) :
    ∃ q, VRel s.σ r q ∧ (Instr.sliceAt t u lv hv none).run P w = .ok q w := by
  unfold esl at e
  split at e
  · next ty et =>
    obtain ⟨d, k1, r1⟩ := facts_und (hE.tys _ _ et)
    rw [k1] at e
    split at e
    · next hk =>
      obtain rfl := tk_str hk.symm
      split at e
      · next l h el eh =>
        split at e
        · next e3 e4 =>
          simp only [Option.some.injEq] at e
          subst e
          obtain ⟨rfl, hs⟩ := hx.str_inv
          have hb := bounds_run (P := P) h1 h2 el eh (ble_t e3) (ble_t e4) false w
          exact ⟨_, .str _ (fun y hy => hs y (List.mem_of_mem_take (List.mem_of_mem_drop hy))), by
            simp only [Instr.sliceAt, Instr.slice, Sem.run_bind, r1, Result.andThen_ok, sB_size, Option.isSome_none, Bool.false_eq_true, if_false, hb, run_pureS, sB_extract]⟩
        · cases e
      · cases e
    · next el i o len cap ex es hk =>
      obtain rfl := tk_slice hk.symm
      split at e
      · next l h ey e1 e2 e3 =>
        obtain ⟨b, f, z, c, rfl, hs, q1, q2, q3, q4⟩ := hx.slice_inv
        split at e
        · next k2 k3 k4 k5 =>
          simp only [fN_eq, Option.some.injEq] at e
          subst e
          have k2 := beq_t k2
          have k3 := ble_t k3
          have k4 := ble_t k4
          have k5 := blt_t k5
          have hb := bounds_run (P := P) h1 h2 (cap := c) e1 e2 k3 (by omega) true w
          have hne : ¬ c = l := by omega
          refine ⟨.slice (some ((⟨b, f + o, none⟩ : Addr).add (l * es))) (h - l) (c - l), ?_, ?_⟩
          · rw [add_at, Nat.add_assoc]
            show VRel _ (.slice i (o + l * es) (h - l) (cap - l) ex es) _
            refine .slice hs (fun q => by have := q1 q; omega) (by omega) (by omega) fun q => ?_
            have := q4 q
            have : l * es + (c - l) * es = c * es := by rw [← Nat.add_mul]; congr 1; omega
            omega
          · simp only [Instr.sliceAt, Instr.slice, Sem.run_bind, r1, Result.andThen_ok, hb, facts_size (hE.tys _ _ e3), k2, hne, if_false, Option.map_some, run_pureS]
        · next k2 k3 k4 k5 =>
          split at e
          · simp only [fN_eq, Option.some.injEq] at e
            subst e
            have k2 := beq_t k2
            have k3 := ble_t k3
            have k4 := ble_t k4
            have k5 := blt_f k5
            obtain rfl := q1 rfl
            have he : c = l := by omega
            subst he
            have hb := bounds_run (P := P) h1 h2 (cap := c) e1 e2 k3 (by omega) true w
            refine ⟨.slice (some ⟨b, f + o, none⟩) (h - c) (c - c), ?_, ?_⟩
            · have e0 : c - c = 0 := by omega
              rw [e0]
              show VRel _ (.slice i o (h - c) 0 true es) _
              exact .slice hs (fun _ => rfl) (Nat.le_refl _) (by omega) (fun q => by cases q)
            · simp only [Instr.sliceAt, Instr.slice, Sem.run_bind, r1, Result.andThen_ok, hb, facts_size (hE.tys _ _ e3), if_true, run_pureS]
          · simp only [Option.some.injEq] at e
            subst e
            have k3 := ble_t k3
            have k4 := ble_t k4
            have k5 := blt_f k5
            have hh : h - l = 0 := by omega
            have hb := bounds_run (P := P) h1 h2 (cap := c) e1 e2 k3 (by omega) true w
            refine ⟨.slice (some (if c = l then ⟨b, f + o, none⟩ else (⟨b, f + o, none⟩ : Addr).add (l * ey.size))) (h - l) (c - l), ?_, ?_⟩
            · rw [hh]
              exact .emp _ _
            · simp only [Instr.sliceAt, Instr.slice, Sem.run_bind, r1, Result.andThen_ok, hb, facts_size (hE.tys _ _ e3), run_pureS]
              split <;> rfl
        · cases e
      · cases e
    · next el hk =>
      obtain rfl := tk_slice hk.symm
      split at e
      · next e1 e2 e3 =>
        simp only [Option.some.injEq] at e
        subst e
        cases hx
        have hb := bounds_run (P := P) h1 h2 (len := 0) (cap := 0) e1 e2 (Nat.le_refl _) (Nat.le_refl _) true w
        exact ⟨_, .nils, by simp only [Instr.sliceAt, Instr.slice, Sem.run_bind, r1, Result.andThen_ok, hb, facts_size (hE.tys _ _ e3), if_true, run_pureS]⟩
      · cases e
    · next n el i o hk =>
      obtain rfl := tk_array hk.symm
      split at e
      · next l h ey e1 e2 e3 =>
        obtain ⟨b, f, z, rfl, hs⟩ := hx.ptr_inv
        split at e
        · next k2 k3 k4 =>
          simp only [fN_eq, Option.some.injEq] at e
          subst e
          have k2 := ble_t k2
          have k3 := ble_t k3
          have k4 := blt_t k4
          have hb := bounds_run (P := P) h1 h2 (cap := n) e1 e2 k2 k3 false w
          have hne : ¬ n = l := by omega
          refine ⟨.slice (some ((⟨b, f + o, none⟩ : Addr).add (l * ey.size))) (h - l) (n - l), ?_, ?_⟩
          · rw [add_at, Nat.add_assoc]
            show VRel _ (.slice i (o + l * ey.size) (h - l) (n - l) true ey.size) _
            exact .slice hs (fun _ => rfl) (Nat.le_refl _) (by omega) (fun q => by cases q)
          · simp only [Instr.sliceAt, Instr.sureAddr, Sem.run_bind, r1, Result.andThen_ok, hb, facts_size (hE.tys _ _ e3), hne, if_false, run_pureS]
        · cases e
      · cases e
    · cases e
  · cases e
theorem LRel.set {σ : Sg} : ∀ {l : List AV} {vs : List Value} (_ : LRel σ l vs) (i : Nat) {a : AV} {v : Value}, VRel σ a v → LRel σ (l.set i a) (vs.set i v)
  | _, _, .nil, i, a, v, h => .nil
  | _, _, .cons x l, 0, a, v, h => .cons h l
  | _, _, .cons x l, i + 1, a, v, h => .cons x (l.set i h)
theorem setL_rel {σ : Sg} : ∀ {l : List AV} {vs : List Value} (_ : LRel σ l vs) {c : List AV} {cs : Array Value} (_ : LRel σ c cs.toList) (off k : Nat), LRel σ (setL c (off + k) l) ((vs.zipIdx k).foldl (fun cs (c, j) => cs.setIfInBounds (off + j) c) cs).toList
  | _, _, .nil, c, cs, hc, off, k => hc
  | _, _, .cons ha hl, c, cs, hc, off, k => by
    simp only [setL, List.zipIdx_cons, List.foldl_cons]
    have := setL_rel hl (c := c.set (off + k) _) (cs := cs.setIfInBounds (off + k) _) (by rw [Array.toList_setIfInBounds]; exact hc.set _ ha) off (k + 1)
    rwa [show off + k + 1 = off + (k + 1) by omega]
theorem efill_sound {σ : Sg} {place : Nat → Option (Nat × Nat)} : ∀ {l : List (Nat × AV)} {m : List (Nat × Value)} (_ : PRl σ l m) {c : List AV} {cs : Array Value} (_ : LRel σ c cs.toList) {r : List AV}, efill place c l = some r →
    ∃ rs, Instr.fill place cs m = some rs ∧ LRel σ r rs.toList
  | _, _, .nil, c, cs, hc, r, e => by
    simp only [efill, Option.some.injEq] at e
    subst e
    exact ⟨cs, rfl, hc⟩
  | _, _, .cons (i := i) (v := v) ha hl, c, cs, hc, r, e => by
    simp only [efill] at e
    split at e
    · next off size ep =>
      split at e
      · next e1 e2 e3 =>
        have h1 := beq_t e1
        have h2 := ble_t e2
        have hv := (ha.cells e3).length
        have hcl := hc.length
        obtain ⟨rs, q1, q2⟩ := efill_sound hl (setL_rel (ha.cells e3) hc off 0) e
        refine ⟨rs, ?_, q2⟩
        have k1 : v.cells.size = size := by simpa [h1] using hv.symm
        have k2 : ¬ cs.size < off + size := by
          have : c.length = cs.size := by simpa using hcl
          omega
        simp only [Instr.fill, ep, k1]
        rw [if_neg (by simp; omega)]
        rw [← q1]
        congr 1
        rw [← Array.foldl_toList, Array.toList_zipIdx]
      · cases e
    · cases e
theorem plc_sound (hE : EnvOk P E) : ∀ {fs : List Field} {r : List (Nat × Nat)}, plc E (fs.map fun f => (f.offset, f.type)) = some r → fs.mapM (fun f => (P.info? f.type).map fun i => (f.offset, i.size)) = some r
  | [], r, e => by
    simp only [List.map_nil, plc, Option.some.injEq] at e
    subst e
    rfl
  | f :: fs, r, e => by
    simp only [List.map_cons, plc] at e
    split at e
    · next ty m e1 e2 =>
      simp only [Option.some.injEq] at e
      subst e
      obtain ⟨d, g, v, _, q2, _, _, _, q6, _⟩ := facts_all (hE.tys _ _ e1)
      simp [List.mapM_cons, q2, plc_sound hE e2, q6]
    · cases e
theorem ebuild_sound (hE : EnvOk P E) {t : Nat} {l : List (Nat × AV)} {m : Array (Nat × Value)} (hl : PRl s.σ l m.toList) {r : AV} (e : ebuild E t l = some r) (w : World) :
    ∃ q, VRel s.σ r q ∧ (Instr.build t m).run P w = .ok q w := by
  unfold ebuild at e
  split at e
  · next ty et =>
    obtain ⟨d, f, v, q1, q2, q3, q4, q5, q6, q7⟩ := facts_all (hE.tys _ _ et)
    have hz := ofL_rel (σ := s.σ) q4
    split at e
    · next fs hk =>
      rw [q5] at hk
      obtain ⟨fields, rfl, rfl⟩ := tk_struct hk.symm
      split at e
      · next places ep =>
        split at e
        · next r' er =>
          simp only [Option.some.injEq] at e
          subst e
          obtain ⟨rs, k1, k2⟩ := efill_sound hl hz er
          refine ⟨.agg rs, ?_, run_build w t m rs ?_⟩
          · have := VRel.agg k2
            simpa using this
          · unfold Program.built
            rw [q2, q1]
            simp only [q3, plc_sound hE ep]
            rw [← k1]
            congr 1
            funext i
            simp
        · cases e
      · cases e
    · next k el hk =>
      rw [q5] at hk
      obtain rfl := tk_array hk.symm
      split at e
      · next ey ee =>
        split at e
        · next r' er =>
          simp only [Option.some.injEq] at e
          subst e
          obtain ⟨d', f', v', _, p2, _, _, _, p6, _⟩ := facts_all (hE.tys _ _ ee)
          obtain ⟨rs, k1, k2⟩ := efill_sound hl hz er
          refine ⟨.agg rs, ?_, run_build w t m rs ?_⟩
          · have := VRel.agg k2
            simpa using this
          · unfold Program.built
            rw [q2, q1]
            simp only [q3, p2, ← p6]
            exact k1
        · cases e
      · cases e
    · cases e
  · cases e
theorem LRel.of {σ : Sg} : ∀ {l : List AV} {vs : List Value}, l.length = vs.length → (∀ (i : Nat) (a : AV) (v : Value), l[i]? = some a → vs[i]? = some v → VRel σ a v) → LRel σ l vs
  | [], [], _, _ => .nil
  | a :: l, v :: vs, hl, h => .cons (h 0 a v rfl rfl) (LRel.of (by simpa using hl) fun i x y hx hy => h (i + 1) x y (by simpa using hx) (by simpa using hy))
theorem zmk_rel {σ : Sg} {z : List AV} {zc : Array Value} (h : LRel σ z zc.toList) {size n : Nat} (hs : zc.size = size) (h0 : n = 0 ∨ 0 < size) : LRel σ (zmk z size n) (madeCells zc n).toList := by
  refine LRel.of (by simp [zmk, madeCells]) fun i a v ha hv => ?_
  have hi : i < n := by
    have := (List.getElem?_eq_some_iff.1 ha).1
    simpa [zmk] using this
  have hz : z.length = size := by rw [h.length, ← hs]; simp
  have hm : i % size < size := Nat.mod_lt _ (by omega)
  have e1 : z[i % size]? = some (z[i % size]'(by omega)) := List.getElem?_eq_getElem _
  obtain ⟨u, h1, h2⟩ := h.get e1
  have ea : a = z[i % size]'(by omega) := by
    have := ha
    simp only [zmk, List.getElem?_map, List.getElem?_range hi, Option.map_some, Option.some.injEq] at this
    rw [← this]
    simp [List.getD_eq_getElem?_getD, e1]
  have ev : v = u := by
    have h1' : zc[i % size]? = some u := by simpa using h1
    have := hv
    simp only [madeCells, Array.toList_map, List.getElem?_map, Array.toList_range, List.getElem?_range hi, Option.map_some, Option.some.injEq, hs] at this
    rw [← this]
    simp [getElem!_def, h1']
  rw [ea, ev]
  exact h2
end
end GrG
