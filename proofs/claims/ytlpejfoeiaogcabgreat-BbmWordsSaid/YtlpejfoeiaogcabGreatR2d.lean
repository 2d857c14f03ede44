/-
  A MACHINE FOR CLOSED CALLS (second form), 2d: drawn regions, whatever the order. No program in sight.
-/
import Derived.Test.YtlpejfoeiaogcabGreatR2c
set_option linter.unusedSimpArgs false
set_option linter.unusedVariables false
namespace GrG
open Go Go.RowKit
section
variable {P : Program} {B : World} {E : Env} {self : Self} {n : Nat} {ops : Array Oper} {ol : List Oper} {Ls : Nat → T AV} {Ms : Nat → Mem} {Rz : Nat → Rec} {cx : Cx} {hi : Nat} {s0 s : At} {M M' : Mem} {L : T AV} {a : Act}
theorem evOne_ok (ro : Option Nat) (hE : EnvOk P E) (hS : SelfOk P B E self) (hs : Is B E.ng cx M hi s) (hL : Loc s.σ L n a) {o : Oper} {Q : Exit → Act → World → Prop} {K : Act → World → Prop} (h : (evOne E self n ops L M o).All (Nx B E.ng cx M hi s o a K)) :
    if Region.wanted o (yielded ops a.tmps) = true then o.wpIn (fw ro) 0 P a s.W K Q else (∀ f, o.about P s.W a.eval = some f → (fw ro).fn f) ∧ K (a.put o.dst undef) s.W := by
  unfold evOne at h
  split at h
  · next ew =>
    rw [ewant_sound hL ew]
    exact evOp_ok ro hE hS hs hL h
  · next ew =>
    rw [ewant_sound hL ew]
    refine ⟨fun _ _ => trivial, ?_⟩
    exact (h.all _ _ ⟨rfl, rfl⟩).2.2 s undef hs .refl (.tup .nil)
  · exact absurd rfl h.is
theorem wpOp_of {ro : Option Nat} {o : Oper} {i : Nat} {w : World} {Q : Exit → Act → World → Prop} {K : Act → World → Prop} (ho : ops[i]? = some o) (h : if Region.wanted o (yielded ops a.tmps) = true then o.wpIn (fw ro) 0 P a w K Q else (∀ f, o.about P w a.eval = some f → (fw ro).fn f) ∧ K (a.put o.dst undef) w) : wpOpIn (fw ro) 0 P ops Q i K a w := by
  unfold wpOpIn
  rw [ho]
  exact h
theorem Trc.ord (h : Trc B E self n ops ol Ls Ms Rz cx hi s0) {D : Nat → Prop} {j : Nat} (hd : Down ol D j) {t : Nat} (hn : t ∉ hidden n ol (bits ol) j) : ∀ k o', ol[k]? = some o' → dstOf n o' = some t → (D k ↔ k < j) := fun k o' hk hdst => by
  by_cases hne : k = j
  · subst hne
    exact ⟨fun q => absurd q hd.no, fun q => by omega⟩
  · cases ho : ordered (bits ol) k j with
    | true => exact hd.iff h.bk ho
    | false => exact absurd (hidden_mem hk hne ho hdst) hn
theorem dst_of {o : Oper} (h : isDfr o.op = false) : dstOf n o = o.dst := by
  unfold dstOf
  split
  · next c hop => rw [hop] at h; cases h
  · rfl
theorem dst_dfr {o : Oper} (h : isDfr o.op = true) : dstOf n o = some n := by
  unfold dstOf
  split
  · rfl
  · next hne =>
    unfold isDfr at h
    split at h
    · next hop => exact absurd hop (hne _)
    · cases h
theorem okOp_none {hid : List Nat} {o : Oper} (h : okOp hid n o = true) (hd : isDfr o.op = true) : o.dst = none := by
  unfold okOp at h
  cases e : o.dst with
  | none => rfl
  | some d => rw [hd, e] at h; cases h
/-- a value is laid -/
theorem Inv.value (h : Trc B E self n ops ol Ls Ms Rz cx hi s0) (hS : SelfOk P B E self) {D : Nat → Prop} {s' : At} (hI : Inv B E n ol Ls Ms Rz cx hi s0 D s a) {j : Nat} {o : Oper} (hj : ol[j]? = some o) (hd : Down ol D j) {v : AV} {q : Value} (hp : putL (Ls j) n o.dst v = some (Ls (j + 1)))
    (le : s.σ.le s'.σ) (rel : RelM B E.ng s'.σ s'.F s'.W) (m1 : ∀ i, touch Ms Rz j i → s'.F i = (Ms (j + 1)).objs.get i) (m2 : ∀ i, ¬ touch Ms Rz j i → s'.F i = s.F i ∧ s'.σ i = s.σ i) (hv : VRel s'.σ v q) :
    Inv B E n ol Ls Ms Rz cx hi s0 (fun k => D k ∨ k = j) s' (a.put o.dst q) := by
  have hjl := some_lt hj
  have hok := h.ok j o hj
  cases hdf : isDfr o.op with
  | true =>
    have hdn := okOp_none hok hdf
    have hdd := dst_dfr (n := n) hdf
    rw [hdn] at hp ⊢
    have hLL : Ls (j + 1) = Ls j := by
      simp only [putL, Option.some.injEq] at hp
      exact hp.symm
    refine hI.step h hS hj hd le rel m1 m2 hI.size (fun t x ht hx => ?_) (fun t _ => rfl) (fun ht => ?_) (fun _ => rfl)
    · rw [hLL] at hx
      exact (hI.val t j x (by omega) (h.ord hd (okOp_dst hok ht)) hx).mono le
    · rw [hLL]
      exact (hI.dfr j (by omega) (h.ord hd (okOp_dst hok ht))).mono le
  | false =>
    have hdd := dst_of (n := n) hdf
    refine hI.step h hS hj hd le rel m1 m2 (by rw [put_size]; exact hI.size) (fun t x ht hx => ?_) (fun t ht => ?_) (fun ht => ?_) (fun _ => put_dfr)
    · rw [hdd] at ht
      rw [ht] at hp ⊢
      simp only [putL] at hp
      split at hp
      · next e1 =>
        simp only [Option.some.injEq] at hp
        rw [← hp, T.get_set_eq] at hx
        cases hx
        rw [put_tmps_self hI.size (blt_t e1)]
        exact hv
      · cases hp
    · rw [hdd] at ht
      cases ed : o.dst with
      | none => rfl
      | some d =>
        refine put_tmps_ne ?_
        rintro rfl
        exact ht ed
    · rw [hdd] at ht
      rw [ht] at hp
      simp only [putL] at hp
      split at hp
      · next e1 => exact absurd (blt_t e1) (Nat.lt_irrefl _)
      · cases hp
/-- the numbers an operation may touch -/
def cxOf (M M' : Mem) : Cx where
  vis := fun i => i ∈ M'.rd ∨ i ∈ M'.wr ∨ M.next ≤ i
  wok := fun i => i ∈ M'.wr ∨ M.next ≤ i
  lo := M.next
  own := fun _ h => .inr h
  seen := fun _ h => .inr h
theorem Trc.is (h : Trc B E self n ops ol Ls Ms Rz cx hi s0) (hS : SelfOk P B E self) {D : Nat → Prop} (hI : Inv B E n ol Ls Ms Rz cx hi s0 D s a) {j : Nat} {o : Oper} (hj : ol[j]? = some o) (hd : Down ol D j) (hr : Rz j = evD.mkRec j (Ms j) (Ms (j + 1))) :
    Is B E.ng (cxOf (Ms j) (Ms (j + 1))) (Ms j).fresh (Ms (j + 1)).next s := by
  have h0 := h.hs
  have hjl := some_lt hj
  have m := h.mono hS (Nat.zero_le j) (by omega)
  have m1 := h.mono hS (show j ≤ j + 1 by omega) (by omega)
  have rdi : ∀ i, i ∈ (Ms (j + 1)).rd ∨ i ∈ (Ms (j + 1)).wr → i < (Ms j).next → i ∈ (Rz j).rd := fun i q hlt => by
    rw [hr]
    exact once_leaf (lows_mem.2 ⟨List.mem_append.2 q.symm, hlt⟩)
  refine ⟨hI.rel, fun i hv hlt => ?_, fun i h1 h2 => hI.own j hjl hd.no i h1 h2, fun i hw => ?_, Nat.le_trans h0.gl m, m1, fun g hg => ?_, h.tops hS (by omega), Nat.le_refl _⟩
  · have hlt : i < (Ms j).next := hlt
    have hrd : i ∈ (Rz j).rd := by
      rcases hv with hv | hv | hv
      · exact rdi i (.inl hv) hlt
      · exact rdi i (.inr hv) hlt
      · omega
    refine hI.mem i j (by omega) (fun k hk ht => ?_) ?_ hlt
    · by_cases hne : k = j
      · subst hne
        exact ⟨fun q => absurd q hd.no, fun q => by omega⟩
      · cases ho : ordered (bits ol) k j with
        | true => exact hd.iff h.bk ho
        | false => exact absurd hrd (h.sep hS hk hjl hne ho ht)
    · by_cases q : i < (Ms 0).next
      · exact .inl (h.look j o hj i hrd q)
      · exact .inr (by omega)
  · have hgl := h0.gl
    by_cases q : i < (Ms 0).next
    · rcases hw with hw | hw
      · refine h0.lo i (h.wrk j o hj i ?_ q)
        rw [hr]
        exact once_leaf (lows_mem.2 ⟨hw, by omega⟩)
      · omega
    · omega
  · obtain ⟨z, hz⟩ := h0.gb g hg
    exact ⟨z, hI.to.le _ _ hz⟩
theorem Trc.rd (h : Trc B E self n ops ol Ls Ms Rz cx hi s0) (h0 : (Ls 0).get n = some .rd) : ∀ {j : Nat}, j ≤ ol.length → (Ls j).get n = some .rd := by
  intro j
  induction j with
  | zero => intro _; exact h0
  | succ j ih =>
    intro hj
    obtain ⟨o, ho⟩ := lt_some (ol := ol) (k := j) (by omega)
    have := ih (by omega)
    cases h.stp j o ho with
    | soft e hi' hr hp hM => rw [putL_rd hp]; exact this
    | hard e hr hp => rw [putL_rd hp]; exact this
    | dfr e hd ho' hr hp => exact putD_rd hp this
theorem softLook_eq {o : Oper} {v : AV} {i : Nat} {f : Mem → Bool} (e : softLook E L M o = some (v, i, f)) : mapsOn = true ∧ ∃ t x y k z ky, o.op = .lookup t x y false ∧ o.guard = none ∧ mtys E t = some (z, ky) ∧ aev x E L = some (.map i) ∧ aev y E L = some k ∧ pkey ky k = true ∧ peek z i k M = some v ∧ ∀ M', f M' = true → peek z i k M' = some v := by
  obtain ⟨hm, e⟩ := mp_some e
  unfold softLookM at e
  split at e
  · next t x y e1 e2 =>
    split at e
    · next z ky i' k f1 f2 f3 =>
      split at e
      · next v' g1 g2 =>
        simp only [Option.some.injEq, Prod.mk.injEq] at e
        obtain ⟨rfl, rfl, rfl⟩ := e
        refine ⟨hm, t, x, y, k, z, ky, e1, e2, f1, f2, f3, g1, g2, fun M' hf => ?_⟩
        simp only at hf
        split at hf
        · next w hw => rw [hw, eqa_eq hf]
        · cases hf
      · cases e
    · cases e
  · cases e
theorem peek_lookup (hm : mapsOn = true) {t i : Nat} {k z v : AV} {ky : TyI} (e1 : mtys E t = some (z, ky)) (e2 : pkey ky k = true) (e3 : peek z i k M = some v) : elookup E M t (.map i) k false = some (v, M.saw i) := by
  unfold peek at e3
  unfold elookup
  simp only [e1, e2]
  split at e3
  · next es ck em =>
    simp only [em]
    split at e3
    · next e he => cases e3; simp only [he]
    · next he => cases e3; simp only [he]
    · cases e3
  · cases e3
/-- who wrote it last -/
theorem Trc.latest (h : Trc B E self n ops ol Ls Ms Rz cx hi s0) (hS : SelfOk P B E self) {D : Nat → Prop} {j : Nat} (hjl : j < ol.length) (hd : Down ol D j) {i : Nat} (hearly : ∀ k, k < j → touch Ms Rz k i → D k) (hnot : ¬ touch Ms Rz j i) :
    (∀ k, k < ol.length → touch Ms Rz k i → (D k ↔ k < j)) ∨ ∃ K, j < K ∧ K < ol.length ∧ D K ∧ touch Ms Rz K i ∧ ∀ k, k < ol.length → touch Ms Rz k i → (D k ↔ k < K + 1) := by
  have main : ∀ m, m ≤ ol.length → (∀ k, k < m → touch Ms Rz k i → j < k → ¬ D k) ∨ ∃ K, j < K ∧ K < m ∧ D K ∧ touch Ms Rz K i ∧ ∀ k, K < k → k < m → touch Ms Rz k i → ¬ D k := by
    intro m
    induction m with
    | zero => intro _; exact .inl fun k hk => by omega
    | succ m ih =>
      intro hm
      by_cases q : touch Ms Rz m i ∧ j < m ∧ D m
      · exact .inr ⟨m, q.2.1, by omega, q.2.2, q.1, fun k h1 h2 => by omega⟩
      · rcases ih (by omega) with h1 | ⟨K, h1, h2, h3, h4, h5⟩
        · refine .inl fun k hk ht hjk hD => ?_
          by_cases e : k = m
          · subst e; exact q ⟨ht, hjk, hD⟩
          · exact h1 k (by omega) ht hjk hD
        · refine .inr ⟨K, h1, by omega, h3, h4, fun k h6 h7 ht hD => ?_⟩
          by_cases e : k = m
          · subst e; exact q ⟨ht, by omega, hD⟩
          · exact h5 k h6 (by omega) ht hD
  have lowD : ∀ k, touch Ms Rz k i → k < j → D k := fun k ht hlt => hearly k hlt ht
  rcases main ol.length (Nat.le_refl _) with h1 | ⟨K, h1, h2, h3, h4, h5⟩
  · refine .inl fun k hk ht => ⟨fun hD => ?_, fun hlt => lowD k ht hlt⟩
    rcases Nat.lt_trichotomy k j with q | q | q
    · exact q
    · subst q; exact absurd ht hnot
    · exact absurd hD (h1 k hk ht q)
  · refine .inr ⟨K, h1, h2, h3, h4, fun k hk ht => ⟨fun hD => ?_, fun hlt => ?_⟩⟩
    · rcases Nat.lt_or_ge K k with q | q
      · exact absurd hD (h5 k q hk ht)
      · omega
    · by_cases e : k = K
      · subst e; exact h3
      · have ho := h.both hS hk h2 e ht h4
        unfold ordered at ho
        rw [Bool.or_eq_true] at ho
        rcases ho with ho | ho
        · have := bits_lt h.bk _ _ ho
          omega
        · exact hd.dc K k h3 ho
theorem op_step (ro : Option Nat) (hE : EnvOk P E) (hS : SelfOk P B E self) (h : Trc B E self n ops ops.toList Ls Ms Rz cx hi s0) (hrd : ro ≠ none → (Ls 0).get n = some .rd) {D : Nat → Prop} (hI : Inv B E n ops.toList Ls Ms Rz cx hi s0 D s a) {j : Nat} {o : Oper} (hj : ops[j]? = some o) (hd : Down ops.toList D j)
    {Q : Exit → Act → World → Prop} {K : Act → World → Prop} (hK : ∀ s' a', Inv B E n ops.toList Ls Ms Rz cx hi s0 (fun k => D k ∨ k = j) s' a' → K a' s'.W) : wpOpIn (fw ro) 0 P ops Q j K a s.W := by
  have hj' : ops.toList[j]? = some o := by rw [Array.getElem?_toList]; exact hj
  have hjl := some_lt hj'
  have hloc := hI.loc h hj' hd
  have hst := h.stp j o hj'
  have m1 := h.mono hS (show j ≤ j + 1 by omega) (by omega)
  cases hst with
  | hard e hr hp =>
    have his := h.is hS hI hj' hd hr
    refine wpOp_of hj (evOne_ok ro hE hS his hloc ?_)
    rw [e]
    refine .one ⟨⟨fun i q => .inl q, fun i q => .inl q⟩, Nat.le_refl _, fun s' q q1 q2 q3 => hK s' _ (hI.value h hS hj' hd hp q2.le q1.rel (fun i ht => ?_) (fun i ht => ?_) q3)⟩
    · rcases ht with ht | ht
      · have hlt := (h.stp j o hj').rd_lt ((h.stp j o hj').wr_rd ht)
        rw [hr] at ht
        exact q1.vis i (.inr (.inl (lows_mem.1 (once_sub ht)).1)) (by omega)
      · exact q1.vis i (.inr (.inr ht.1)) ht.2
    · refine q2.keep i ?_
      by_cases hlt : i < (Ms j).next
      · refine .inl ⟨fun hw => ?_, hlt⟩
        rcases hw with hw | hw
        · refine ht (.inl ?_)
          rw [hr]
          exact once_leaf (lows_mem.2 ⟨hw, hlt⟩)
        · omega
      · right
        rcases Nat.lt_or_ge i (Ms (j + 1)).next with q | q
        · exact absurd (.inr ⟨by omega, q⟩) ht
        · exact q
  | dfr e hdf ho hr hp =>
    have his := h.is hS hI hj' hd hr
    have hro : ro = none := by
      cases ro with
      | none => rfl
      | some r =>
        have := h.rd (hrd (by simp)) (show j ≤ ops.toList.length by omega)
        unfold putD at hp
        rw [this] at hp
        cases hp
    subst hro
    have hM := evOne_dfr_gr hdf e
    have hdd := dst_dfr (n := n) hdf
    have hnh := okOp_dst (h.ok j o hj') hdd
    unfold evOne at e
    split at e
    · next ew =>
      obtain ⟨_, q, q1, q2⟩ := evDefer_ok his hloc hdf e
      refine wpOp_of hj ?_
      rw [ewant_sound hloc ew]
      refine q2 _ _ ?_
      rw [ho]
      have hnt : ∀ i, ¬ touch Ms Rz j i := fun i ht => by
        rcases ht with ht | ht
        · rw [hr] at ht
          have := (lows_mem.1 (once_sub ht)).1
          rw [hM] at this
          cases this
        · have h2 := ht.2
          have : (Ms (j + 1)).next = (Ms j).next := by rw [hM]; rfl
          omega
      refine hK s _ (hI.step h hS hj' hd (.refl _) hI.rel (fun i ht => absurd ht (hnt i)) (fun i _ => ⟨rfl, rfl⟩) hI.size (fun t x ht hx => ?_) (fun t _ => rfl) (fun _ => ?_) (fun hne => absurd hdd hne))
      · rw [hdd] at ht
        cases ht
        unfold putD at hp
        split at hp
        · rw [Option.some.injEq] at hp
          rw [← hp, T.get_set_eq] at hx
          cases hx
          exact .dl _ _
        · rw [Option.some.injEq] at hp
          rw [← hp, T.get_set_eq] at hx
          cases hx
          exact .dl _ _
        · cases hp
      · have hg := hideL_get (L := Ls j) hnh (n := n)
        unfold putD at hp
        split at hp
        · next e0 =>
          rw [Option.some.injEq] at hp
          have := (q1 _ (by unfold putD; rw [hg, e0])).dfr
          rw [T.get_set_eq] at this
          rw [← hp, T.get_set_eq]
          exact this
        · next e0 =>
          rw [Option.some.injEq] at hp
          have := (q1 _ (by unfold putD; rw [hg, e0])).dfr
          rw [T.get_set_eq] at this
          rw [← hp, T.get_set_eq]
          exact this
        · cases hp
    · cases e
    · cases e
  | soft e hi' hr hp hM =>
    obtain ⟨hm, t, x, y, k, z, ky, hop, hg, f1, f2, f3, f4, f5, f6⟩ := softLook_eq e
    rename_i v i f
    have hnt : ∀ i, ¬ touch Ms Rz j i := fun i ht => by
      rcases ht with ht | ht
      · rw [hr] at ht
        cases ht
      · rw [hM] at ht
        omega
    have hsoft : (Rz j).soft = some (i, f) := by rw [hr]
    have htouch_lo : ∀ k, k < j → touch Ms Rz k i → D k := fun k hk ht => by
      cases ho : ordered (bits ops.toList) k j with
      | true => exact (hd.iff h.bk ho).2 hk
      | false =>
        exfalso
        have ha := (h.ap j o hj' k hk (by rw [ordered_comm]; exact ho)).late i f hsoft
        obtain ⟨ok, eok⟩ := lt_some (ol := ops.toList) (k := k) (by omega)
        rcases ht with ht | ht
        · exact ha.1 ht
        · rw [(h.stp k ok eok).rlo, (h.stp k ok eok).rhi] at ha
          exact ha.2 ht
    have hvis : cx.vis i ∨ (Ms 0).next ≤ i := by
      by_cases q : i < (Ms 0).next
      · exact .inl (h.soft j o hj' i f hsoft q)
      · exact .inr (by omega)
    -- the memory that it sees
    have main : ∃ Mx : Mem, s.F i = Mx.objs.get i ∧ i < Mx.next ∧ (∀ i, Mx.next ≤ i → Mx.objs.get i = none) ∧ (Ms 0).next ≤ Mx.next ∧ peek z i k Mx = some v := by
      rcases h.latest hS hjl hd htouch_lo (hnt i) with hq | ⟨K, k1, k2, k3, k4, k5⟩
      · exact ⟨Ms j, hI.mem i j (by omega) hq hvis hi', hi', h.tops hS (by omega), h.mono hS (Nat.zero_le _) (by omega), f5⟩
      · obtain ⟨oK, eK⟩ := lt_some (ol := ops.toList) (k := K) k2
        have mm := h.mono hS (show j ≤ K by omega) (by omega)
        have mm2 := h.mono hS (show K ≤ K + 1 by omega) (by omega)
        have hun : ordered (bits ops.toList) K j = false := by
          cases ho : ordered (bits ops.toList) K j with
          | false => rfl
          | true =>
            have := (hd.iff h.bk ho).1 k3
            omega
        have ha := (h.ap K oK eK j k1 hun).soft i f hsoft
        have hw : i ∈ (Rz K).wr := by
          rcases k4 with k4 | k4
          · exact k4
          · omega
        exact ⟨Ms (K + 1), hI.mem i (K + 1) (by omega) k5 hvis (by omega), by omega, h.tops hS (by omega), h.mono hS (Nat.zero_le _) (by omega), f6 _ (ha hw)⟩
    obtain ⟨Mx, x1, x2, x3, x4, x5⟩ := main
    have hgl := h.hs.gl
    let cs : Cx := { vis := fun i' => i' = i ∨ Mx.next ≤ i', wok := fun i' => Mx.next ≤ i', lo := Mx.next, own := fun _ h => h, seen := fun _ h => .inr h }
    have his : Is B E.ng cs Mx.fresh Mx.next s := ⟨hI.rel, fun i' hv hlt => by
        have hlt : i' < Mx.next := hlt
        rcases hv with rfl | hv
        · exact x1
        · exact absurd hlt (by omega), fun i' h1 h2 => by
        have h1 : Mx.next ≤ i' := h1
        omega, fun i' hw => by
        have hw : Mx.next ≤ i' := hw
        omega, Nat.le_trans hgl x4, Nat.le_refl _, fun g hg => by
        obtain ⟨z, hz⟩ := h.hs.gb g hg
        exact ⟨z, hI.to.le _ _ hz⟩, x3, Nat.le_refl _⟩
    have hx := hloc.val
    have r1 : VRel s.σ (.map i) (a.eval x) := aev_rel hloc his f2
    have r2 : VRel s.σ k (a.eval y) := aev_rel hloc his f3
    have hpk : peek z i k Mx.fresh = some v := x5
    have hlog : LogOk cs (Mx.fresh.saw i) := by
      refine ⟨fun i' hi' => ?_, fun i' hi' => ?_⟩
      · rcases List.mem_cons.1 hi' with rfl | hi'
        · exact .inl rfl
        · cases hi'
      · cases hi'
    obtain ⟨q, q1, q2⟩ := elookup_sound (P := P) hE his r1 r2 (peek_lookup hm f1 f4 hpk) hlog
    refine wpOp_of hj ?_
    have hw : Region.wanted o (yielded ops a.tmps) = true := by unfold Region.wanted; rw [hg]
    rw [if_pos hw]
    refine op_val (fun c q => by rw [hop] at q; cases q) (q := q) (W' := s.W) ?_ (hK s _ (hI.value h hS hj' hd hp (.refl _) hI.rel (fun i ht => absurd ht (hnt i)) (fun i _ => ⟨rfl, rfl⟩) q1))
    have he : execOp a.eval o = (do pure (.value (← Instr.lookup t (a.eval x) (a.eval y) false))) := by simp only [execOp, hop]
    rw [he, Sem.run_bind, q2, Result.andThen_ok]
    rfl
/-! All of them, in whatever order. -/
def cnt (f : Nat → Bool) : Nat → Nat
  | 0 => 0
  | k + 1 => cnt f k + (if f k = true then 0 else 1)
theorem cnt_same {f g : Nat → Bool} : ∀ {N : Nat}, (∀ k, k < N → g k = f k) → cnt g N = cnt f N
  | 0, _ => rfl
  | N + 1, h => by
    simp only [cnt]
    rw [cnt_same fun k hk => h k (by omega), h N (by omega)]
theorem cnt_set {f g : Nat → Bool} {j : Nat} (h1 : ∀ k, k ≠ j → g k = f k) (h2 : f j = false) (h3 : g j = true) : ∀ {N : Nat}, j < N → cnt g N + 1 = cnt f N
  | 0, h => by omega
  | N + 1, h => by
    simp only [cnt]
    by_cases q : j = N
    · subst q
      rw [cnt_same (g := g) (f := f) fun k hk => h1 k (by omega), h2, h3]
      simp
    · have := cnt_set h1 h2 h3 (N := N) (by omega)
      rw [h1 N (Ne.symm q)]
      omega
theorem cnt_all {f : Nat → Bool} : ∀ {N : Nat}, cnt f N = 0 → ∀ k, k < N → f k = true
  | 0, _, k, hk => by omega
  | N + 1, h, k, hk => by
    simp only [cnt] at h
    by_cases q : k = N
    · subst q
      cases e : f k with
      | true => rfl
      | false => rw [e] at h; simp at h
    · exact cnt_all (N := N) (by omega) k (by omega)
theorem cnt_le {f : Nat → Bool} : ∀ {N : Nat}, cnt f N ≤ N
  | 0 => Nat.le_refl _
  | N + 1 => by
    simp only [cnt]
    have := cnt_le (f := f) (N := N)
    split <;> omega
/-- nothing is left: all was listed -/
theorem ready_all {listed : Array Bool} (hb : backs ops.toList = true) (h : Region.ready .any ops listed = []) (hz : listed.size = ops.size) : ∀ k, k < ops.size → listed.getD k false = true := by
  intro k
  induction k using Nat.strongRecOn with
  | _ k ih =>
    intro hk
    cases e : listed.getD k false with
    | true => rfl
    | false =>
      exfalso
      have ho : ops[k]? = some ops[k] := Array.getElem?_eq_getElem hk
      have : k ∈ Region.ready .any ops listed := by
        refine mem_ready.2 ⟨?_, _, ho, fun e' he' hbd => ?_⟩
        · rw [Array.getD_eq_getD_getElem?] at e ⊢
          have hl : k < listed.size := by omega
          rw [Array.getElem?_eq_getElem hl] at e ⊢
          exact e
        · have hlt := backs_t hb (k := k) (o := ops[k]) (by rw [Array.getElem?_toList]; exact ho) (Array.mem_def.1 he') hbd
          exact ih e'.on hlt (by omega)
      rw [h] at this
      cases this
theorem any_ok (ro : Option Nat) (hE : EnvOk P E) (hS : SelfOk P B E self) (h : Trc B E self n ops ops.toList Ls Ms Rz cx hi s0) (hrd : ro ≠ none → (Ls 0).get n = some .rd) {Q : Exit → Act → World → Prop}
    (hQ : ∀ s a, Is B E.ng cx (Ms ops.size).fresh hi s → To cx (Ms 0).next hi s0 s → Loc s.σ (Ls ops.size) n a → Q .normal a s.W) : ∀ (fuel : Nat) (listed : Array Bool) (s : At) (a : Act), listed.size = ops.size → cnt (fun k => listed.getD k false) ops.size ≤ fuel →
    (∀ k p, listed.getD k false = true → Nat.testBit ((bits ops.toList).getD k 0) p = true → listed.getD p false = true) → Inv B E n ops.toList Ls Ms Rz cx hi s0 (fun k => listed.getD k false = true) s a → wpAnyIn (fw ro) 0 P .any ops Q fuel listed a s.W := by
  have hlen : ops.toList.length = ops.size := by simp
  have done : ∀ (listed : Array Bool) (s : At) (a : Act), Inv B E n ops.toList Ls Ms Rz cx hi s0 (fun k => listed.getD k false = true) s a → (∀ k, k < ops.size → listed.getD k false = true) → Q .normal a s.W := fun listed s a hI hall => by
    obtain ⟨k1, k2⟩ := hI.fin h hS (M' := (Ms ops.size).fresh) (fun k hk => hall k (by omega)) (by rw [hlen]; rfl) (by rw [hlen]; rfl)
    rw [hlen] at k2
    exact hQ s a k1 hI.to k2
  intro fuel
  induction fuel with
  | zero =>
    intro listed s a hz hc hdc hI
    have hall := cnt_all (Nat.le_zero.1 hc)
    refine ⟨?_, done listed s a hI hall⟩
    cases hr : Region.ready .any ops listed with
    | nil => rfl
    | cons j l =>
      exfalso
      have hj : j ∈ Region.ready .any ops listed := by rw [hr]; exact List.mem_cons_self ..
      obtain ⟨e, o, ho, _⟩ := mem_ready.1 hj
      have hlt : j < ops.size := (Array.getElem?_eq_some_iff.1 ho).1
      have := hall j hlt
      rw [Array.getD_eq_getD_getElem?, Array.getElem?_eq_getElem (by omega)] at this e
      rw [Option.getD_some] at this e
      rw [this] at e
      cases e
  | succ fuel ih =>
    intro listed s a hz hc hdc hI
    refine ⟨fun hr => done listed s a hI (ready_all h.bk hr hz), fun j hj => ?_⟩
    obtain ⟨e, o, ho, hed⟩ := mem_ready.1 hj
    have hlt : j < ops.size := (Array.getElem?_eq_some_iff.1 ho).1
    have hljs : j < listed.size := by omega
    have hno : listed.getD j false = false := by
      rw [Array.getD_eq_getD_getElem?, Array.getElem?_eq_getElem hljs] at e ⊢
      exact e
    have hpre : ∀ p, Nat.testBit ((bits ops.toList).getD j 0) p = true → listed.getD p false = true := fun p hp => by
      obtain ⟨o', e1, e', e2, e3, e4⟩ := bits_edge hp
      rw [Array.getElem?_toList, ho] at e1
      cases e1
      have he := hed e' (Array.mem_def.2 e2) e3
      rcases e4 with rfl | e4
      · exact he
      · exact hdc _ _ he e4
    have hset : ∀ k, (listed.setIfInBounds j true).getD k false = if k = j then true else listed.getD k false := fun k => by
      rw [Array.getD_eq_getD_getElem?, Array.getD_eq_getD_getElem?]
      by_cases q : k = j
      · subst q
        rw [Array.getElem?_setIfInBounds_self_of_lt hljs, if_pos rfl]
        rfl
      · rw [Array.getElem?_setIfInBounds_ne (Ne.symm q), if_neg q]
    refine op_step ro hE hS h hrd hI ho ⟨fun k p => hdc k p, by rw [hno]; simp, hpre⟩ fun s' a' hI' => ih _ s' a' (by simpa using hz) ?_ ?_ ?_
    · have := cnt_set (f := fun k => listed.getD k false) (g := fun k => (listed.setIfInBounds j true).getD k false) (j := j) (fun k hk => by rw [hset, if_neg hk]) hno (by rw [hset, if_pos rfl]) hlt
      omega
    · intro k p hk hp
      rw [hset] at hk ⊢
      split
      · rfl
      · split at hk
        · next q => subst q; exact hpre p hp
        · exact hdc k p hk hp
    · have : (fun k => (listed.setIfInBounds j true).getD k false = true) = fun k => listed.getD k false = true ∨ k = j := funext fun k => propext (by
        rw [hset]
        by_cases q : k = j
        · simp [q]
        · simp [q])
      rw [this]
      exact hI'
end
end GrG
