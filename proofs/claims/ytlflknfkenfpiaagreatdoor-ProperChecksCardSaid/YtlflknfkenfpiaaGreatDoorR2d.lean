/-
  Texts of one claim, merged.
-/
import Derived.Test.YtlflknfkenfpiaaGreatDoorR24
set_option linter.unusedSimpArgs false
set_option linter.unusedVariables false
namespace GrG
open Go Go.RowKit
theorem memN_f {i : Nat} : ∀ {l : List Nat}, memN i l = false → i ∉ l
  | [], _ => by simp
  | a :: l, h => by
    unfold memN at h
    split at h
    · cases h
    · next e =>
      intro q
      rcases List.mem_cons.1 q with rfl | q
      · exact beq_f e rfl
      · exact memN_f h q
theorem apartL_t {a : Nat} {m : List Nat} : ∀ {l : List Nat}, apartL l m = true → a ∈ l → a ∉ m
  | [], _, h => by cases h
  | b :: l, h, k => by
    unfold apartL at h
    split at h
    · cases h
    · next e =>
      rcases List.mem_cons.1 k with rfl | k
      · exact memN_f e
      · exact apartL_t h k
theorem outside_t {lo hi a : Nat} : ∀ {l : List Nat}, outside lo hi l = true → a ∈ l → ¬ (lo ≤ a ∧ a < hi)
  | [], _, h => by cases h
  | b :: l, h, k => by
    unfold outside at h
    split at h
    · cases h
    · next hne =>
      rcases List.mem_cons.1 k with rfl | k
      · rintro ⟨h1, h2⟩
        exact hne (Nat.ble_eq_true_of_le h1) (Nat.ble_eq_true_of_le h2)
      · exact outside_t h k
structure Apart (r q : Rec) (M : Mem) : Prop where
  own : ∀ i ∈ r.rd, ¬ (q.lo ≤ i ∧ i < q.hi)
  qr : ∀ i ∈ q.wr, i ∉ r.rd
  rq : ∀ i ∈ r.wr, i ∉ q.rd
  soft : ∀ i f, q.soft = some (i, f) → i ∈ r.wr → f M = true
  late : ∀ i f, r.soft = some (i, f) → i ∉ q.wr ∧ ¬ (q.lo ≤ i ∧ i < q.hi)
theorem apartR_t {bs : List Nat} {r q : Rec} {M : Mem} : ∀ {l : List Rec}, apartR bs r M l = true → q ∈ l → ordered bs r.ix q.ix = false → Apart r q M
  | [], _, h, _ => by cases h
  | p :: l, h, k, ho => by
    unfold apartR at h
    split at h
    · next e =>
      rcases List.mem_cons.1 k with rfl | k
      · rw [e] at ho; cases ho
      · exact apartR_t h k ho
    · split at h
      · next e1 e2 e3 e4 e5 =>
        rcases List.mem_cons.1 k with rfl | k
        · refine ⟨fun i hi => outside_t e1 hi, fun i hi => apartL_t e2 hi, fun i hi => apartL_t e3 hi, fun i f hs hi => ?_, fun i f hs => ?_⟩
          · rw [hs] at e4
            unfold softOk at e4
            simp only at e4
            split at e4
            · exact e4
            · next e => exact absurd hi (memN_f e)
          · rw [hs] at e5
            unfold softNo at e5
            simp only at e5
            split at e5
            · cases e5
            · next e => exact ⟨memN_f e, outside_t e5 (List.mem_singleton.2 rfl)⟩
        · exact apartR_t h k ho
      · cases h
theorem hideL_get {n t : Nat} : ∀ {l : List Nat} {L : T AV}, t ∉ l → (hideL n L l).get t = L.get t
  | [], L, _ => rfl
  | d :: l, L, h => by
    rw [hideL, hideL_get (fun q => h (List.mem_cons_of_mem _ q))]
    exact T.get_set_ne _ _ fun q => h (q ▸ List.mem_cons_self ..)
theorem hideL_no {n t : Nat} (hn : t ≠ n) : ∀ {l : List Nat} {L : T AV}, t ∈ l ∨ L.get t = none → (hideL n L l).get t = none
  | [], L, h => by
    rcases h with h | h
    · cases h
    · exact h
  | d :: l, L, h => by
    rw [hideL]
    refine hideL_no hn ?_
    by_cases q : t = d
    · subst q
      right
      rw [T.get_set_eq]
      split
      · next e => exact absurd (beq_t e) hn
      · rfl
    · rcases h with h | h
      · rcases List.mem_cons.1 h with h | h
        · exact absurd h q
        · exact .inl h
      · right
        rw [T.get_set_ne _ _ q]
        exact h
theorem hideL_rd {n : Nat} : ∀ {l : List Nat} {L : T AV}, n ∈ l ∨ L.get n = some .rd → (hideL n L l).get n = some .rd
  | [], L, h => by
    rcases h with h | h
    · cases h
    · exact h
  | d :: l, L, h => by
    rw [hideL]
    refine hideL_rd ?_
    by_cases q : n = d
    · subst q
      right
      rw [T.get_set_eq]
      split
      · rfl
      · next e => exact absurd rfl (beq_f e)
    · rcases h with h | h
      · rcases List.mem_cons.1 h with h | h
        · exact absurd h q
        · exact .inl h
      · right
        rw [T.get_set_ne _ _ q]
        exact h
theorem hidden_mem {n : Nat} {ol : List Oper} {bs : List Nat} {j d : Nat} {k : Nat} {o : Oper} (hk : ol[k]? = some o) (hj : k ≠ j) (ho : ordered bs k j = false) (hd : dstOf n o = some d) : d ∈ hidden n ol bs j := by
  unfold hidden
  refine List.mem_filterMap.2 ⟨(o, k), List.mk_mem_zipIdx_iff_getElem?.2 hk, ?_⟩
  simp only [f_beq hj, ho, Bool.or_self, Bool.false_eq_true, if_false, hd]
def bitE (acc : List Nat) (s : Nat) (e : Edge) : Nat := if Region.binds .any e then Nat.lor (Nat.lor s (Nat.pow 2 e.on)) (acc.getD e.on 0) else s
def bitO (acc : List Nat) (o : Oper) : List Nat := acc ++ [o.after.toList.foldl (bitE acc) 0]
theorem bits_eq (ops : List Oper) : bits ops = ops.foldl bitO [] := rfl
theorem bitE_fold {acc : List Nat} {p : Nat} : ∀ {l : List Edge} {s : Nat}, Nat.testBit (l.foldl (bitE acc) s) p = true → Nat.testBit s p = true ∨ ∃ e ∈ l, Region.binds .any e = true ∧ (p = e.on ∨ Nat.testBit (acc.getD e.on 0) p = true)
  | [], s, h => .inl h
  | e :: l, s, h => by
    rw [List.foldl_cons] at h
    rcases bitE_fold h with h | ⟨e', h1, h2⟩
    · unfold bitE at h
      split at h
      · next hb =>
        have h : Nat.testBit ((s ||| 2 ^ e.on) ||| acc.getD e.on 0) p = true := h
        rw [Nat.testBit_or, Nat.testBit_or] at h
        simp only [Bool.or_eq_true] at h
        rcases h with (h | h) | h
        · exact .inl h
        · rw [Nat.testBit_two_pow] at h
          exact .inr ⟨e, List.mem_cons_self .., hb, .inl (of_decide_eq_true h).symm⟩
        · exact .inr ⟨e, List.mem_cons_self .., hb, .inr h⟩
      · exact .inl h
    · exact .inr ⟨e', List.mem_cons_of_mem _ h1, h2⟩
theorem bitO_fold : ∀ (l : List Oper) (acc : List Nat), (∀ k, k < acc.length → (l.foldl bitO acc).getD k 0 = acc.getD k 0) ∧
    ∀ k p, Nat.testBit ((l.foldl bitO acc).getD k 0) p = true → k < acc.length ∨ acc.length ≤ k ∧ ∃ o, l[k - acc.length]? = some o ∧ ∃ e ∈ o.after.toList, Region.binds .any e = true ∧ (p = e.on ∨ Nat.testBit ((l.foldl bitO acc).getD e.on 0) p = true)
  | [], acc => ⟨fun _ _ => rfl, fun k p h => by
    by_cases q : k < acc.length
    · exact .inl q
    · rw [List.foldl_nil, List.getD_eq_getElem?_getD, List.getElem?_eq_none (by omega)] at h
      simp at h⟩
  | o :: l, acc => by
    obtain ⟨h1, h2⟩ := bitO_fold l (bitO acc o)
    have hlen : (bitO acc o).length = acc.length + 1 := by simp [bitO]
    have hpre : ∀ k, k < acc.length → ((o :: l).foldl bitO acc).getD k 0 = acc.getD k 0 := fun k hk => by
      rw [List.foldl_cons, h1 k (by omega)]
      simp [bitO, List.getD_eq_getElem?_getD, List.getElem?_append_left hk]
    refine ⟨hpre, fun k p h => ?_⟩
    rw [List.foldl_cons] at h
    rcases h2 k p h with hk | ⟨e0, o', e1, e2⟩
    · by_cases q : k < acc.length
      · exact .inl q
      · have q : k = acc.length := by omega
        subst q
        right
        rw [h1 _ (by omega)] at h
        have hv : (bitO acc o).getD acc.length 0 = o.after.toList.foldl (bitE acc) 0 := by simp [bitO, List.getD_eq_getElem?_getD]
        rw [hv] at h
        refine ⟨Nat.le_refl _, o, by simp, ?_⟩
        rcases bitE_fold h with h | ⟨e, e1, e2, e3⟩
        · simp at h
        · refine ⟨e, e1, e2, ?_⟩
          rcases e3 with e3 | e3
          · exact .inl e3
          · right
            have hlt : e.on < acc.length := by
              by_cases q : e.on < acc.length
              · exact q
              · rw [List.getD_eq_getElem?_getD, List.getElem?_eq_none (by omega)] at e3
                simp at e3
            rw [hpre _ hlt]
            exact e3
    · by_cases q : k < acc.length
      · exact .inl q
      · right
        rw [hlen] at e0 e1
        refine ⟨by omega, o', ?_, e2⟩
        have : k - acc.length = (k - (acc.length + 1)) + 1 := by omega
        rw [this, List.getElem?_cons_succ]
        exact e1
theorem bits_edge {ops : List Oper} {k p : Nat} (h : Nat.testBit ((bits ops).getD k 0) p = true) : ∃ o, ops[k]? = some o ∧ ∃ e ∈ o.after.toList, Region.binds .any e = true ∧ (p = e.on ∨ Nat.testBit ((bits ops).getD e.on 0) p = true) := by
  rw [bits_eq] at h ⊢
  rcases (bitO_fold ops []).2 k p h with h | ⟨_, h⟩
  · cases h
  · simpa using h
theorem backs_t {ops : List Oper} (h : backs ops = true) {k : Nat} {o : Oper} (hk : ops[k]? = some o) {e : Edge} (he : e ∈ o.after.toList) (hb : Region.binds .any e = true) : e.on < k := by
  unfold backs at h
  have := List.all_eq_true.1 h (o, k) (List.mk_mem_zipIdx_iff_getElem?.2 hk)
  have := List.all_eq_true.1 this e he
  simp only [hb, Bool.not_true, Bool.false_or] at this
  exact blt_t this
theorem bits_lt {ops : List Oper} (h : backs ops = true) : ∀ k p, Nat.testBit ((bits ops).getD k 0) p = true → p < k := by
  intro k
  induction k using Nat.strongRecOn with
  | _ k ih =>
    intro p hp
    obtain ⟨o, e1, e, e2, e3, e4⟩ := bits_edge hp
    have hlt := backs_t h e1 e2 e3
    rcases e4 with rfl | e4
    · exact hlt
    · exact Nat.lt_trans (ih _ hlt p e4) hlt
end GrG
namespace GrG
open Go Go.RowKit
section
variable {P : Program} {B : World} {E : Env} {self : Self} {n : Nat} {ops : Array Oper} {bs : List Nat} {ol : List Oper}
inductive Stp (E : Env) (self : Self) (n : Nat) (ops : Array Oper) (bs : List Nat) (ol : List Oper) (j : Nat) (o : Oper) (L : T AV) (M : Mem) (L' : T AV) (M' : Mem) (r : Rec) : Prop
  | soft {v : AV} {i : Nat} {f : Mem → Bool} (e : softLook E (hideL n L (hidden n ol bs j)) M o = some (v, i, f)) (hi : i < M.next) (hr : r = ⟨j, M.next, M.next, [], [], some (i, f)⟩) (hp : putL L n o.dst v = some L') (hM : M' = M)
  | hard {v : AV} (e : evOne E self n ops (hideL n L (hidden n ol bs j)) M.fresh o = .one v M') (hr : r = evD.mkRec j M M') (hp : putL L n o.dst v = some L')
  | dfr {d : AV} (e : evOne E self n ops (hideL n L (hidden n ol bs j)) M.fresh o = .dfr d M') (hd : isDfr o.op = true) (ho : o.dst = none) (hr : r = evD.mkRec j M M') (hp : putD L n d = some L')
variable {j : Nat} {o : Oper} {L L' : T AV} {M M' : Mem} {r : Rec}
theorem Stp.ix (h : Stp E self n ops bs ol j o L M L' M' r) : r.ix = j := by
  cases h with
  | soft e hi hr hp hM => subst hr; rfl
  | hard e hr hp => subst hr; rfl
  | dfr e hd ho hr hp => subst hr; rfl
theorem Stp.rlo (h : Stp E self n ops bs ol j o L M L' M' r) : r.lo = M.next := by
  cases h with
  | soft e hi hr hp hM => subst hr; rfl
  | hard e hr hp => subst hr; rfl
  | dfr e hd ho hr hp => subst hr; rfl
theorem Stp.rhi (h : Stp E self n ops bs ol j o L M L' M' r) : r.hi = M'.next := by
  cases h with
  | soft e hi hr hp hM => subst hr hM; rfl
  | hard e hr hp => subst hr; rfl
  | dfr e hd ho hr hp => subst hr; rfl
theorem Stp.gr (hS : SelfOk P B E self) (h : Stp E self n ops bs ol j o L M L' M' r) : M.next ≤ M'.next ∧ (∀ i, i < M.next → i ∉ r.wr → M'.objs.get i = M.objs.get i) ∧ ((∀ i, M.next ≤ i → M.objs.get i = none) → ∀ i, M'.next ≤ i → M'.objs.get i = none) := by
  have main : Gr M.fresh M' → r = evD.mkRec j M M' → M.next ≤ M'.next ∧ (∀ i, i < M.next → i ∉ r.wr → M'.objs.get i = M.objs.get i) ∧ ((∀ i, M.next ≤ i → M.objs.get i = none) → ∀ i, M'.next ≤ i → M'.objs.get i = none) := fun g hr => by
    subst hr
    exact ⟨g.next, fun i hi hw => g.keep i hi fun q => hw (once_leaf (lows_mem.2 ⟨q, hi⟩)), g.top⟩
  cases h with
  | soft e hi hr hp hM =>
    subst hM
    exact ⟨Nat.le_refl _, fun _ _ _ => rfl, id⟩
  | hard e hr hp => exact main (evOne_gr hS (show (evOne E self n ops _ M.fresh o).In _ M' by rw [e]; exact ⟨rfl, rfl⟩)) hr
  | dfr e hd ho hr hp => exact main (by rw [evOne_dfr_gr hd e]; exact .refl _) hr
theorem mkRec_rd {i : Nat} (h : i ∈ (evD.mkRec j M M').rd) : i < M.next ∧ (i ∈ M'.wr ∨ i ∈ M'.rd) := by
  obtain ⟨h1, h2⟩ := lows_mem.1 (once_sub h)
  exact ⟨h2, List.mem_append.1 h1⟩
theorem Stp.rd_lt (h : Stp E self n ops bs ol j o L M L' M' r) {i : Nat} (hi : i ∈ r.rd) : i < M.next := by
  cases h with
  | soft e hi' hr hp hM => subst hr; cases hi
  | hard e hr hp => subst hr; exact (mkRec_rd hi).1
  | dfr e hd ho hr hp => subst hr; exact (mkRec_rd hi).1
theorem Stp.wr_rd (h : Stp E self n ops bs ol j o L M L' M' r) {i : Nat} (hi : i ∈ r.wr) : i ∈ r.rd := by
  have main : i ∈ (evD.mkRec j M M').wr → i ∈ (evD.mkRec j M M').rd := fun q => by
    obtain ⟨h1, h2⟩ := lows_mem.1 (once_sub q)
    exact once_leaf (lows_mem.2 ⟨List.mem_append_left _ h1, h2⟩)
  cases h with
  | soft e hi' hr hp hM => subst hr; cases hi
  | hard e hr hp => subst hr; exact main hi
  | dfr e hd ho hr hp => subst hr; exact main hi
theorem Stp.locs (h : Stp E self n ops bs ol j o L M L' M' r) (hok : okOp (hidden n ol bs j) n o = true) {t : Nat} (ht : dstOf n o ≠ some t) : L'.get t = L.get t := by
  have main : ∀ {v}, putL L n o.dst v = some L' → L'.get t = L.get t := fun {v} hp => by
    unfold putL at hp
    split at hp
    · cases hp; rfl
    · next d hd =>
      split at hp
      · cases hp
        refine T.get_set_ne _ _ ?_
        rintro rfl
        unfold okOp at hok
        split at hok
        · cases hok
        · next hne =>
          apply ht
          unfold dstOf
          split
          · next hop => exact absurd hd (hne _ (by rw [hop]; rfl))
          · exact hd
      · cases hp
  cases h with
  | soft e hi' hr hp hM => exact main hp
  | hard e hr hp => exact main hp
  | dfr e hd ho hr hp =>
    have hn : dstOf n o = some n := by
      unfold dstOf
      split
      · rfl
      · next hne =>
        unfold isDfr at hd
        split at hd
        · next hop => exact absurd hop (hne _)
        · cases hd
    have q : t ≠ n := by
      rintro rfl
      exact ht hn
    unfold putD at hp
    split at hp
    · cases hp; exact T.get_set_ne _ _ q
    · cases hp; exact T.get_set_ne _ _ q
    · cases hp
theorem okOp_dst {hid : List Nat} (h : okOp hid n o = true) {d : Nat} (hd : dstOf n o = some d) : d ∉ hid := by
  unfold okOp at h
  split at h
  · cases h
  · rw [hd] at h
    unfold okDst at h
    simp only [Bool.not_eq_true'] at h
    exact memN_f h
theorem evD_trace : ∀ (l : List Oper) (j : Nat) (L : T AV) (M : Mem) (rs : List Rec) (L1 : T AV) (M1 : Mem) (rs1 : List Rec), evD E self n ops bs ol j l L M rs = some (L1, M1, rs1) →
    ∃ (Ls : Nat → T AV) (Ms : Nat → Mem) (Rz : Nat → Rec), Ls 0 = L ∧ Ms 0 = M ∧ Ls l.length = L1 ∧ Ms l.length = M1 ∧ (∀ q, q ∈ rs ∨ (∃ k, k < l.length ∧ q = Rz k) → q ∈ rs1) ∧
      ∀ k o, l[k]? = some o → Stp E self n ops bs ol (j + k) o (Ls k) (Ms k) (Ls (k + 1)) (Ms (k + 1)) (Rz k) ∧ okOp (hidden n ol bs (j + k)) n o = true ∧
        ∀ q, q ∈ rs ∨ (∃ m, m < k ∧ q = Rz m) → ordered bs (j + k) q.ix = false → Apart (Rz k) q (Ms (k + 1))
  | [], j, L, M, rs, L1, M1, rs1, h => by
    simp only [evD, Option.some.injEq, Prod.mk.injEq] at h
    obtain ⟨rfl, rfl, rfl⟩ := h
    refine ⟨fun _ => L, fun _ => M, fun _ => ⟨0, 0, 0, [], [], none⟩, rfl, rfl, rfl, rfl, fun q hq => ?_, fun k o hk => by cases hk⟩
    rcases hq with hq | ⟨k, hk, _⟩
    · exact hq
    · cases hk
  | o :: l, j, L, M, rs, L1, M1, rs1, h => by
    have main : ∀ L2 M2 r0, Stp E self n ops bs ol j o L M L2 M2 r0 → okOp (hidden n ol bs j) n o = true → apartR bs r0 M2 rs = true → evD E self n ops bs ol (j + 1) l L2 M2 (r0 :: rs) = some (L1, M1, rs1) →
        ∃ (Ls : Nat → T AV) (Ms : Nat → Mem) (Rz : Nat → Rec), Ls 0 = L ∧ Ms 0 = M ∧ Ls (o :: l).length = L1 ∧ Ms (o :: l).length = M1 ∧ (∀ q, q ∈ rs ∨ (∃ k, k < (o :: l).length ∧ q = Rz k) → q ∈ rs1) ∧
          ∀ k o', (o :: l)[k]? = some o' → Stp E self n ops bs ol (j + k) o' (Ls k) (Ms k) (Ls (k + 1)) (Ms (k + 1)) (Rz k) ∧ okOp (hidden n ol bs (j + k)) n o' = true ∧
            ∀ q, q ∈ rs ∨ (∃ m, m < k ∧ q = Rz m) → ordered bs (j + k) q.ix = false → Apart (Rz k) q (Ms (k + 1)) := fun L2 M2 r0 hst hok hap hev => by
      obtain ⟨Ls, Ms, Rz, e1, e2, e3, e4, e5, e6⟩ := evD_trace l (j + 1) L2 M2 (r0 :: rs) L1 M1 rs1 hev
      refine ⟨fun k => Nat.casesOn k L Ls, fun k => Nat.casesOn k M Ms, fun k => Nat.casesOn k r0 Rz, rfl, rfl, e3, e4, fun q hq => ?_, fun k o' hk => ?_⟩
      · rcases hq with hq | ⟨k, hk, rfl⟩
        · exact e5 q (.inl (List.mem_cons_of_mem _ hq))
        · cases k with
          | zero => exact e5 _ (.inl (List.mem_cons_self ..))
          | succ k => exact e5 _ (.inr ⟨k, by simpa using hk, rfl⟩)
      · cases k with
        | zero =>
          simp only [List.getElem?_cons_zero, Option.some.injEq] at hk
          subst hk
          refine ⟨?_, hok, fun q hq ho => ?_⟩
          · show Stp E self n ops bs ol j o L M (Ls 0) (Ms 0) r0
            rw [e1, e2]
            exact hst
          · rcases hq with hq | ⟨m, hm, _⟩
            · show Apart r0 q (Ms 0)
              rw [e2]
              exact apartR_t hap hq (by rw [hst.ix]; exact ho)
            · cases hm
        | succ k =>
          simp only [List.getElem?_cons_succ] at hk
          obtain ⟨f1, f2, f3⟩ := e6 k o' hk
          have ej : j + 1 + k = j + (k + 1) := by omega
          rw [ej] at f1 f2 f3
          refine ⟨f1, f2, fun q hq ho => f3 q ?_ ho⟩
          rcases hq with hq | ⟨m, hm, rfl⟩
          · exact .inl (List.mem_cons_of_mem _ hq)
          · cases m with
            | zero => exact .inl (List.mem_cons_self ..)
            | succ m => exact .inr ⟨m, by omega, rfl⟩
    simp only [evD] at h
    split at h
    · next v i f es =>
      split at h
      · next a1 a2 a3 =>
        split at h
        · next L2 hp => exact main L2 M _ (.soft es (blt_t a3) rfl hp rfl) a1 a2 h
        · cases h
      · cases h
    · split at h
      · next v M2 es =>
        split at h
        · next a1 a2 =>
          split at h
          · next L2 hp => exact main L2 M2 _ (.hard es rfl hp) a1 a2 h
          · cases h
        · cases h
      · next d M2 es =>
        split at h
        · next a0 a1 a2 a3 =>
          split at h
          · next L2 hp => exact main L2 M2 _ (.dfr es a0 a3 rfl hp) a1 a2 h
          · cases h
        · cases h
      · cases h
theorem catR_mem {m : Nat} : ∀ {rs : List Rec} {a b : List Nat}, catR m rs = (a, b) → ∀ r ∈ rs, (∀ i ∈ r.rd, i < m → i ∈ a) ∧ (∀ i ∈ r.wr, i < m → i ∈ b) ∧ ∀ i f, r.soft = some (i, f) → i < m → i ∈ a
  | [], a, b, h, r, hr => by cases hr
  | r0 :: l, a, b, h, r, hr => by
    simp only [catR, Prod.mk.injEq] at h
    obtain ⟨rfl, rfl⟩ := h
    rcases List.mem_cons.1 hr with rfl | hr
    · refine ⟨fun i hi hm => List.mem_append_right _ (List.mem_append_left _ (lows_mem.2 ⟨hi, hm⟩)), fun i hi hm => List.mem_append_left _ (lows_mem.2 ⟨hi, hm⟩), fun i f hs hm => List.mem_append_left _ (lows_mem.2 ⟨?_, hm⟩)⟩
      rw [hs]
      exact List.mem_singleton.2 rfl
    · obtain ⟨h1, h2, h3⟩ := catR_mem (rs := l) rfl r hr
      exact ⟨fun i hi hm => List.mem_append_right _ (List.mem_append_right _ (h1 i hi hm)), fun i hi hm => List.mem_append_right _ (h2 i hi hm), fun i f hs hm => List.mem_append_right _ (List.mem_append_right _ (h3 i f hs hm))⟩
end
end GrG
namespace GrG
open Go Go.RowKit
section
variable {P : Program} {B : World} {E : Env} {self : Self} {n : Nat} {ops : Array Oper} {ol : List Oper} {Ls : Nat → T AV} {Ms : Nat → Mem} {Rz : Nat → Rec} {cx : Cx} {hi : Nat} {s0 : At}
structure Trc (B : World) (E : Env) (sf : Self) (n : Nat) (ops : Array Oper) (ol : List Oper) (Ls : Nat → T AV) (Ms : Nat → Mem) (Rz : Nat → Rec) (cx : Cx) (hi : Nat) (s0 : At) : Prop where
  stp : ∀ k o, ol[k]? = some o → Stp E sf n ops (bits ol) ol k o (Ls k) (Ms k) (Ls (k + 1)) (Ms (k + 1)) (Rz k)
  ok : ∀ k o, ol[k]? = some o → okOp (hidden n ol (bits ol) k) n o = true
  ap : ∀ k o, ol[k]? = some o → ∀ q, q < k → ordered (bits ol) k q = false → Apart (Rz k) (Rz q) (Ms (k + 1))
  bk : backs ol = true
  hs : Is B E.ng cx (Ms 0) hi s0
  look : ∀ k o, ol[k]? = some o → ∀ i ∈ (Rz k).rd, i < (Ms 0).next → cx.vis i
  wrk : ∀ k o, ol[k]? = some o → ∀ i ∈ (Rz k).wr, i < (Ms 0).next → cx.wok i
  soft : ∀ k o, ol[k]? = some o → ∀ i f, (Rz k).soft = some (i, f) → i < (Ms 0).next → cx.vis i
  last : (Ms ol.length).next ≤ hi
def touch (Ms : Nat → Mem) (Rz : Nat → Rec) (k i : Nat) : Prop := i ∈ (Rz k).wr ∨ ((Ms k).next ≤ i ∧ i < (Ms (k + 1)).next)
theorem lt_some {k : Nat} (h : k < ol.length) : ∃ o, ol[k]? = some o := ⟨_, List.getElem?_eq_getElem h⟩
theorem some_lt {k : Nat} {o : Oper} (h : ol[k]? = some o) : k < ol.length := (List.getElem?_eq_some_iff.1 h).1
theorem Trc.mono (h : Trc B E self n ops ol Ls Ms Rz cx hi s0) (hS : SelfOk P B E self) : ∀ {a b : Nat}, a ≤ b → b ≤ ol.length → (Ms a).next ≤ (Ms b).next := by
  intro a b hab
  induction b with
  | zero => intro _; obtain rfl : a = 0 := by omega
            exact Nat.le_refl _
  | succ b ih =>
    intro hb
    by_cases q : a = b + 1
    · rw [q]; exact Nat.le_refl _
    · obtain ⟨o, ho⟩ := lt_some (ol := ol) (k := b) (by omega)
      exact Nat.le_trans (ih (by omega) (by omega)) ((h.stp b o ho).gr hS).1
theorem Trc.tops (h : Trc B E self n ops ol Ls Ms Rz cx hi s0) (hS : SelfOk P B E self) : ∀ {b : Nat}, b ≤ ol.length → ∀ i, (Ms b).next ≤ i → (Ms b).objs.get i = none := by
  intro b
  induction b with
  | zero => intro _; exact h.hs.top
  | succ b ih =>
    intro hb
    obtain ⟨o, ho⟩ := lt_some (ol := ol) (k := b) (by omega)
    exact ((h.stp b o ho).gr hS).2.2 (ih (by omega))
theorem Trc.keep (h : Trc B E self n ops ol Ls Ms Rz cx hi s0) (hS : SelfOk P B E self) {i a : Nat} : ∀ {b : Nat}, a ≤ b → b ≤ ol.length → (∀ k, a ≤ k → k < b → ¬ touch Ms Rz k i) → (Ms b).objs.get i = (Ms a).objs.get i := by
  intro b hab
  induction b with
  | zero => intro _ _; obtain rfl : a = 0 := by omega
            rfl
  | succ b ih =>
    intro hb hk
    by_cases q : a = b + 1
    · rw [q]
    · rw [← ih (by omega) (by omega) fun k h1 h2 => hk k h1 (by omega)]
      obtain ⟨o, ho⟩ := lt_some (ol := ol) (k := b) (by omega)
      have ht := hk b (by omega) (by omega)
      have hst := (h.stp b o ho).gr hS
      by_cases hi' : i < (Ms b).next
      · exact hst.2.1 i hi' fun q => ht (.inl q)
      · have h1 : ¬ i < (Ms (b + 1)).next := fun q => ht (.inr ⟨by omega, q⟩)
        rw [h.tops hS hb i (by omega), h.tops hS (show b ≤ ol.length by omega) i (by omega)]
theorem Trc.keepL (h : Trc B E self n ops ol Ls Ms Rz cx hi s0) {t a : Nat} : ∀ {b : Nat}, a ≤ b → b ≤ ol.length → (∀ k o, a ≤ k → k < b → ol[k]? = some o → dstOf n o ≠ some t) → (Ls b).get t = (Ls a).get t := by
  intro b hab
  induction b with
  | zero => intro _ _; obtain rfl : a = 0 := by omega
            rfl
  | succ b ih =>
    intro hb hk
    by_cases q : a = b + 1
    · rw [q]
    · rw [← ih (by omega) (by omega) fun k o h1 h2 => hk k o h1 (by omega)]
      obtain ⟨o, ho⟩ := lt_some (ol := ol) (k := b) (by omega)
      exact (h.stp b o ho).locs (h.ok b o ho) (hk b o (by omega) (by omega) ho)
theorem ordered_comm (bs : List Nat) (i j : Nat) : ordered bs i j = ordered bs j i := Bool.or_comm _ _
theorem Trc.sep (h : Trc B E self n ops ol Ls Ms Rz cx hi s0) (hS : SelfOk P B E self) {k j i : Nat} (hk : k < ol.length) (hj : j < ol.length) (hne : k ≠ j) (ho : ordered (bits ol) k j = false) (ht : touch Ms Rz k i) : i ∉ (Rz j).rd := by
  intro hr
  obtain ⟨ok, eok⟩ := lt_some hk
  obtain ⟨oj, eoj⟩ := lt_some hj
  rcases Nat.lt_or_ge k j with hlt | hge
  · have ha := h.ap j oj eoj k hlt (by rw [ordered_comm]; exact ho)
    rcases ht with ht | ht
    · exact ha.qr i ht hr
    · refine ha.own i hr ?_
      rw [(h.stp k ok eok).rlo, (h.stp k ok eok).rhi]
      exact ht
  · have ha := h.ap k ok eok j (by omega) ho
    rcases ht with ht | ht
    · exact ha.rq i ht hr
    · have h1 := (h.stp j oj eoj).rd_lt hr
      have h2 := h.mono hS (show j ≤ k by omega) (by omega)
      omega
theorem Trc.both (h : Trc B E self n ops ol Ls Ms Rz cx hi s0) (hS : SelfOk P B E self) {k j i : Nat} (hk : k < ol.length) (hj : j < ol.length) (hne : k ≠ j) (h1 : touch Ms Rz k i) (h2 : touch Ms Rz j i) : ordered (bits ol) k j = true := by
  cases ho : ordered (bits ol) k j with
  | true => rfl
  | false =>
    exfalso
    obtain ⟨ok, eok⟩ := lt_some hk
    obtain ⟨oj, eoj⟩ := lt_some hj
    rcases h2 with h2' | h2'
    · exact h.sep hS hk hj hne ho h1 ((h.stp j oj eoj).wr_rd h2')
    · rcases h1 with h1' | h1'
      · exact h.sep hS hj hk (Ne.symm hne) (by rw [ordered_comm]; exact ho) (.inr h2') ((h.stp k ok eok).wr_rd h1')
      · rcases Nat.lt_or_ge k j with hlt | hge
        · have := h.mono hS (show k + 1 ≤ j by omega) (by omega)
          omega
        · have := h.mono hS (show j + 1 ≤ k by omega) (by omega)
          omega
structure Down (ol : List Oper) (D : Nat → Prop) (j : Nat) : Prop where
  dc : ∀ k p, D k → Nat.testBit ((bits ol).getD k 0) p = true → D p
  no : ¬ D j
  pre : ∀ p, Nat.testBit ((bits ol).getD j 0) p = true → D p
theorem Down.iff {D : Nat → Prop} {j k : Nat} (hd : Down ol D j) (hb : backs ol = true) (ho : ordered (bits ol) k j = true) : D k ↔ k < j := by
  unfold ordered at ho
  rw [Bool.or_eq_true] at ho
  rcases ho with ho | ho
  · have := bits_lt hb _ _ ho
    exact ⟨fun q => absurd (hd.dc k j q ho) hd.no, fun q => by omega⟩
  · exact ⟨fun _ => bits_lt hb _ _ ho, fun _ => hd.pre k ho⟩
structure Inv (B : World) (E : Env) (n : Nat) (ol : List Oper) (Ls : Nat → T AV) (Ms : Nat → Mem) (Rz : Nat → Rec) (cx : Cx) (hi : Nat) (s0 : At) (D : Nat → Prop) (s : At) (a : Act) : Prop where
  to : To cx (Ms 0).next hi s0 s
  rel : RelM B E.ng s.σ s.F s.W
  mem : ∀ i b, b ≤ ol.length → (∀ k, k < ol.length → touch Ms Rz k i → (D k ↔ k < b)) → (cx.vis i ∨ (Ms 0).next ≤ i) → i < (Ms b).next → s.F i = (Ms b).objs.get i
  own : ∀ k, k < ol.length → ¬ D k → ∀ i, (Ms k).next ≤ i → i < (Ms (k + 1)).next → s.F i = none ∧ s.σ i = none
  rest : ∀ i, (Ms ol.length).next ≤ i → i < hi → s.F i = none ∧ s.σ i = none
  size : a.tmps.size = n
  val : ∀ t b x, b ≤ ol.length → (∀ k o, ol[k]? = some o → dstOf n o = some t → (D k ↔ k < b)) → (Ls b).get t = some x → VRel s.σ x (a.tmps.getD t undef)
  dfr : ∀ b, b ≤ ol.length → (∀ k o, ol[k]? = some o → dstOf n o = some n → (D k ↔ k < b)) → DAt s.σ ((Ls b).get n) a.defers
theorem Inv.first (h : Trc B E self n ops ol Ls Ms Rz cx hi s0) (hS : SelfOk P B E self) {a : Act} (hL : Loc s0.σ (Ls 0) n a) : Inv B E n ol Ls Ms Rz cx hi s0 (fun _ => False) s0 a := by
  have h0 := h.hs
  refine ⟨.refl, h0.rel, fun i b hb hk hv hlt => ?_, fun k hk _ i h1 h2 => ?_, fun i h1 h2 => ?_, hL.size, fun t b x hb hk hx => ?_, fun b hb hk => ?_⟩
  · have e := h.keep hS (i := i) (Nat.zero_le b) hb fun k _ h2 ht => ((hk k (by omega) ht).2 h2).elim
    rw [e]
    by_cases q : i < (Ms 0).next
    · rcases hv with hv | hv
      · exact h0.vis i hv q
      · omega
    · exfalso
      have : ∀ b, b ≤ ol.length → (∀ k, k < b → ¬ touch Ms Rz k i) → ¬ i < (Ms b).next := by
        intro b
        induction b with
        | zero => intro _ _; exact q
        | succ b ih =>
          intro hb hn hlt
          have := ih (by omega) fun k hk => hn k (by omega)
          exact hn b (by omega) (.inr ⟨by omega, hlt⟩)
      exact this b hb (fun k h2 ht => ((hk k (by omega) ht).2 h2).elim) hlt
  · have m1 := h.mono hS (Nat.zero_le k) (by omega)
    have m2 := h.mono hS (show k + 1 ≤ ol.length by omega) (Nat.le_refl _)
    exact h0.fr i (by omega) (Nat.lt_of_lt_of_le h2 (Nat.le_trans m2 h.last))
  · exact h0.fr i (Nat.le_trans (h.mono hS (Nat.zero_le _) (Nat.le_refl _)) h1) h2
  · rw [h.keepL (Nat.zero_le b) hb fun k o _ h2 ho hd => ((hk k o ho hd).2 h2).elim] at hx
    exact hL.val t x hx
  · rw [h.keepL (Nat.zero_le b) hb fun k o _ h2 ho hd => ((hk k o ho hd).2 h2).elim]
    exact hL.dfr
theorem Inv.step (h : Trc B E self n ops ol Ls Ms Rz cx hi s0) (hS : SelfOk P B E self) {D : Nat → Prop} {s s' : At} {a a' : Act} (hI : Inv B E n ol Ls Ms Rz cx hi s0 D s a) {j : Nat} {o : Oper} (hj : ol[j]? = some o) (hd : Down ol D j)
    (le : s.σ.le s'.σ) (rel : RelM B E.ng s'.σ s'.F s'.W) (m1 : ∀ i, touch Ms Rz j i → s'.F i = (Ms (j + 1)).objs.get i) (m2 : ∀ i, ¬ touch Ms Rz j i → s'.F i = s.F i ∧ s'.σ i = s.σ i)
    (size : a'.tmps.size = n) (v1 : ∀ t x, dstOf n o = some t → (Ls (j + 1)).get t = some x → VRel s'.σ x (a'.tmps.getD t undef)) (v2 : ∀ t, dstOf n o ≠ some t → a'.tmps.getD t undef = a.tmps.getD t undef)
    (d1 : dstOf n o = some n → DAt s'.σ ((Ls (j + 1)).get n) a'.defers) (d2 : dstOf n o ≠ some n → a'.defers = a.defers) :
    Inv B E n ol Ls Ms Rz cx hi s0 (fun k => D k ∨ k = j) s' a' := by
  have hjl := some_lt hj
  have ord : ∀ {k o'}, ol[k]? = some o' → k ≠ j → ∀ {t}, dstOf n o' = some t → dstOf n o = some t → (D k ↔ k < j) := fun {k o'} hk hne {t} h1 h2 => by
    cases ho : ordered (bits ol) k j with
    | true => exact hd.iff h.bk ho
    | false => exact absurd (hidden_mem hk hne ho h1) (okOp_dst (h.ok j o hj) h2)
  have lastL : ∀ {t b}, b ≤ ol.length → dstOf n o = some t → (∀ k o', ol[k]? = some o' → dstOf n o' = some t → ((D k ∨ k = j) ↔ k < b)) → (Ls b).get t = (Ls (j + 1)).get t := fun {t b} hb hdst hk => by
    have hjb : j < b := (hk j o hj hdst).1 (.inr rfl)
    refine h.keepL (show j + 1 ≤ b by omega) hb fun k o' h1 h2 ho hdd => ?_
    have hne : k ≠ j := by omega
    have := (ord ho hne hdd hdst)
    rcases (hk k o' ho hdd).2 h2 with q | q
    · have := this.1 q
      omega
    · exact hne q
  refine ⟨⟨hI.to.le.trans le, fun i q => ?_⟩, rel, fun i b hb hk hv hlt => ?_, fun k hk hnd i h1 h2 => ?_, fun i h1 h2 => ?_, size, fun t b x hb hk hx => ?_, fun b hb hk => ?_⟩
  · have hn : ¬ touch Ms Rz j i := by
      rintro (ht | ⟨h1, h2⟩)
      · rcases q with q | q
        · exact q.1 (h.wrk j o hj i ht q.2)
        · have := (h.stp j o hj).rd_lt ((h.stp j o hj).wr_rd ht)
          have m := h.mono hS (show j ≤ ol.length by omega) (Nat.le_refl _)
          have := h.last
          omega
      · rcases q with q | q
        · have m := h.mono hS (Nat.zero_le j) (by omega)
          omega
        · have m := h.mono hS (show j + 1 ≤ ol.length by omega) (Nat.le_refl _)
          have := h.last
          omega
    have := hI.to.keep i q
    have k2 := m2 i hn
    exact ⟨k2.1.trans this.1, k2.2.trans this.2⟩
  · by_cases ht : touch Ms Rz j i
    · rw [m1 i ht]
      have hjb : j < b := (hk j hjl ht).1 (.inr rfl)
      refine (h.keep hS (show j + 1 ≤ b by omega) hb fun k h1 h2 ht2 => ?_).symm
      have hne : k ≠ j := by omega
      have := hd.iff h.bk (h.both hS (by omega) hjl hne ht2 ht)
      rcases (hk k (by omega) ht2).2 h2 with q | q
      · have := this.1 q
        omega
      · exact hne q
    · rw [(m2 i ht).1]
      refine hI.mem i b hb (fun k h1 h2 => ?_) hv hlt
      have hne : k ≠ j := by
        rintro rfl
        exact ht h2
      have := hk k h1 h2
      exact ⟨fun q => this.1 (.inl q), fun q => (this.2 q).resolve_right hne⟩
  · have hnj : k ≠ j := fun q => hnd (.inr q)
    have hn : ¬ touch Ms Rz j i := fun ht => by
      have := hd.iff h.bk (h.both hS hk hjl hnj (.inr ⟨h1, h2⟩) ht)
      have q : ¬ k < j := fun q => hnd (.inl (this.2 q))
      rcases ht with ht | ht
      · have := (h.stp j o hj).rd_lt ((h.stp j o hj).wr_rd ht)
        have m := h.mono hS (show j ≤ k by omega) (by omega)
        omega
      · have m := h.mono hS (show j + 1 ≤ k by omega) (by omega)
        omega
    have := hI.own k hk (fun q => hnd (.inl q)) i h1 h2
    rw [(m2 i hn).1, (m2 i hn).2]
    exact this
  · have hn : ¬ touch Ms Rz j i := by
      rintro (ht | ht)
      · have := (h.stp j o hj).rd_lt ((h.stp j o hj).wr_rd ht)
        have m := h.mono hS (show j ≤ ol.length by omega) (Nat.le_refl _)
        omega
      · have m := h.mono hS (show j + 1 ≤ ol.length by omega) (Nat.le_refl _)
        omega
    rw [(m2 i hn).1, (m2 i hn).2]
    exact hI.rest i h1 h2
  · by_cases hdst : dstOf n o = some t
    · rw [lastL hb hdst hk] at hx
      exact v1 t x hdst hx
    · rw [v2 t hdst]
      refine (hI.val t b x hb (fun k o' h1 h2 => ?_) hx).mono le
      have hne : k ≠ j := by
        rintro rfl
        rw [hj] at h1
        cases h1
        exact hdst h2
      have := hk k o' h1 h2
      exact ⟨fun q => this.1 (.inl q), fun q => (this.2 q).resolve_right hne⟩
  · by_cases hdst : dstOf n o = some n
    · rw [lastL hb hdst hk]
      exact d1 hdst
    · rw [d2 hdst]
      refine (hI.dfr b hb (fun k o' h1 h2 => ?_)).mono le
      have hne : k ≠ j := by
        rintro rfl
        rw [hj] at h1
        cases h1
        exact hdst h2
      have := hk k o' h1 h2
      exact ⟨fun q => this.1 (.inl q), fun q => (this.2 q).resolve_right hne⟩
theorem Inv.loc (h : Trc B E self n ops ol Ls Ms Rz cx hi s0) {D : Nat → Prop} {s : At} {a : Act} (hI : Inv B E n ol Ls Ms Rz cx hi s0 D s a) {j : Nat} {o : Oper} (hj : ol[j]? = some o) (hd : Down ol D j) : Loc s.σ (hideL n (Ls j) (hidden n ol (bits ol) j)) n a := by
  have hjl := some_lt hj
  have ord : ∀ {t}, t ∉ hidden n ol (bits ol) j → ∀ k o', ol[k]? = some o' → dstOf n o' = some t → (D k ↔ k < j) := fun {t} hn k o' hk hdst => by
    by_cases hne : k = j
    · subst hne
      exact ⟨fun q => absurd q hd.no, fun q => by omega⟩
    · cases ho : ordered (bits ol) k j with
      | true => exact hd.iff h.bk ho
      | false => exact absurd (hidden_mem hk hne ho hdst) hn
  refine ⟨hI.size, fun t x hx => ?_, ?_⟩
  · by_cases hn : t ∈ hidden n ol (bits ol) j
    · by_cases q : t = n
      · subst q
        rw [hideL_rd (.inl hn)] at hx
        cases hx
        exact .rd _
      · rw [hideL_no q (.inl hn)] at hx
        cases hx
    · rw [hideL_get hn] at hx
      exact hI.val t j x (by omega) (ord hn) hx
  · by_cases hn : n ∈ hidden n ol (bits ol) j
    · rw [hideL_rd (.inl hn)]
      trivial
    · rw [hideL_get hn]
      exact hI.dfr j (by omega) (ord hn)
theorem Inv.fin (h : Trc B E self n ops ol Ls Ms Rz cx hi s0) (hS : SelfOk P B E self) {D : Nat → Prop} {s : At} {a : Act} (hI : Inv B E n ol Ls Ms Rz cx hi s0 D s a) (hall : ∀ k, k < ol.length → D k) {M' : Mem} (e1 : M'.objs = (Ms ol.length).objs) (e2 : M'.next = (Ms ol.length).next) :
    Is B E.ng cx M' hi s ∧ Loc s.σ (Ls ol.length) n a := by
  have h0 := h.hs
  have m := h.mono hS (Nat.zero_le ol.length) (Nat.le_refl _)
  refine ⟨⟨hI.rel, fun i hv hlt => ?_, fun i h1 h2 => ?_, h0.lo, ?_, ?_, fun g hg => ?_, fun i h1 => ?_, ?_⟩, hI.size, fun t x hx => ?_, ?_⟩
  · rw [e1]
    rw [e2] at hlt
    exact hI.mem i ol.length (Nat.le_refl _) (fun k hk _ => ⟨fun _ => hk, fun _ => hall k hk⟩) (.inl hv) hlt
  · rw [e2] at h1
    exact hI.rest i h1 h2
  · rw [e2]
    exact Nat.le_trans h0.gl m
  · rw [e2]
    exact h.last
  · obtain ⟨z, hz⟩ := h0.gb g hg
    exact ⟨z, hI.to.le _ _ hz⟩
  · rw [e1]
    rw [e2] at h1
    exact h.tops hS (Nat.le_refl _) i h1
  · rw [e2]
    exact Nat.le_trans h0.ol m
  · exact hI.val t ol.length x (Nat.le_refl _) (fun k o hk _ => ⟨fun _ => some_lt hk, fun _ => hall k (some_lt hk)⟩) hx
  · exact hI.dfr ol.length (Nat.le_refl _) (fun k o hk _ => ⟨fun _ => some_lt hk, fun _ => hall k (some_lt hk)⟩)
end
end GrG
namespace GrG
open Go Go.RowKit
section
variable {P : Program} {B : World} {E : Env} {self : Self} {n : Nat} {ops : Array Oper} {ol : List Oper} {Ls : Nat → T AV} {Ms : Nat → Mem} {Rz : Nat → Rec} {cx : Cx} {hi : Nat} {s0 s : At} {M M' : Mem} {L : T AV} {a : Act}
theorem evOne_ok (ro : Option Nat) (hE : EnvOk P E) (hS : SelfOk P B E self) (hs : Is B E.ng cx M hi s) (hL : Loc s.σ L n a) {o : Oper} {Q : Exit → Act → World → Prop} {K : Act → World → Prop} (h : (evOne E self n ops L M o).All (Nx B E.ng cx M hi s o a K)) :
    if Region.wanted o (yielded ops a.tmps) = true then o.wpIn (fw ro) 0 P a s.W K Q else (∀ f, o.about P s.W a.eval = some f → (fw ro).fn f) ∧ K (a.put o.dst undef) s.W := by
  unfold evOne at h
  split at h
  · next ew =>
    rw [ewant_sound hL ew]
    exact evOp_ok ro hE hS hs hL h
  · next ew =>
    rw [ewant_sound hL ew]
    refine ⟨fun _ _ => trivial, ?_⟩
    exact (h.all _ _ ⟨rfl, rfl⟩).2.2 s undef hs .refl (.tup .nil)
  · exact absurd rfl h.is
theorem wpOp_of {ro : Option Nat} {o : Oper} {i : Nat} {w : World} {Q : Exit → Act → World → Prop} {K : Act → World → Prop} (ho : ops[i]? = some o) (h : if Region.wanted o (yielded ops a.tmps) = true then o.wpIn (fw ro) 0 P a w K Q else (∀ f, o.about P w a.eval = some f → (fw ro).fn f) ∧ K (a.put o.dst undef) w) : wpOpIn (fw ro) 0 P ops Q i K a w := by
  unfold wpOpIn
  rw [ho]
  exact h
theorem Trc.ord (h : Trc B E self n ops ol Ls Ms Rz cx hi s0) {D : Nat → Prop} {j : Nat} (hd : Down ol D j) {t : Nat} (hn : t ∉ hidden n ol (bits ol) j) : ∀ k o', ol[k]? = some o' → dstOf n o' = some t → (D k ↔ k < j) := fun k o' hk hdst => by
  by_cases hne : k = j
  · subst hne
    exact ⟨fun q => absurd q hd.no, fun q => by omega⟩
  · cases ho : ordered (bits ol) k j with
    | true => exact hd.iff h.bk ho
    | false => exact absurd (hidden_mem hk hne ho hdst) hn
theorem dst_of {o : Oper} (h : isDfr o.op = false) : dstOf n o = o.dst := by
  unfold dstOf
  split
  · next c hop => rw [hop] at h; cases h
  · rfl
theorem dst_dfr {o : Oper} (h : isDfr o.op = true) : dstOf n o = some n := by
  unfold dstOf
  split
  · rfl
  · next hne =>
    unfold isDfr at h
    split at h
    · next hop => exact absurd hop (hne _)
    · cases h
theorem okOp_none {hid : List Nat} {o : Oper} (h : okOp hid n o = true) (hd : isDfr o.op = true) : o.dst = none := by
  unfold okOp at h
  cases e : o.dst with
  | none => rfl
  | some d => rw [hd, e] at h; cases h
theorem Inv.value (h : Trc B E self n ops ol Ls Ms Rz cx hi s0) (hS : SelfOk P B E self) {D : Nat → Prop} {s' : At} (hI : Inv B E n ol Ls Ms Rz cx hi s0 D s a) {j : Nat} {o : Oper} (hj : ol[j]? = some o) (hd : Down ol D j) {v : AV} {q : Value} (hp : putL (Ls j) n o.dst v = some (Ls (j + 1)))
    (le : s.σ.le s'.σ) (rel : RelM B E.ng s'.σ s'.F s'.W) (m1 : ∀ i, touch Ms Rz j i → s'.F i = (Ms (j + 1)).objs.get i) (m2 : ∀ i, ¬ touch Ms Rz j i → s'.F i = s.F i ∧ s'.σ i = s.σ i) (hv : VRel s'.σ v q) :
    Inv B E n ol Ls Ms Rz cx hi s0 (fun k => D k ∨ k = j) s' (a.put o.dst q) := by
  have hjl := some_lt hj
  have hok := h.ok j o hj
  cases hdf : isDfr o.op with
  | true =>
    have hdn := okOp_none hok hdf
    have hdd := dst_dfr (n := n) hdf
    rw [hdn] at hp ⊢
    have hLL : Ls (j + 1) = Ls j := by
      simp only [putL, Option.some.injEq] at hp
      exact hp.symm
    refine hI.step h hS hj hd le rel m1 m2 hI.size (fun t x ht hx => ?_) (fun t _ => rfl) (fun ht => ?_) (fun _ => rfl)
    · rw [hLL] at hx
      exact (hI.val t j x (by omega) (h.ord hd (okOp_dst hok ht)) hx).mono le
    · rw [hLL]
      exact (hI.dfr j (by omega) (h.ord hd (okOp_dst hok ht))).mono le
  | false =>
    have hdd := dst_of (n := n) hdf
    refine hI.step h hS hj hd le rel m1 m2 (by rw [put_size]; exact hI.size) (fun t x ht hx => ?_) (fun t ht => ?_) (fun ht => ?_) (fun _ => put_dfr)
    · rw [hdd] at ht
      rw [ht] at hp ⊢
      simp only [putL] at hp
      split at hp
      · next e1 =>
        simp only [Option.some.injEq] at hp
        rw [← hp, T.get_set_eq] at hx
        cases hx
        rw [put_tmps_self hI.size (blt_t e1)]
        exact hv
      · cases hp
    · rw [hdd] at ht
      cases ed : o.dst with
      | none => rfl
      | some d =>
        refine put_tmps_ne ?_
        rintro rfl
        exact ht ed
    · rw [hdd] at ht
      rw [ht] at hp
      simp only [putL] at hp
      split at hp
      · next e1 => exact absurd (blt_t e1) (Nat.lt_irrefl _)
      · cases hp
def cxOf (M M' : Mem) : Cx where
  vis := fun i => i ∈ M'.rd ∨ i ∈ M'.wr ∨ M.next ≤ i
  wok := fun i => i ∈ M'.wr ∨ M.next ≤ i
  lo := M.next
  own := fun _ h => .inr h
  seen := fun _ h => .inr h
theorem Trc.is (h : Trc B E self n ops ol Ls Ms Rz cx hi s0) (hS : SelfOk P B E self) {D : Nat → Prop} (hI : Inv B E n ol Ls Ms Rz cx hi s0 D s a) {j : Nat} {o : Oper} (hj : ol[j]? = some o) (hd : Down ol D j) (hr : Rz j = evD.mkRec j (Ms j) (Ms (j + 1))) :
    Is B E.ng (cxOf (Ms j) (Ms (j + 1))) (Ms j).fresh (Ms (j + 1)).next s := by
  have h0 := h.hs
  have hjl := some_lt hj
  have m := h.mono hS (Nat.zero_le j) (by omega)
  have m1 := h.mono hS (show j ≤ j + 1 by omega) (by omega)
  have rdi : ∀ i, i ∈ (Ms (j + 1)).rd ∨ i ∈ (Ms (j + 1)).wr → i < (Ms j).next → i ∈ (Rz j).rd := fun i q hlt => by
    rw [hr]
    exact once_leaf (lows_mem.2 ⟨List.mem_append.2 q.symm, hlt⟩)
  refine ⟨hI.rel, fun i hv hlt => ?_, fun i h1 h2 => hI.own j hjl hd.no i h1 h2, fun i hw => ?_, Nat.le_trans h0.gl m, m1, fun g hg => ?_, h.tops hS (by omega), Nat.le_refl _⟩
  · have hlt : i < (Ms j).next := hlt
    have hrd : i ∈ (Rz j).rd := by
      rcases hv with hv | hv | hv
      · exact rdi i (.inl hv) hlt
      · exact rdi i (.inr hv) hlt
      · omega
    refine hI.mem i j (by omega) (fun k hk ht => ?_) ?_ hlt
    · by_cases hne : k = j
      · subst hne
        exact ⟨fun q => absurd q hd.no, fun q => by omega⟩
      · cases ho : ordered (bits ol) k j with
        | true => exact hd.iff h.bk ho
        | false => exact absurd hrd (h.sep hS hk hjl hne ho ht)
    · by_cases q : i < (Ms 0).next
      · exact .inl (h.look j o hj i hrd q)
      · exact .inr (by omega)
  · have hgl := h0.gl
    by_cases q : i < (Ms 0).next
    · rcases hw with hw | hw
      · refine h0.lo i (h.wrk j o hj i ?_ q)
        rw [hr]
        exact once_leaf (lows_mem.2 ⟨hw, by omega⟩)
      · omega
    · omega
  · obtain ⟨z, hz⟩ := h0.gb g hg
    exact ⟨z, hI.to.le _ _ hz⟩
theorem Trc.rd (h : Trc B E self n ops ol Ls Ms Rz cx hi s0) (h0 : (Ls 0).get n = some .rd) : ∀ {j : Nat}, j ≤ ol.length → (Ls j).get n = some .rd := by
  intro j
  induction j with
  | zero => intro _; exact h0
  | succ j ih =>
    intro hj
    obtain ⟨o, ho⟩ := lt_some (ol := ol) (k := j) (by omega)
    have := ih (by omega)
    cases h.stp j o ho with
    | soft e hi' hr hp hM => rw [putL_rd hp]; exact this
    | hard e hr hp => rw [putL_rd hp]; exact this
    | dfr e hd ho' hr hp => exact putD_rd hp this
theorem softLook_eq {o : Oper} {v : AV} {i : Nat} {f : Mem → Bool} (e : softLook E L M o = some (v, i, f)) : mapsOn = true ∧ ∃ t x y k z ky, o.op = .lookup t x y false ∧ o.guard = none ∧ mtys E t = some (z, ky) ∧ aev x E L = some (.map i) ∧ aev y E L = some k ∧ pkey ky k = true ∧ peek z i k M = some v ∧ ∀ M', f M' = true → peek z i k M' = some v := by
  obtain ⟨hm, e⟩ := mp_some e
  unfold softLookM at e
  split at e
  · next t x y e1 e2 =>
    split at e
    · next z ky i' k f1 f2 f3 =>
      split at e
      · next v' g1 g2 =>
        simp only [Option.some.injEq, Prod.mk.injEq] at e
        obtain ⟨rfl, rfl, rfl⟩ := e
        refine ⟨hm, t, x, y, k, z, ky, e1, e2, f1, f2, f3, g1, g2, fun M' hf => ?_⟩
        simp only at hf
        split at hf
        · next w hw => rw [hw, eqa_eq hf]
        · cases hf
      · cases e
    · cases e
  · cases e
theorem peek_lookup (hm : mapsOn = true) {t i : Nat} {k z v : AV} {ky : TyI} (e1 : mtys E t = some (z, ky)) (e2 : pkey ky k = true) (e3 : peek z i k M = some v) : elookup E M t (.map i) k false = some (v, M.saw i) := by
  unfold peek at e3
  unfold elookup
  simp only [e1, e2]
  split at e3
  · next es ck em =>
    simp only [em]
    split at e3
    · next e he => cases e3; simp only [he]
    · next he => cases e3; simp only [he]
    · cases e3
  · cases e3
theorem Trc.latest (h : Trc B E self n ops ol Ls Ms Rz cx hi s0) (hS : SelfOk P B E self) {D : Nat → Prop} {j : Nat} (hjl : j < ol.length) (hd : Down ol D j) {i : Nat} (hearly : ∀ k, k < j → touch Ms Rz k i → D k) (hnot : ¬ touch Ms Rz j i) :
    (∀ k, k < ol.length → touch Ms Rz k i → (D k ↔ k < j)) ∨ ∃ K, j < K ∧ K < ol.length ∧ D K ∧ touch Ms Rz K i ∧ ∀ k, k < ol.length → touch Ms Rz k i → (D k ↔ k < K + 1) := by
  have main : ∀ m, m ≤ ol.length → (∀ k, k < m → touch Ms Rz k i → j < k → ¬ D k) ∨ ∃ K, j < K ∧ K < m ∧ D K ∧ touch Ms Rz K i ∧ ∀ k, K < k → k < m → touch Ms Rz k i → ¬ D k := by
    intro m
    induction m with
    | zero => intro _; exact .inl fun k hk => by omega
    | succ m ih =>
      intro hm
      by_cases q : touch Ms Rz m i ∧ j < m ∧ D m
      · exact .inr ⟨m, q.2.1, by omega, q.2.2, q.1, fun k h1 h2 => by omega⟩
      · rcases ih (by omega) with h1 | ⟨K, h1, h2, h3, h4, h5⟩
        · refine .inl fun k hk ht hjk hD => ?_
          by_cases e : k = m
          · subst e; exact q ⟨ht, hjk, hD⟩
          · exact h1 k (by omega) ht hjk hD
        · refine .inr ⟨K, h1, by omega, h3, h4, fun k h6 h7 ht hD => ?_⟩
          by_cases e : k = m
          · subst e; exact q ⟨ht, by omega, hD⟩
          · exact h5 k h6 (by omega) ht hD
  have lowD : ∀ k, touch Ms Rz k i → k < j → D k := fun k ht hlt => hearly k hlt ht
  rcases main ol.length (Nat.le_refl _) with h1 | ⟨K, h1, h2, h3, h4, h5⟩
  · refine .inl fun k hk ht => ⟨fun hD => ?_, fun hlt => lowD k ht hlt⟩
    rcases Nat.lt_trichotomy k j with q | q | q
    · exact q
    · subst q; exact absurd ht hnot
    · exact absurd hD (h1 k hk ht q)
  · refine .inr ⟨K, h1, h2, h3, h4, fun k hk ht => ⟨fun hD => ?_, fun hlt => ?_⟩⟩
    · rcases Nat.lt_or_ge K k with q | q
      · exact absurd hD (h5 k q hk ht)
      · omega
    · by_cases e : k = K
      · subst e; exact h3
      · have ho := h.both hS hk h2 e ht h4
        unfold ordered at ho
        rw [Bool.or_eq_true] at ho
        rcases ho with ho | ho
        · have := bits_lt h.bk _ _ ho
          omega
        · exact hd.dc K k h3 ho
theorem op_step (ro : Option Nat) (hE : EnvOk P E) (hS : SelfOk P B E self) (h : Trc B E self n ops ops.toList Ls Ms Rz cx hi s0) (hrd : ro ≠ none → (Ls 0).get n = some .rd) {D : Nat → Prop} (hI : Inv B E n ops.toList Ls Ms Rz cx hi s0 D s a) {j : Nat} {o : Oper} (hj : ops[j]? = some o) (hd : Down ops.toList D j)
    {Q : Exit → Act → World → Prop} {K : Act → World → Prop} (hK : ∀ s' a', Inv B E n ops.toList Ls Ms Rz cx hi s0 (fun k => D k ∨ k = j) s' a' → K a' s'.W) : wpOpIn (fw ro) 0 P ops Q j K a s.W := by
  have hj' : ops.toList[j]? = some o := by rw [Array.getElem?_toList]; exact hj
  have hjl := some_lt hj'
  have hloc := hI.loc h hj' hd
  have hst := h.stp j o hj'
  have m1 := h.mono hS (show j ≤ j + 1 by omega) (by omega)
  cases hst with
  | hard e hr hp =>
    have his := h.is hS hI hj' hd hr
    refine wpOp_of hj (evOne_ok ro hE hS his hloc ?_)
    rw [e]
    refine .one ⟨⟨fun i q => .inl q, fun i q => .inl q⟩, Nat.le_refl _, fun s' q q1 q2 q3 => hK s' _ (hI.value h hS hj' hd hp q2.le q1.rel (fun i ht => ?_) (fun i ht => ?_) q3)⟩
    · rcases ht with ht | ht
      · have hlt := (h.stp j o hj').rd_lt ((h.stp j o hj').wr_rd ht)
        rw [hr] at ht
        exact q1.vis i (.inr (.inl (lows_mem.1 (once_sub ht)).1)) (by omega)
      · exact q1.vis i (.inr (.inr ht.1)) ht.2
    · refine q2.keep i ?_
      by_cases hlt : i < (Ms j).next
      · refine .inl ⟨fun hw => ?_, hlt⟩
        rcases hw with hw | hw
        · refine ht (.inl ?_)
          rw [hr]
          exact once_leaf (lows_mem.2 ⟨hw, hlt⟩)
        · omega
      · right
        rcases Nat.lt_or_ge i (Ms (j + 1)).next with q | q
        · exact absurd (.inr ⟨by omega, q⟩) ht
        · exact q
  | dfr e hdf ho hr hp =>
    have his := h.is hS hI hj' hd hr
    have hro : ro = none := by
      cases ro with
      | none => rfl
      | some r =>
        have := h.rd (hrd (by simp)) (show j ≤ ops.toList.length by omega)
        unfold putD at hp
        rw [this] at hp
        cases hp
    subst hro
    have hM := evOne_dfr_gr hdf e
    have hdd := dst_dfr (n := n) hdf
    have hnh := okOp_dst (h.ok j o hj') hdd
    unfold evOne at e
    split at e
    · next ew =>
      obtain ⟨_, q, q1, q2⟩ := evDefer_ok his hloc hdf e
      refine wpOp_of hj ?_
      rw [ewant_sound hloc ew]
      refine q2 _ _ ?_
      rw [ho]
      have hnt : ∀ i, ¬ touch Ms Rz j i := fun i ht => by
        rcases ht with ht | ht
        · rw [hr] at ht
          have := (lows_mem.1 (once_sub ht)).1
          rw [hM] at this
          cases this
        · have h2 := ht.2
          have : (Ms (j + 1)).next = (Ms j).next := by rw [hM]; rfl
          omega
      refine hK s _ (hI.step h hS hj' hd (.refl _) hI.rel (fun i ht => absurd ht (hnt i)) (fun i _ => ⟨rfl, rfl⟩) hI.size (fun t x ht hx => ?_) (fun t _ => rfl) (fun _ => ?_) (fun hne => absurd hdd hne))
      · rw [hdd] at ht
        cases ht
        unfold putD at hp
        split at hp
        · rw [Option.some.injEq] at hp
          rw [← hp, T.get_set_eq] at hx
          cases hx
          exact .dl _ _
        · rw [Option.some.injEq] at hp
          rw [← hp, T.get_set_eq] at hx
          cases hx
          exact .dl _ _
        · cases hp
      · have hg := hideL_get (L := Ls j) hnh (n := n)
        unfold putD at hp
        split at hp
        · next e0 =>
          rw [Option.some.injEq] at hp
          have := (q1 _ (by unfold putD; rw [hg, e0])).dfr
          rw [T.get_set_eq] at this
          rw [← hp, T.get_set_eq]
          exact this
        · next e0 =>
          rw [Option.some.injEq] at hp
          have := (q1 _ (by unfold putD; rw [hg, e0])).dfr
          rw [T.get_set_eq] at this
          rw [← hp, T.get_set_eq]
          exact this
        · cases hp
    · cases e
    · cases e
  | soft e hi' hr hp hM =>
    obtain ⟨hm, t, x, y, k, z, ky, hop, hg, f1, f2, f3, f4, f5, f6⟩ := softLook_eq e
    rename_i v i f
    have hnt : ∀ i, ¬ touch Ms Rz j i := fun i ht => by
      rcases ht with ht | ht
      · rw [hr] at ht
        cases ht
      · rw [hM] at ht
        omega
    have hsoft : (Rz j).soft = some (i, f) := by rw [hr]
    have htouch_lo : ∀ k, k < j → touch Ms Rz k i → D k := fun k hk ht => by
      cases ho : ordered (bits ops.toList) k j with
      | true => exact (hd.iff h.bk ho).2 hk
      | false =>
        exfalso
        have ha := (h.ap j o hj' k hk (by rw [ordered_comm]; exact ho)).late i f hsoft
        obtain ⟨ok, eok⟩ := lt_some (ol := ops.toList) (k := k) (by omega)
        rcases ht with ht | ht
        · exact ha.1 ht
        · rw [(h.stp k ok eok).rlo, (h.stp k ok eok).rhi] at ha
          exact ha.2 ht
    have hvis : cx.vis i ∨ (Ms 0).next ≤ i := by
      by_cases q : i < (Ms 0).next
      · exact .inl (h.soft j o hj' i f hsoft q)
      · exact .inr (by omega)
    have main : ∃ Mx : Mem, s.F i = Mx.objs.get i ∧ i < Mx.next ∧ (∀ i, Mx.next ≤ i → Mx.objs.get i = none) ∧ (Ms 0).next ≤ Mx.next ∧ peek z i k Mx = some v := by
      rcases h.latest hS hjl hd htouch_lo (hnt i) with hq | ⟨K, k1, k2, k3, k4, k5⟩
      · exact ⟨Ms j, hI.mem i j (by omega) hq hvis hi', hi', h.tops hS (by omega), h.mono hS (Nat.zero_le _) (by omega), f5⟩
      · obtain ⟨oK, eK⟩ := lt_some (ol := ops.toList) (k := K) k2
        have mm := h.mono hS (show j ≤ K by omega) (by omega)
        have mm2 := h.mono hS (show K ≤ K + 1 by omega) (by omega)
        have hun : ordered (bits ops.toList) K j = false := by
          cases ho : ordered (bits ops.toList) K j with
          | false => rfl
          | true =>
            have := (hd.iff h.bk ho).1 k3
            omega
        have ha := (h.ap K oK eK j k1 hun).soft i f hsoft
        have hw : i ∈ (Rz K).wr := by
          rcases k4 with k4 | k4
          · exact k4
          · omega
        exact ⟨Ms (K + 1), hI.mem i (K + 1) (by omega) k5 hvis (by omega), by omega, h.tops hS (by omega), h.mono hS (Nat.zero_le _) (by omega), f6 _ (ha hw)⟩
    obtain ⟨Mx, x1, x2, x3, x4, x5⟩ := main
    have hgl := h.hs.gl
    let cs : Cx := { vis := fun i' => i' = i ∨ Mx.next ≤ i', wok := fun i' => Mx.next ≤ i', lo := Mx.next, own := fun _ h => h, seen := fun _ h => .inr h }
    have his : Is B E.ng cs Mx.fresh Mx.next s := ⟨hI.rel, fun i' hv hlt => by
        have hlt : i' < Mx.next := hlt
        rcases hv with rfl | hv
        · exact x1
        · exact absurd hlt (by omega), fun i' h1 h2 => by
        have h1 : Mx.next ≤ i' := h1
        omega, fun i' hw => by
        have hw : Mx.next ≤ i' := hw
        omega, Nat.le_trans hgl x4, Nat.le_refl _, fun g hg => by
        obtain ⟨z, hz⟩ := h.hs.gb g hg
        exact ⟨z, hI.to.le _ _ hz⟩, x3, Nat.le_refl _⟩
    have hx := hloc.val
    have r1 : VRel s.σ (.map i) (a.eval x) := aev_rel hloc his f2
    have r2 : VRel s.σ k (a.eval y) := aev_rel hloc his f3
    have hpk : peek z i k Mx.fresh = some v := x5
    have hlog : LogOk cs (Mx.fresh.saw i) := by
      refine ⟨fun i' hi' => ?_, fun i' hi' => ?_⟩
      · rcases List.mem_cons.1 hi' with rfl | hi'
        · exact .inl rfl
        · cases hi'
      · cases hi'
    obtain ⟨q, q1, q2⟩ := elookup_sound (P := P) hE his r1 r2 (peek_lookup hm f1 f4 hpk) hlog
    refine wpOp_of hj ?_
    have hw : Region.wanted o (yielded ops a.tmps) = true := by unfold Region.wanted; rw [hg]
    rw [if_pos hw]
    refine op_val (fun c q => by rw [hop] at q; cases q) (q := q) (W' := s.W) ?_ (hK s _ (hI.value h hS hj' hd hp (.refl _) hI.rel (fun i ht => absurd ht (hnt i)) (fun i _ => ⟨rfl, rfl⟩) q1))
    have he : execOp a.eval o = (do pure (.value (← Instr.lookup t (a.eval x) (a.eval y) false))) := by simp only [execOp, hop]
    rw [he, Sem.run_bind, q2, Result.andThen_ok]
    rfl
def cnt (f : Nat → Bool) : Nat → Nat
  | 0 => 0
  | k + 1 => cnt f k + (if f k = true then 0 else 1)
theorem cnt_same {f g : Nat → Bool} : ∀ {N : Nat}, (∀ k, k < N → g k = f k) → cnt g N = cnt f N
  | 0, _ => rfl
  | N + 1, h => by
    simp only [cnt]
    rw [cnt_same fun k hk => h k (by omega), h N (by omega)]
theorem cnt_set {f g : Nat → Bool} {j : Nat} (h1 : ∀ k, k ≠ j → g k = f k) (h2 : f j = false) (h3 : g j = true) : ∀ {N : Nat}, j < N → cnt g N + 1 = cnt f N
  | 0, h => by omega
  | N + 1, h => by
    simp only [cnt]
    by_cases q : j = N
    · subst q
      rw [cnt_same (g := g) (f := f) fun k hk => h1 k (by omega), h2, h3]
      simp
    · have := cnt_set h1 h2 h3 (N := N) (by omega)
      rw [h1 N (Ne.symm q)]
      omega
theorem cnt_all {f : Nat → Bool} : ∀ {N : Nat}, cnt f N = 0 → ∀ k, k < N → f k = true
  | 0, _, k, hk => by omega
  | N + 1, h, k, hk => by
    simp only [cnt] at h
    by_cases q : k = N
    · subst q
      cases e : f k with
      | true => rfl
      | false => rw [e] at h; simp at h
    · exact cnt_all (N := N) (by omega) k (by omega)
theorem cnt_le {f : Nat → Bool} : ∀ {N : Nat}, cnt f N ≤ N
  | 0 => Nat.le_refl _
  | N + 1 => by
    simp only [cnt]
    have := cnt_le (f := f) (N := N)
    split <;> omega
theorem ready_all {listed : Array Bool} (hb : backs ops.toList = true) (h : Region.ready .any ops listed = []) (hz : listed.size = ops.size) : ∀ k, k < ops.size → listed.getD k false = true := by
  intro k
  induction k using Nat.strongRecOn with
  | _ k ih =>
    intro hk
    cases e : listed.getD k false with
    | true => rfl
    | false =>
      exfalso
      have ho : ops[k]? = some ops[k] := Array.getElem?_eq_getElem hk
      have : k ∈ Region.ready .any ops listed := by
        refine mem_ready.2 ⟨?_, _, ho, fun e' he' hbd => ?_⟩
        · rw [Array.getD_eq_getD_getElem?] at e ⊢
          have hl : k < listed.size := by omega
          rw [Array.getElem?_eq_getElem hl] at e ⊢
          exact e
        · have hlt := backs_t hb (k := k) (o := ops[k]) (by rw [Array.getElem?_toList]; exact ho) (Array.mem_def.1 he') hbd
          exact ih e'.on hlt (by omega)
      rw [h] at this
      cases this
theorem any_ok (ro : Option Nat) (hE : EnvOk P E) (hS : SelfOk P B E self) (h : Trc B E self n ops ops.toList Ls Ms Rz cx hi s0) (hrd : ro ≠ none → (Ls 0).get n = some .rd) {Q : Exit → Act → World → Prop}
    (hQ : ∀ s a, Is B E.ng cx (Ms ops.size).fresh hi s → To cx (Ms 0).next hi s0 s → Loc s.σ (Ls ops.size) n a → Q .normal a s.W) : ∀ (fuel : Nat) (listed : Array Bool) (s : At) (a : Act), listed.size = ops.size → cnt (fun k => listed.getD k false) ops.size ≤ fuel →
    (∀ k p, listed.getD k false = true → Nat.testBit ((bits ops.toList).getD k 0) p = true → listed.getD p false = true) → Inv B E n ops.toList Ls Ms Rz cx hi s0 (fun k => listed.getD k false = true) s a → wpAnyIn (fw ro) 0 P .any ops Q fuel listed a s.W := by
  have hlen : ops.toList.length = ops.size := by simp
  have done : ∀ (listed : Array Bool) (s : At) (a : Act), Inv B E n ops.toList Ls Ms Rz cx hi s0 (fun k => listed.getD k false = true) s a → (∀ k, k < ops.size → listed.getD k false = true) → Q .normal a s.W := fun listed s a hI hall => by
    obtain ⟨k1, k2⟩ := hI.fin h hS (M' := (Ms ops.size).fresh) (fun k hk => hall k (by omega)) (by rw [hlen]; rfl) (by rw [hlen]; rfl)
    rw [hlen] at k2
    exact hQ s a k1 hI.to k2
  intro fuel
  induction fuel with
  | zero =>
    intro listed s a hz hc hdc hI
    have hall := cnt_all (Nat.le_zero.1 hc)
    refine ⟨?_, done listed s a hI hall⟩
    cases hr : Region.ready .any ops listed with
    | nil => rfl
    | cons j l =>
      exfalso
      have hj : j ∈ Region.ready .any ops listed := by rw [hr]; exact List.mem_cons_self ..
      obtain ⟨e, o, ho, _⟩ := mem_ready.1 hj
      have hlt : j < ops.size := (Array.getElem?_eq_some_iff.1 ho).1
      have := hall j hlt
      rw [Array.getD_eq_getD_getElem?, Array.getElem?_eq_getElem (by omega)] at this e
      rw [Option.getD_some] at this e
      rw [this] at e
      cases e
  | succ fuel ih =>
    intro listed s a hz hc hdc hI
    refine ⟨fun hr => done listed s a hI (ready_all h.bk hr hz), fun j hj => ?_⟩
    obtain ⟨e, o, ho, hed⟩ := mem_ready.1 hj
    have hlt : j < ops.size := (Array.getElem?_eq_some_iff.1 ho).1
    have hljs : j < listed.size := by omega
    have hno : listed.getD j false = false := by
      rw [Array.getD_eq_getD_getElem?, Array.getElem?_eq_getElem hljs] at e ⊢
      exact e
    have hpre : ∀ p, Nat.testBit ((bits ops.toList).getD j 0) p = true → listed.getD p false = true := fun p hp => by
      obtain ⟨o', e1, e', e2, e3, e4⟩ := bits_edge hp
      rw [Array.getElem?_toList, ho] at e1
      cases e1
      have he := hed e' (Array.mem_def.2 e2) e3
      rcases e4 with rfl | e4
      · exact he
      · exact hdc _ _ he e4
    have hset : ∀ k, (listed.setIfInBounds j true).getD k false = if k = j then true else listed.getD k false := fun k => by
      rw [Array.getD_eq_getD_getElem?, Array.getD_eq_getD_getElem?]
      by_cases q : k = j
      · subst q
        rw [Array.getElem?_setIfInBounds_self_of_lt hljs, if_pos rfl]
        rfl
      · rw [Array.getElem?_setIfInBounds_ne (Ne.symm q), if_neg q]
    refine op_step ro hE hS h hrd hI ho ⟨fun k p => hdc k p, by rw [hno]; simp, hpre⟩ fun s' a' hI' => ih _ s' a' (by simpa using hz) ?_ ?_ ?_
    · have := cnt_set (f := fun k => listed.getD k false) (g := fun k => (listed.setIfInBounds j true).getD k false) (j := j) (fun k hk => by rw [hset, if_neg hk]) hno (by rw [hset, if_pos rfl]) hlt
      omega
    · intro k p hk hp
      rw [hset] at hk ⊢
      split
      · rfl
      · split at hk
        · next q => subst q; exact hpre p hp
        · exact hdc k p hk hp
    · have : (fun k => (listed.setIfInBounds j true).getD k false = true) = fun k => listed.getD k false = true ∨ k = j := funext fun k => propext (by
        rw [hset]
        by_cases q : k = j
        · simp [q]
        · simp [q])
      rw [this]
      exact hI'
end
end GrG
