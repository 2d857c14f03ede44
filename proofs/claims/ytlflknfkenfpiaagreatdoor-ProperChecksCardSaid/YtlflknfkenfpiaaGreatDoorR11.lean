/-
  Texts of one claim, merged.
-/
import Derived.Test.YtlflknfkenfpiaaGreatDoorR09
import Derived.Laws.Strings
import Derived.Laws.Concat
import Derived.Laws.Cover1
set_option linter.unusedSimpArgs false
set_option linter.unusedVariables false
namespace GrG
open Go Go.RowKit
theorem sB_size (s : List Nat) : (sB s).size = s.length := by
  show ((s.map UInt8.ofNat).toArray).size = _
  simp
theorem sB_toList (s : List Nat) : (sB s).toList = s.map UInt8.ofNat := by
  rw [ByteArray.toList_eq]
  simp [sB]
theorem sB_data (s : List Nat) : (sB s).data.toList = s.map UInt8.ofNat := by simp [sB]
theorem ba_ext {a b : ByteArray} (h : a.data.toList = b.data.toList) : a = b := by
  cases a; cases b
  simp only at h
  congr 1
  exact Array.toList_inj.1 h
theorem sB_app (s t : List Nat) : sB s ++ sB t = sB (s ++ t) := ba_ext (by simp [sB])
theorem ofNat_inj {x y : Nat} (hx : x < 256) (hy : y < 256) (h : UInt8.ofNat x = UInt8.ofNat y) : x = y := by
  have := congrArg UInt8.toNat h
  simp only [UInt8.toNat_ofNat'] at this
  rw [Nat.mod_eq_of_lt hx, Nat.mod_eq_of_lt hy] at this
  exact this
theorem leq_eq : ∀ (s t : List Nat), (∀ x ∈ s, x < 256) → (∀ x ∈ t, x < 256) → ((s.map UInt8.ofNat) == (t.map UInt8.ofNat)) = leq s t
  | [], [], _, _ => rfl
  | [], b :: m, _, _ => rfl
  | a :: l, [], _, _ => rfl
  | a :: l, b :: m, hs, ht => by
    have ih := leq_eq l m (fun x hx => hs x (List.mem_cons_of_mem _ hx)) fun x hx => ht x (List.mem_cons_of_mem _ hx)
    have ha := hs a (List.mem_cons_self ..)
    have hb := ht b (List.mem_cons_self ..)
    rw [leq]
    simp only [List.map_cons, List.cons_beq_cons, ih]
    cases e : Nat.beq a b with
    | true =>
      obtain rfl := beq_t e
      simp
    | false =>
      have : ¬ UInt8.ofNat a = UInt8.ofNat b := fun h => beq_f e (ofNat_inj ha hb h)
      simp [this]
theorem kn_inj {k l : IntKind} (h : Nat.beq (kn k) (kn l) = true) : k = l := by cases k <;> cases l <;> first | rfl | cases h
theorem ieq_eq (x y : Int) : ieq x y = (x == y) := by
  cases x <;> cases y <;> simp only [ieq]
  · next a b =>
    cases e : Nat.beq a b with
    | true => rw [beq_t e]; simp
    | false =>
      have h := beq_f e
      have : ¬ (Int.ofNat a = Int.ofNat b) := fun q => h (Int.ofNat.inj q)
      exact (beq_eq_false_iff_ne.2 this).symm
  · rfl
  · rfl
  · next a b =>
    cases e : Nat.beq a b with
    | true => rw [beq_t e]; simp
    | false =>
      have h := beq_f e
      have : ¬ (Int.negSucc a = Int.negSucc b) := fun q => h (Int.negSucc.inj q)
      exact (beq_eq_false_iff_ne.2 this).symm
theorem wrN_eq (k : IntKind) (r : Nat) (h : r < lim2 k) : wrN k r = (if k.signed && (r : Int) ≥ (2 ^ (k.bits - 1) : Int) then (r : Int) - (2 ^ k.bits : Int) else (r : Int)) := by
  unfold wrN
  cases e : Nat.blt r (lim k) with
  | true =>
    have e := blt_t e
    cases k <;> (simp only [lim, lim2] at e h; simp [IntKind.signed, IntKind.bits]; try omega)
  | false =>
    have e := blt_f e
    cases k <;> (simp only [lim, lim2] at e h; simp only [lim2]; simp [IntKind.signed, IntKind.bits]; try omega)
theorem uk_eq (k : IntKind) (x : Int) : ((uk k x : Nat) : Int) = x % (2 ^ k.bits : Int) := by
  cases x with
  | ofNat m => cases k <;> simp [uk, lim2, IntKind.bits] <;> omega
  | negSucc m => cases k <;> simp only [uk, lim2, IntKind.bits] <;> omega
theorem uk_lt (k : IntKind) (x : Int) : uk k x < lim2 k := by
  cases x with
  | ofNat m => cases k <;> simp [uk, lim2] <;> omega
  | negSucc m => cases k <;> simp [uk, lim2] <;> omega
theorem wrN_uk (k : IntKind) (x : Int) : wrN k (uk k x) = k.wrap x := by
  rw [wrN_eq k _ (uk_lt k x), uk_eq]
  rfl
theorem wr_eq (k : IntKind) (n : Int) : wr k n = k.wrap n := by
  rw [← wrN_uk]
  cases n with
  | ofNat m =>
    simp only [wr]
    cases e : Nat.blt m (lim k) with
    | true =>
      have e := blt_t e
      have h : m % lim2 k = m := Nat.mod_eq_of_lt (Nat.lt_of_lt_of_le e (by cases k <;> decide))
      simp only [uk, h, wrN]
      have : Nat.blt m (lim k) = true := by simpa [Nat.blt_eq] using e
      rw [this]
    | false => rfl
  | negSucc m => rfl
theorem iadd_eq (x y : Int) : iadd x y = x + y := by cases x <;> cases y <;> rfl
theorem isub_eq (x y : Int) : isub x y = x - y := by
  cases x <;> cases y <;> try rfl
  next a b =>
  simp only [isub]
  cases e : Nat.ble b a with
  | true =>
    have := ble_t e
    show ((a - b : Nat) : Int) = (a : Int) - (b : Int)
    omega
  | false => rfl
theorem imul_eq (x y : Int) : imul x y = x * y := by cases x <;> cases y <;> rfl
theorem idiv_eq (x y : Int) : idiv x y = x.tdiv y := by cases x <;> cases y <;> rfl
theorem imod_eq (x y : Int) : imod x y = x.tmod y := by cases x <;> cases y <;> rfl
theorem ilt_eq (x y : Int) : ilt x y = decide (x < y) := by
  cases x <;> cases y <;> simp only [ilt]
  · next a b =>
    cases e : Nat.blt a b with
    | true => have := blt_t e; simp; omega
    | false => have := blt_f e; simp; omega
  · next a b => simp; omega
  · next a b => simp; omega
  · next a b =>
    cases e : Nat.blt b a with
    | true => have := blt_t e; simp; omega
    | false => have := blt_f e; simp; omega
theorem ile_eq (x y : Int) : ile x y = decide (x ≤ y) := by
  rw [ile, ilt_eq]
  by_cases h : x ≤ y
  · simp [h, Int.not_lt.2 h]
  · simp [h, Int.not_le.1 h]
theorem toNat_ofInt (k : IntKind) (x : Int) : (BitVec.ofInt k.bits x).toNat = uk k x := by
  have h := uk_eq k x
  have : ((BitVec.ofInt k.bits x).toNat : Int) = x % (2 ^ k.bits : Int) := by
    rw [BitVec.toNat_ofInt]
    have : (0 : Int) ≤ x % ((2 ^ k.bits : Nat) : Int) := Int.emod_nonneg _ (by cases k <;> decide)
    rw [Int.toNat_of_nonneg this]
    norm_cast
  omega
theorem bits_lim (k : IntKind) : 2 ^ k.bits = lim2 k := by cases k <;> rfl
theorem wrap_nat (k : IntKind) (m : Nat) (h : m < lim2 k) : k.wrap (m : Int) = wrN k m := by
  have := wrN_uk k (m : Int)
  rw [← this]
  congr 1
  exact Nat.mod_eq_of_lt h
theorem ebI_sound {op : BinOp} {k : IntKind} {x y : Int} {a : AV} (h : ebI op k x y = some a) (hs : isSh op = false) (t : Nat) (σ : Sg) : ∃ v, VRel σ a v ∧ binOp op t (.int k x) (.int k y) = pure v := by
  have hand : wrN k (Nat.land (uk k x) (uk k y)) = k.wrap ((BitVec.ofInt k.bits x &&& BitVec.ofInt k.bits y).toNat : Nat) := by
    rw [BitVec.toNat_and, toNat_ofInt, toNat_ofInt]
    exact (wrap_nat k _ (Nat.lt_of_le_of_lt Nat.and_le_left (uk_lt k x))).symm
  have hor : wrN k (Nat.lor (uk k x) (uk k y)) = k.wrap ((BitVec.ofInt k.bits x ||| BitVec.ofInt k.bits y).toNat : Nat) := by
    rw [BitVec.toNat_or, toNat_ofInt, toNat_ofInt]
    refine (wrap_nat k _ ?_).symm
    have := (BitVec.ofInt k.bits x ||| BitVec.ofInt k.bits y).isLt
    rw [BitVec.toNat_or, toNat_ofInt, toNat_ofInt, bits_lim] at this
    exact this
  have hxor : wrN k (Nat.xor (uk k x) (uk k y)) = k.wrap ((BitVec.ofInt k.bits x ^^^ BitVec.ofInt k.bits y).toNat : Nat) := by
    rw [BitVec.toNat_xor, toNat_ofInt, toNat_ofInt]
    refine (wrap_nat k _ ?_).symm
    have := (BitVec.ofInt k.bits x ^^^ BitVec.ofInt k.bits y).isLt
    rw [BitVec.toNat_xor, toNat_ofInt, toNat_ofInt, bits_lim] at this
    exact this
  have handn : wrN k (Nat.land (uk k x) (lim2 k - 1 - uk k y)) = k.wrap ((BitVec.ofInt k.bits x &&& ~~~ (BitVec.ofInt k.bits y)).toNat : Nat) := by
    rw [BitVec.toNat_and, BitVec.toNat_not, toNat_ofInt, toNat_ofInt, bits_lim]
    exact (wrap_nat k _ (Nat.lt_of_le_of_lt Nat.and_le_left (uk_lt k x))).symm
  cases op
  case quo =>
    simp only [ebI, bQuo, ieq_eq] at h
    split at h
    · cases h
    · next e =>
      simp only [oi, Option.some.injEq] at h
      subst h
      have q : ¬ y = 0 := fun q => by rw [q] at e; cases e
      exact ⟨_, .int _ _, by simp [binOp, Op.intDiv, wr_eq, idiv_eq, q]⟩
  case rem =>
    simp only [ebI, bRem, ieq_eq] at h
    split at h
    · cases h
    · next e =>
      simp only [oi, Option.some.injEq] at h
      subst h
      have q : ¬ y = 0 := fun q => by rw [q] at e; cases e
      exact ⟨_, .int _ _, by simp [binOp, Op.intDiv, imod_eq, q]⟩
  case shl => cases hs
  case shr => cases hs
  case and =>
    simp only [ebI, bAnd, oi, Option.some.injEq] at h
    subst h
    exact ⟨_, .int _ _, by rw [hand]; simp [binOp, Op.intBits]⟩
  case or =>
    simp only [ebI, bOr, oi, Option.some.injEq] at h
    subst h
    exact ⟨_, .int _ _, by rw [hor]; simp [binOp, Op.intBits]⟩
  case xor =>
    simp only [ebI, bXor, oi, Option.some.injEq] at h
    subst h
    exact ⟨_, .int _ _, by rw [hxor]; simp [binOp, Op.intBits]⟩
  case andNot =>
    simp only [ebI, bAndNot, oi, Option.some.injEq] at h
    subst h
    exact ⟨_, .int _ _, by rw [handn]; simp [binOp, Op.intBits]⟩
  all_goals
    simp only [ebI, bAdd, bSub, bMul, bEql, bNeq, bLss, bLeq, bGtr, bGeq, oi, ob, Option.some.injEq] at h
    subst h
    first
      | exact ⟨_, .int _ _, by simp [binOp, Op.intArith, wr_eq, iadd_eq, isub_eq, imul_eq]⟩
      | exact ⟨_, .bool _, by simp [binOp, Op.intCmp, ieq_eq, ilt_eq, ile_eq, bne]⟩
theorem shN_eq (k : IntKind) (m : Nat) : shN k m = min m k.bits := by
  unfold shN
  cases e : Nat.ble m k.bits with
  | true => exact (Nat.min_eq_left (ble_t e)).symm
  | false =>
    have := ble_f e
    exact (Nat.min_eq_right (by omega : k.bits ≤ m)).symm
theorem fdiv_neg (a d : Nat) (h : 0 < d) : Int.negSucc (a / d) = (Int.negSucc a).fdiv (d : Int) := by
  cases d with
  | zero => omega
  | succ d => rfl
theorem fdiv_pos (a d : Nat) : Int.ofNat (a / d) = (Int.ofNat a).fdiv (d : Int) := by
  show ((a / d : Nat) : Int) = ((a : Nat) : Int).fdiv (d : Int)
  rw [Int.fdiv_eq_ediv_of_nonneg _ (by omega)]
  norm_cast
theorem ebSh_sound {op : BinOp} {k l : IntKind} {x y : Int} {a : AV} (h : ebI op k x y = some a) (hs : isSh op = true) (t : Nat) (σ : Sg) : ∃ v, VRel σ a v ∧ binOp op t (.int k x) (.int l y) = pure v := by
  cases op <;> first | (cases hs; done) | skip
  case shl =>
    simp only [ebI, bShl] at h
    split at h
    · cases h
    · next m =>
      simp only [oi, Option.some.injEq] at h
      subst h
      refine ⟨_, .int _ _, ?_⟩
      have hn : ¬ (Int.ofNat m < 0) := by simp
      have hm : (Int.ofNat m).toNat = m := rfl
      have hpw : (Int.ofNat (Nat.pow 2 (shN k m))) = (2 : Int) ^ (min m k.bits) := by rw [shN_eq]; show ((2 ^ _ : Nat) : Int) = _; norm_cast
      simp only [binOp, Op.shift, hn, if_false, hm, wr_eq, imul_eq, hpw]
  case shr =>
    simp only [ebI, bShr] at h
    split at h
    · cases h
    · next m =>
      have hn : ¬ (Int.ofNat m < 0) := by simp
      have hm : (Int.ofNat m).toNat = m := rfl
      have hpw : ((Nat.pow 2 (shN k m) : Nat) : Int) = (2 : Int) ^ (min m k.bits) := by rw [shN_eq]; show ((2 ^ _ : Nat) : Int) = _; norm_cast
      split at h
      · next a =>
        simp only [oi, Option.some.injEq] at h
        subst h
        refine ⟨_, .int _ _, ?_⟩
        have := fdiv_pos a (Nat.pow 2 (shN k m))
        simp only [binOp, Op.shift, hn, if_false, hm, ← hpw]
        rw [← this]
        rfl
      · next a =>
        simp only [oi, Option.some.injEq] at h
        subst h
        refine ⟨_, .int _ _, ?_⟩
        have := fdiv_neg a (Nat.pow 2 (shN k m)) (Nat.pos_of_ne_zero (by show ¬ 2 ^ _ = 0; simp))
        simp only [binOp, Op.shift, hn, if_false, hm, ← hpw]
        rw [← this]
        rfl
theorem llt_eq : ∀ (s t : List Nat), (∀ x ∈ s, x < 256) → (∀ x ∈ t, x < 256) → Op.bytesLess (s.map UInt8.ofNat) (t.map UInt8.ofNat) = llt s t
  | [], [], _, _ => rfl
  | _ :: _, [], _, _ => rfl
  | [], _ :: _, _, _ => rfl
  | a :: l, b :: m, hs, ht => by
    have ih := llt_eq l m (fun x hx => hs x (List.mem_cons_of_mem _ hx)) fun x hx => ht x (List.mem_cons_of_mem _ hx)
    have ha := hs a (List.mem_cons_self ..)
    have hb := ht b (List.mem_cons_self ..)
    have hlt : (UInt8.ofNat a < UInt8.ofNat b) ↔ a < b := by
      rw [UInt8.lt_iff_toNat_lt]
      simp [UInt8.toNat_ofNat', Nat.mod_eq_of_lt ha, Nat.mod_eq_of_lt hb]
    simp only [List.map_cons, Op.bytesLess, llt, ih]
    cases e : Nat.blt a b with
    | true => simp [hlt.2 (blt_t e)]
    | false =>
      have h1 : ¬ UInt8.ofNat a < UInt8.ofNat b := fun q => blt_f e (hlt.1 q)
      cases e2 : Nat.beq a b with
      | true =>
        obtain rfl := beq_t e2
        simp
      | false =>
        have : ¬ UInt8.ofNat a = UInt8.ofNat b := fun h => beq_f e2 (ofNat_inj ha hb h)
        simp [h1, this]
theorem ebS_sound {P : Program} {op : BinOp} {x y : List Nat} {a : AV} (h : ebS op x y = some a) (hx : ∀ u ∈ x, u < 256) (hy : ∀ u ∈ y, u < 256) (t : Nat) (σ : Sg) (w : World) :
    ∃ v, VRel σ a v ∧ (binOp op t (.string (sB x)) (.string (sB y))).run P w = .ok v w := by
  unfold ebS at h
  split at h
  · split at h
    · next e1 e2 =>
      simp only [Option.some.injEq] at h
      subst h
      have e1 := ble_t e1
      have e2 := ble_t e2
      exact ⟨_, .str _ (fun u hu => (List.mem_append.1 hu).elim (hx u) (hy u)), by
        rw [binOp_string_add, ← sB_app]
        exact run_string_add (P := P) (w := w) _ _ (by rw [sB_size]; omega) (by rw [sB_size]; omega)⟩
    · cases h
  all_goals first
    | (cases h; done)
    | (simp only [ob, Option.some.injEq] at h
       subst h
       first
         | exact ⟨_, .bool _, by rw [binOp_string_eql, sB_toList, sB_toList, leq_eq x y hx hy]; rfl⟩
         | exact ⟨_, .bool _, by rw [binOp_string_neq, sB_toList, sB_toList, leq_eq x y hx hy]; rfl⟩
         | exact ⟨_, .bool _, by rw [binOp_string_lss, sB_toList, sB_toList, llt_eq x y hx hy]; rfl⟩
         | exact ⟨_, .bool _, by rw [binOp_string_leq, sB_toList, sB_toList, llt_eq x y hx hy, leq_eq x y hx hy]; rfl⟩
         | exact ⟨_, .bool _, by rw [binOp_string_gtr, sB_toList, sB_toList, llt_eq x y hx hy, leq_eq x y hx hy]; rfl⟩
         | exact ⟨_, .bool _, by rw [binOp_string_geq, sB_toList, sB_toList, llt_eq x y hx hy]; rfl⟩)
end GrG
namespace GrG
open Go Go.RowKit
theorem run_pureS {α : Type} (P : Program) (x : α) (w : World) : (pure x : Sem α).run P w = .ok x w := rfl
def Form (d : TypeDesc) (u : Value) (vs : List Value) : Prop := if (tkOf d).agg = true then u = .agg vs.toArray else vs = [u]
theorem part_sound {P : Program} {t : Nat} {f : TypeInfo} {d : TypeDesc} (hd : P.underlying t = some d) (hf : P.info? t = some f) {pre vs post : List Value} (hl : vs.length = f.size) (h1 : (tkOf d).agg = false → f.size = 1) (w : World) :
    ∃ u, (part t (pre ++ vs ++ post).toArray pre.length).run P w = .ok u w ∧ Form d u vs := by
  have hu : ∀ w, (underlying t).run P w = .ok d w := fun w => run_underlying hd w
  have hz : (Go.sizeOf t).run P w = .ok f.size w := by simp [Go.sizeOf, typeInfo, program, hf, Sem.run]
  have ha : (isAgg t).run P w = .ok (tkOf d).agg w := by
    unfold isAgg
    rw [Sem.run_bind, hu]
    cases d <;> rfl
  unfold part
  rw [Sem.run_bind, ha, Result.andThen_ok]
  cases e : (tkOf d).agg with
  | true =>
    refine ⟨.agg vs.toArray, ?_, by simp [Form, e]⟩
    simp only [if_true, Sem.run_bind, hz, Result.andThen_ok, run_pureS]
    congr 2
    apply Array.toList_inj.1
    simp [List.extract_eq_take_drop, hl.symm, Nat.add_sub_cancel_left]
  | false =>
    have := h1 e
    rw [this] at hl
    match vs, hl with
    | [v], _ =>
      refine ⟨v, ?_, by simp [Form, e]⟩
      simp
theorem fits_len : ∀ {ks : List CK} {l : List AV}, fits ks l = true → l.length = ks.length
  | [], [], _ => rfl
  | [], _ :: _, h => by cases h
  | _ :: _, [], h => by cases h
  | k :: ks, a :: l, h => by
    simp only [fits] at h
    split at h
    · simp [fits_len h]
    · cases h
theorem fits_app : ∀ {ks ms : List CK} {l : List AV}, fits (ks ++ ms) l = true → ∃ a b, l = a ++ b ∧ fits ks a = true ∧ fits ms b = true
  | [], ms, l, h => ⟨[], l, rfl, rfl, h⟩
  | k :: ks, ms, [], h => by cases h
  | k :: ks, ms, x :: l, h => by
    simp only [List.cons_append, fits] at h
    split at h
    · next e =>
      obtain ⟨a, b, rfl, h1, h2⟩ := fits_app h
      exact ⟨x :: a, b, rfl, by simp only [fits, e, h1], h2⟩
    · cases h
theorem peqL_app : ∀ {a a' b b' : List AV} {r : Bool}, a.length = a'.length → peqL (a ++ b) (a' ++ b') = some r → ∃ p q, peqL a a' = some p ∧ peqL b b' = some q ∧ r = (p && q)
  | [], [], b, b', r, _, h => ⟨true, r, rfl, h, by simp⟩
  | [], _ :: _, _, _, _, hl, _ => by cases hl
  | _ :: _, [], _, _, _, hl, _ => by cases hl
  | x :: a, y :: a', b, b', r, hl, h => by
    simp only [List.cons_append, peqL] at h
    split at h
    · next e =>
      obtain ⟨p, q, h1, h2, h3⟩ := peqL_app (by simpa using hl) h
      exact ⟨p, q, by simp only [peqL, e, h1], h2, h3⟩
    · next e =>
      split at h
      · next e2 =>
        simp only [Option.some.injEq] at h
        subst h
        obtain ⟨p, q, h1, h2, h3⟩ := peqL_app (by simpa using hl) e2
        exact ⟨false, q, by simp only [peqL, e, h1], h2, by simp⟩
      · cases h
    · cases h
theorem LRel.split {σ : Sg} : ∀ {a b : List AV} {vs : List Value}, LRel σ (a ++ b) vs → ∃ us ws, vs = us ++ ws ∧ LRel σ a us ∧ LRel σ b ws
  | [], b, vs, h => ⟨[], vs, rfl, .nil, h⟩
  | x :: a, b, _, .cons hx h => by
    obtain ⟨us, ws, rfl, h1, h2⟩ := LRel.split h
    exact ⟨_ :: us, ws, rfl, .cons hx h1, h2⟩
theorem plainT_und {P : Program} {k t : Nat} {ks : List CK} (h : plainT P (k + 1) t = some ks) : ∃ d, P.underlying t = some d ∧ ((tkOf d).agg = false → ks.length = 1) := by
  simp only [plainT] at h
  split at h
  · next e => simp only [Option.some.injEq] at h; subst h; exact ⟨_, e, fun _ => rfl⟩
  · next e => simp only [Option.some.injEq] at h; subst h; exact ⟨_, e, fun _ => rfl⟩
  · next e => simp only [Option.some.injEq] at h; subst h; exact ⟨_, e, fun _ => rfl⟩
  · next e => exact ⟨_, e, fun q => by cases q⟩
  · next e => exact ⟨_, e, fun q => by cases q⟩
  · cases h
theorem leq_iff : ∀ {s t : List Nat}, leq s t = true ↔ s = t
  | [], [] => by simp [leq]
  | [], _ :: _ => by simp [leq]
  | _ :: _, [] => by simp [leq]
  | a :: l, b :: m => by
    simp only [leq]
    cases e : Nat.beq a b with
    | true =>
      obtain rfl := beq_t e
      simp [leq_iff (s := l) (t := m)]
    | false =>
      have := beq_f e
      simp [this]
theorem sB_inj {s t : List Nat} (hs : ∀ x ∈ s, x < 256) (ht : ∀ x ∈ t, x < 256) (h : sB s = sB t) : s = t := by
  have := leq_eq s t hs ht
  have h2 : s.map UInt8.ofNat = t.map UInt8.ofNat := by rw [← sB_data s, h, sB_data t]
  rw [h2, beq_self_eq_true] at this
  exact leq_iff.1 this.symm
theorem sB_beq {s t : List Nat} (hs : ∀ x ∈ s, x < 256) (ht : ∀ x ∈ t, x < 256) : (sB s == sB t) = leq s t := by
  cases e : leq s t with
  | true =>
    obtain rfl := leq_iff.1 e
    show ((sB s).data == (sB s).data) = true
    exact beq_self_eq_true _
  | false =>
    have : ¬ (sB s).data = (sB t).data := fun q => by
      have := leq_iff.2 (sB_inj hs ht (ByteArray.ext q))
      rw [e] at this
      cases this
    show ((sB s).data == (sB t).data) = false
    exact beq_eq_false_iff_ne.2 this
def eqBody (m : Nat) (xs ys : Array Value) (f : Field) (_s : Option Bool × Unit) : Sem (ForInStep (Option Bool × Unit)) :=
  if f.name ≠ "_" then do
    if !(← Op.equalIn m f.type (← part f.type xs f.offset) (← part f.type ys f.offset)) then pure (ForInStep.done (some false, ()))
    else pure (ForInStep.yield (none, ()))
  else pure (ForInStep.yield (none, ()))
def EqAt (P : Program) (k : Nat) : Prop := ∀ (t : Nat) (ks : List CK) (d : TypeDesc), plainT P k t = some ks → P.underlying t = some d → ∀ (m : Nat), k ≤ m → ∀ (σ : Sg) (l l' : List AV) (vs vs' : List Value) (u u' : Value) (b : Bool),
  LRel σ l vs → LRel σ l' vs' → fits ks l = true → fits ks l' = true → peqL l l' = some b → Form d u vs → Form d u' vs' → ∀ w, (Op.equalIn m t u u').run P w = .ok b w
theorem go_plain {P : Program} {k : Nat} (ih : EqAt P k) (m : Nat) (hm : k ≤ m) (σ : Sg) (w : World) : ∀ (fs : List Field) (acc ks : List CK), plainGo P (plainT P k) fs acc = some ks → ∃ ks', ks = acc ++ ks' ∧ ∀ (pl pl' vs vs' : List Value) (l l' : List AV) (b : Bool),
    pl.length = acc.length → pl'.length = acc.length → LRel σ l vs → LRel σ l' vs' → fits ks' l = true → fits ks' l' = true → peqL l l' = some b →
    (forIn fs ((none, ()) : Option Bool × Unit) (eqBody m (pl ++ vs).toArray (pl' ++ vs').toArray)).run P w = .ok (if b then (none, ()) else (some false, ())) w
  | [], acc, ks, h => by
    simp only [plainGo, Option.some.injEq] at h
    subst h
    refine ⟨[], by simp, fun pl pl' vs vs' l l' b h1 h2 h3 h4 h5 h6 h7 => ?_⟩
    cases l with
    | cons _ _ => cases h5
    | nil =>
      cases l' with
      | cons _ _ => cases h6
      | nil =>
        simp only [peqL, Option.some.injEq] at h7
        subst h7
        rfl
  | f :: fs, acc, ks, h => by
    simp only [plainGo] at h
    split at h
    · next ks1 i e1 e2 e3 e4 =>
      split at h
      · next e5 =>
        obtain ⟨ks2, hk, hq⟩ := go_plain ih m hm σ w fs (acc ++ ks1) ks h
        refine ⟨ks1 ++ ks2, by rw [hk, List.append_assoc], fun pl pl' vs vs' l l' b h1 h2 h3 h4 h5 h6 h7 => ?_⟩
        obtain ⟨la, lb, rfl, fa, fb⟩ := fits_app h5
        obtain ⟨la', lb', rfl, fa', fb'⟩ := fits_app h6
        obtain ⟨va, vb, rfl, ra, rb⟩ := h3.split
        obtain ⟨va', vb', rfl, ra', rb'⟩ := h4.split
        obtain ⟨p, q, pe, qe, rfl⟩ := peqL_app (by rw [fits_len fa, fits_len fa']) h7
        have hoff := beq_t e2
        have hsz := beq_t e5
        cases k with
        | zero => rw [plainT] at e3; cases e3
        | succ k =>
          obtain ⟨d, hd, hd1⟩ := plainT_und e3
          have s1 : (tkOf d).agg = false → i.size = 1 := fun q => by rw [hsz, hd1 q]
          obtain ⟨u, r1, g1⟩ := part_sound hd e4 (pre := pl) (vs := va) (post := vb) (by rw [← ra.length, fits_len fa, hsz]) s1 w
          obtain ⟨u', r2, g2⟩ := part_sound hd e4 (pre := pl') (vs := va') (post := vb') (by rw [← ra'.length, fits_len fa', hsz]) s1 w
          have r3 := ih f.type ks1 d e3 hd m hm σ la la' va va' u u' p ra ra' fa fa' pe g1 g2 w
          rw [h1, ← hoff] at r1
          rw [h2, ← hoff] at r2
          rw [List.append_assoc] at r1 r2
          have hn : (f.name ≠ "_") = True := by
            have : (f.name == "_") = false := e1
            simpa using this
          have hb : (eqBody m (pl ++ (va ++ vb)).toArray (pl' ++ (va' ++ vb')).toArray f (none, ())).run P w = .ok (if p then .yield (none, ()) else .done (some false, ())) w := by
            simp only [eqBody, hn, if_true, Sem.run_bind, r1, r2, r3, Result.andThen_ok]
            cases p <;> rfl
          rw [List.forIn_cons, Sem.run_bind, hb, Result.andThen_ok]
          cases p with
          | false => rfl
          | true =>
            have := hq (pl ++ va) (pl' ++ va') vb vb' lb lb' q (by rw [List.length_append, List.length_append, h1, ← ra.length, fits_len fa]) (by rw [List.length_append, List.length_append, h2, ← ra'.length, fits_len fa']) rb rb' fb fb' qe
            simp only [if_true, Bool.true_and]
            rw [← List.append_assoc, ← List.append_assoc]
            exact this
      · cases h
    · cases h
def eqBodyA (m e n : Nat) (xs ys : Array Value) (i : Nat) (_s : Option Bool × Unit) : Sem (ForInStep (Option Bool × Unit)) := do
  if !(← Op.equalIn m e (← part e xs (i * n)) (← part e ys (i * n))) then pure (ForInStep.done (some false, ()))
  else pure (ForInStep.yield (none, ()))
theorem arr_plain {P : Program} {k e : Nat} {ks : List CK} {f : TypeInfo} (ih : EqAt P k) (m : Nat) (hm : k ≤ m) (σ : Sg) (w : World) (he : plainT P k e = some ks) (hf : P.info? e = some f) (hs : f.size = ks.length) : ∀ (n i : Nat) (pl pl' vs vs' : List Value) (l l' : List AV) (b : Bool),
    pl.length = i * f.size → pl'.length = i * f.size → LRel σ l vs → LRel σ l' vs' → fits (List.replicate n ks).flatten l = true → fits (List.replicate n ks).flatten l' = true → peqL l l' = some b →
    (forIn (List.range' i n) ((none, ()) : Option Bool × Unit) (eqBodyA m e f.size (pl ++ vs).toArray (pl' ++ vs').toArray)).run P w = .ok (if b then (none, ()) else (some false, ())) w
  | 0, i, pl, pl', vs, vs', l, l', b, h1, h2, h3, h4, h5, h6, h7 => by
    simp only [List.replicate_zero, List.flatten_nil] at h5 h6
    cases l with
    | cons _ _ => cases h5
    | nil =>
      cases l' with
      | cons _ _ => cases h6
      | nil =>
        simp only [peqL, Option.some.injEq] at h7
        subst h7
        rfl
  | n + 1, i, pl, pl', vs, vs', l, l', b, h1, h2, h3, h4, h5, h6, h7 => by
    simp only [List.replicate_succ, List.flatten_cons] at h5 h6
    obtain ⟨la, lb, rfl, fa, fb⟩ := fits_app h5
    obtain ⟨la', lb', rfl, fa', fb'⟩ := fits_app h6
    obtain ⟨va, vb, rfl, ra, rb⟩ := h3.split
    obtain ⟨va', vb', rfl, ra', rb'⟩ := h4.split
    obtain ⟨p, q, pe, qe, rfl⟩ := peqL_app (by rw [fits_len fa, fits_len fa']) h7
    cases k with
    | zero => rw [plainT] at he; cases he
    | succ k =>
      obtain ⟨d, hd, hd1⟩ := plainT_und he
      have s1 : (tkOf d).agg = false → f.size = 1 := fun q => by rw [hs, hd1 q]
      obtain ⟨u, r1, g1⟩ := part_sound hd hf (pre := pl) (vs := va) (post := vb) (by rw [← ra.length, fits_len fa, hs]) s1 w
      obtain ⟨u', r2, g2⟩ := part_sound hd hf (pre := pl') (vs := va') (post := vb') (by rw [← ra'.length, fits_len fa', hs]) s1 w
      have r3 := ih e ks d he hd m hm σ la la' va va' u u' p ra ra' fa fa' pe g1 g2 w
      rw [h1] at r1
      rw [h2] at r2
      rw [List.append_assoc] at r1 r2
      have hb : (eqBodyA m e f.size (pl ++ (va ++ vb)).toArray (pl' ++ (va' ++ vb')).toArray i (none, ())).run P w = .ok (if p then .yield (none, ()) else .done (some false, ())) w := by
        simp only [eqBodyA, Sem.run_bind, r1, r2, r3, Result.andThen_ok]
        cases p <;> rfl
      rw [List.range'_succ, List.forIn_cons, Sem.run_bind, hb, Result.andThen_ok]
      cases p with
      | false => rfl
      | true =>
        have := arr_plain ih m hm σ w he hf hs n (i + 1) (pl ++ va) (pl' ++ va') vb vb' lb lb' q (by rw [List.length_append, h1, ← ra.length, fits_len fa, ← hs, Nat.add_mul]; omega) (by rw [List.length_append, h2, ← ra'.length, fits_len fa', ← hs, Nat.add_mul]; omega) rb rb' fb fb' qe
        simp only [if_true, Bool.true_and]
        rw [← List.append_assoc, ← List.append_assoc]
        exact this
theorem fit1_inv {k : CK} {l : List AV} (h : fits [k] l = true) : ∃ a, l = [a] ∧ fit1 k a = true := by
  match l, h with
  | [a], h =>
    simp only [fits] at h
    split at h
    · next e => exact ⟨a, rfl, e⟩
    · cases h
  | [], h => cases h
  | _ :: _ :: _, h =>
    simp only [fits] at h
    split at h <;> cases h
theorem peqL_one {a b : AV} {r : Bool} (h : peqL [a] [b] = some r) : peq a b = some r := by
  simp only [peqL] at h
  split at h
  · next e => rw [e]; exact h
  · next e => rw [e]; exact h
  · cases h
theorem equal_plain {P : Program} : ∀ k : Nat, EqAt P k
  | 0 => fun t ks d h => by rw [plainT] at h; cases h
  | k + 1 => fun t ks d h hd m hm σ l l' vs vs' u u' b r r' f f' pe g g' w => by
    have ih := equal_plain (P := P) k
    have hu : ∀ w, (underlying t).run P w = .ok d w := fun w => run_underlying hd w
    cases m with
    | zero => omega
    | succ m =>
    simp only [plainT, hd] at h
    rw [Op.equalIn]
    simp only [Sem.run_bind, hu, Result.andThen_ok]
    split at h
    · next e =>
      cases e
      simp only [Option.some.injEq] at h
      subst h
      obtain ⟨a, rfl, q⟩ := fit1_inv f
      obtain ⟨a', rfl, q'⟩ := fit1_inv f'
      cases a <;> first | (cases q; done) | skip
      cases a' <;> first | (cases q'; done) | skip
      simp only [Form, tkOf, TK.agg, Bool.false_eq_true, if_false] at g g'
      subst g
      subst g'
      cases r with
      | cons x y =>
        cases x
        cases y
        cases r' with
        | cons x' y' =>
          cases x'
          cases y'
          have := peqL_one pe
          simp only [peq, Option.some.injEq] at this
          subst this
          rfl
    · next i e =>
      cases e
      simp only [Option.some.injEq] at h
      subst h
      obtain ⟨a, rfl, q⟩ := fit1_inv f
      obtain ⟨a', rfl, q'⟩ := fit1_inv f'
      cases a <;> first | (cases q; done) | skip
      cases a' <;> first | (cases q'; done) | skip
      simp only [Form, tkOf, TK.agg, Bool.false_eq_true, if_false] at g g'
      subst g
      subst g'
      cases r with
      | cons x y =>
        cases x
        cases y
        cases r' with
        | cons x' y' =>
          cases x'
          cases y'
          have := peqL_one pe
          simp only [peq] at this
          split at this
          · next ek =>
            obtain rfl := kn_inj ek
            simp only [Option.some.injEq, ieq_eq] at this
            subst this
            simp
          · cases this
    · next e =>
      cases e
      simp only [Option.some.injEq] at h
      subst h
      obtain ⟨a, rfl, q⟩ := fit1_inv f
      obtain ⟨a', rfl, q'⟩ := fit1_inv f'
      cases a <;> first | (cases q; done) | skip
      cases a' <;> first | (cases q'; done) | skip
      simp only [Form, tkOf, TK.agg, Bool.false_eq_true, if_false] at g g'
      subst g
      subst g'
      cases r with
      | cons x y =>
        cases x
        next h1 =>
        cases y
        cases r' with
        | cons x' y' =>
          cases x'
          next h2 =>
          cases y'
          have := peqL_one pe
          simp only [peq, Option.some.injEq] at this
          subst this
          show (pure (sB _ == sB _) : Sem Bool).run P w = _
          rw [sB_beq h1 h2]
          rfl
    · next fs e =>
      cases e
      simp only [Form, tkOf, TK.agg, if_true] at g g'
      subst g
      subst g'
      split at h
      · cases h
      · next hst =>
        obtain ⟨ks', hk, hq⟩ := go_plain ih m (by omega) σ w fs.toList [] ks h
        have := hq [] [] vs vs' l l' b rfl rfl r r' (by rw [hk] at f; simpa using f) (by rw [hk] at f'; simpa using f') pe
        simp only [List.nil_append] at this
        have hp : (program).run P w = .ok P w := rfl
        simp only [hp, Result.andThen_ok, hst, Bool.false_eq_true, if_false, Sem.run_bind]
        rw [← Array.forIn_toList]
        have h2 : (forIn fs.toList ((none, ()) : Option Bool × Unit) (eqBody m vs.toArray vs'.toArray)).run P w = .ok (if b then (none, ()) else (some false, ())) w := this
        unfold eqBody at h2
        rw [h2, Result.andThen_ok]
        cases b <;> rfl
    · next n e' e =>
      cases e
      simp only [Form, tkOf, TK.agg, if_true] at g g'
      subst g
      subst g'
      split at h
      · next ks0 f0 e1 e2 =>
        split at h
        · next e3 =>
          simp only [Option.some.injEq] at h
          subst h
          have := arr_plain ih m (by omega) σ w e1 e2 (beq_t e3) n 0 [] [] vs vs' l l' b (by simp) (by simp) r r' f f' pe
          have hz : (Go.sizeOf e').run P w = .ok f0.size w := by simp [Go.sizeOf, typeInfo, program, e2, Sem.run]
          rw [Sem.run_bind, hz, Result.andThen_ok]
          simp only [Std.Legacy.Range.forIn_eq_forIn_range', Std.Legacy.Range.size, Nat.sub_zero, Nat.add_one_sub_one, Nat.div_one]
          simp only [List.nil_append] at this
          unfold eqBodyA at this
          rw [Sem.run_bind, this, Result.andThen_ok]
          cases b <;> rfl
        · cases h
      · cases h
    · cases h
end GrG
