/-
  A MACHINE FOR CLOSED CALLS (second form), 10: numbers and text. No program in sight.
-/
import Derived.Test.YtlpejfoeiaogcabGreatR09
import Derived.Laws.Strings
import Derived.Laws.Concat
import Derived.Laws.Cover1
set_option linter.unusedSimpArgs false
set_option linter.unusedVariables false
namespace GrG
open Go Go.RowKit
/-! Text. -/
theorem sB_size (s : List Nat) : (sB s).size = s.length := by
  show ((s.map UInt8.ofNat).toArray).size = _
  simp
theorem sB_toList (s : List Nat) : (sB s).toList = s.map UInt8.ofNat := by
  rw [ByteArray.toList_eq]
  simp [sB]
theorem sB_data (s : List Nat) : (sB s).data.toList = s.map UInt8.ofNat := by simp [sB]
theorem ba_ext {a b : ByteArray} (h : a.data.toList = b.data.toList) : a = b := by
  cases a; cases b
  simp only at h
  congr 1
  exact Array.toList_inj.1 h
theorem sB_app (s t : List Nat) : sB s ++ sB t = sB (s ++ t) := ba_ext (by simp [sB])
theorem ofNat_inj {x y : Nat} (hx : x < 256) (hy : y < 256) (h : UInt8.ofNat x = UInt8.ofNat y) : x = y := by
  have := congrArg UInt8.toNat h
  simp only [UInt8.toNat_ofNat'] at this
  rw [Nat.mod_eq_of_lt hx, Nat.mod_eq_of_lt hy] at this
  exact this
theorem leq_eq : ∀ (s t : List Nat), (∀ x ∈ s, x < 256) → (∀ x ∈ t, x < 256) → ((s.map UInt8.ofNat) == (t.map UInt8.ofNat)) = leq s t
  | [], [], _, _ => rfl
  | [], b :: m, _, _ => rfl
  | a :: l, [], _, _ => rfl
  | a :: l, b :: m, hs, ht => by
    have ih := leq_eq l m (fun x hx => hs x (List.mem_cons_of_mem _ hx)) fun x hx => ht x (List.mem_cons_of_mem _ hx)
    have ha := hs a (List.mem_cons_self ..)
    have hb := ht b (List.mem_cons_self ..)
    rw [leq]
    simp only [List.map_cons, List.cons_beq_cons, ih]
    cases e : Nat.beq a b with
    | true =>
      obtain rfl := beq_t e
      simp
    | false =>
      have : ¬ UInt8.ofNat a = UInt8.ofNat b := fun h => beq_f e (ofNat_inj ha hb h)
      simp [this]
/-! Numbers. -/
theorem kn_inj {k l : IntKind} (h : Nat.beq (kn k) (kn l) = true) : k = l := by cases k <;> cases l <;> first | rfl | cases h
theorem ieq_eq (x y : Int) : ieq x y = (x == y) := by
  cases x <;> cases y <;> simp only [ieq]
  · next a b =>
    cases e : Nat.beq a b with
    | true => rw [beq_t e]; simp
    | false =>
      have h := beq_f e
      have : ¬ (Int.ofNat a = Int.ofNat b) := fun q => h (Int.ofNat.inj q)
      exact (beq_eq_false_iff_ne.2 this).symm
  · rfl
  · rfl
  · next a b =>
    cases e : Nat.beq a b with
    | true => rw [beq_t e]; simp
    | false =>
      have h := beq_f e
      have : ¬ (Int.negSucc a = Int.negSucc b) := fun q => h (Int.negSucc.inj q)
      exact (beq_eq_false_iff_ne.2 this).symm
theorem wrN_eq (k : IntKind) (r : Nat) (h : r < lim2 k) : wrN k r = (if k.signed && (r : Int) ≥ (2 ^ (k.bits - 1) : Int) then (r : Int) - (2 ^ k.bits : Int) else (r : Int)) := by
  unfold wrN
  cases e : Nat.blt r (lim k) with
  | true =>
    have e := blt_t e
    cases k <;> (simp only [lim, lim2] at e h; simp [IntKind.signed, IntKind.bits]; try omega)
  | false =>
    have e := blt_f e
    cases k <;> (simp only [lim, lim2] at e h; simp only [lim2]; simp [IntKind.signed, IntKind.bits]; try omega)
theorem uk_eq (k : IntKind) (x : Int) : ((uk k x : Nat) : Int) = x % (2 ^ k.bits : Int) := by
  cases x with
  | ofNat m => cases k <;> simp [uk, lim2, IntKind.bits] <;> omega
  | negSucc m => cases k <;> simp only [uk, lim2, IntKind.bits] <;> omega
theorem uk_lt (k : IntKind) (x : Int) : uk k x < lim2 k := by
  cases x with
  | ofNat m => cases k <;> simp [uk, lim2] <;> omega
  | negSucc m => cases k <;> simp [uk, lim2] <;> omega
theorem wrN_uk (k : IntKind) (x : Int) : wrN k (uk k x) = k.wrap x := by
  rw [wrN_eq k _ (uk_lt k x), uk_eq]
  rfl
theorem wr_eq (k : IntKind) (n : Int) : wr k n = k.wrap n := by
  rw [← wrN_uk]
  cases n with
  | ofNat m =>
    simp only [wr]
    cases e : Nat.blt m (lim k) with
    | true =>
      have e := blt_t e
      have h : m % lim2 k = m := Nat.mod_eq_of_lt (Nat.lt_of_lt_of_le e (by cases k <;> decide))
      simp only [uk, h, wrN]
      have : Nat.blt m (lim k) = true := by simpa [Nat.blt_eq] using e
      rw [this]
    | false => rfl
  | negSucc m => rfl
theorem iadd_eq (x y : Int) : iadd x y = x + y := by cases x <;> cases y <;> rfl
theorem isub_eq (x y : Int) : isub x y = x - y := by
  cases x <;> cases y <;> try rfl
  next a b =>
  simp only [isub]
  cases e : Nat.ble b a with
  | true =>
    have := ble_t e
    show ((a - b : Nat) : Int) = (a : Int) - (b : Int)
    omega
  | false => rfl
theorem imul_eq (x y : Int) : imul x y = x * y := by cases x <;> cases y <;> rfl
theorem idiv_eq (x y : Int) : idiv x y = x.tdiv y := by cases x <;> cases y <;> rfl
theorem imod_eq (x y : Int) : imod x y = x.tmod y := by cases x <;> cases y <;> rfl
theorem ilt_eq (x y : Int) : ilt x y = decide (x < y) := by
  cases x <;> cases y <;> simp only [ilt]
  · next a b =>
    cases e : Nat.blt a b with
    | true => have := blt_t e; simp; omega
    | false => have := blt_f e; simp; omega
  · next a b => simp; omega
  · next a b => simp; omega
  · next a b =>
    cases e : Nat.blt b a with
    | true => have := blt_t e; simp; omega
    | false => have := blt_f e; simp; omega
theorem ile_eq (x y : Int) : ile x y = decide (x ≤ y) := by
  rw [ile, ilt_eq]
  by_cases h : x ≤ y
  · simp [h, Int.not_lt.2 h]
  · simp [h, Int.not_le.1 h]
theorem toNat_ofInt (k : IntKind) (x : Int) : (BitVec.ofInt k.bits x).toNat = uk k x := by
  have h := uk_eq k x
  have : ((BitVec.ofInt k.bits x).toNat : Int) = x % (2 ^ k.bits : Int) := by
    rw [BitVec.toNat_ofInt]
    have : (0 : Int) ≤ x % ((2 ^ k.bits : Nat) : Int) := Int.emod_nonneg _ (by cases k <;> decide)
    rw [Int.toNat_of_nonneg this]
    norm_cast
  omega
theorem bits_lim (k : IntKind) : 2 ^ k.bits = lim2 k := by cases k <;> rfl
theorem wrap_nat (k : IntKind) (m : Nat) (h : m < lim2 k) : k.wrap (m : Int) = wrN k m := by
  have := wrN_uk k (m : Int)
  rw [← this]
  congr 1
  exact Nat.mod_eq_of_lt h
theorem ebI_sound {op : BinOp} {k : IntKind} {x y : Int} {a : AV} (h : ebI op k x y = some a) (hs : isSh op = false) (t : Nat) (σ : Sg) : ∃ v, VRel σ a v ∧ binOp op t (.int k x) (.int k y) = pure v := by
  have hand : wrN k (Nat.land (uk k x) (uk k y)) = k.wrap ((BitVec.ofInt k.bits x &&& BitVec.ofInt k.bits y).toNat : Nat) := by
    rw [BitVec.toNat_and, toNat_ofInt, toNat_ofInt]
    exact (wrap_nat k _ (Nat.lt_of_le_of_lt Nat.and_le_left (uk_lt k x))).symm
  have hor : wrN k (Nat.lor (uk k x) (uk k y)) = k.wrap ((BitVec.ofInt k.bits x ||| BitVec.ofInt k.bits y).toNat : Nat) := by
    rw [BitVec.toNat_or, toNat_ofInt, toNat_ofInt]
    refine (wrap_nat k _ ?_).symm
    have := (BitVec.ofInt k.bits x ||| BitVec.ofInt k.bits y).isLt
    rw [BitVec.toNat_or, toNat_ofInt, toNat_ofInt, bits_lim] at this
    exact this
  have hxor : wrN k (Nat.xor (uk k x) (uk k y)) = k.wrap ((BitVec.ofInt k.bits x ^^^ BitVec.ofInt k.bits y).toNat : Nat) := by
    rw [BitVec.toNat_xor, toNat_ofInt, toNat_ofInt]
    refine (wrap_nat k _ ?_).symm
    have := (BitVec.ofInt k.bits x ^^^ BitVec.ofInt k.bits y).isLt
    rw [BitVec.toNat_xor, toNat_ofInt, toNat_ofInt, bits_lim] at this
    exact this
  have handn : wrN k (Nat.land (uk k x) (lim2 k - 1 - uk k y)) = k.wrap ((BitVec.ofInt k.bits x &&& ~~~ (BitVec.ofInt k.bits y)).toNat : Nat) := by
    rw [BitVec.toNat_and, BitVec.toNat_not, toNat_ofInt, toNat_ofInt, bits_lim]
    exact (wrap_nat k _ (Nat.lt_of_le_of_lt Nat.and_le_left (uk_lt k x))).symm
  cases op
  case quo =>
    simp only [ebI, bQuo, ieq_eq] at h
    split at h
    · cases h
    · next e =>
      simp only [oi, Option.some.injEq] at h
      subst h
      have q : ¬ y = 0 := fun q => by rw [q] at e; cases e
      exact ⟨_, .int _ _, by simp [binOp, Op.intDiv, wr_eq, idiv_eq, q]⟩
  case rem =>
    simp only [ebI, bRem, ieq_eq] at h
    split at h
    · cases h
    · next e =>
      simp only [oi, Option.some.injEq] at h
      subst h
      have q : ¬ y = 0 := fun q => by rw [q] at e; cases e
      exact ⟨_, .int _ _, by simp [binOp, Op.intDiv, imod_eq, q]⟩
  case shl => cases hs
  case shr => cases hs
  case and =>
    simp only [ebI, bAnd, oi, Option.some.injEq] at h
    subst h
    exact ⟨_, .int _ _, by rw [hand]; simp [binOp, Op.intBits]⟩
  case or =>
    simp only [ebI, bOr, oi, Option.some.injEq] at h
    subst h
    exact ⟨_, .int _ _, by rw [hor]; simp [binOp, Op.intBits]⟩
  case xor =>
    simp only [ebI, bXor, oi, Option.some.injEq] at h
    subst h
    exact ⟨_, .int _ _, by rw [hxor]; simp [binOp, Op.intBits]⟩
  case andNot =>
    simp only [ebI, bAndNot, oi, Option.some.injEq] at h
    subst h
    exact ⟨_, .int _ _, by rw [handn]; simp [binOp, Op.intBits]⟩
  all_goals
    simp only [ebI, bAdd, bSub, bMul, bEql, bNeq, bLss, bLeq, bGtr, bGeq, oi, ob, Option.some.injEq] at h
    subst h
    first
      | exact ⟨_, .int _ _, by simp [binOp, Op.intArith, wr_eq, iadd_eq, isub_eq, imul_eq]⟩
      | exact ⟨_, .bool _, by simp [binOp, Op.intCmp, ieq_eq, ilt_eq, ile_eq, bne]⟩
theorem shN_eq (k : IntKind) (m : Nat) : shN k m = min m k.bits := by
  unfold shN
  cases e : Nat.ble m k.bits with
  | true => exact (Nat.min_eq_left (ble_t e)).symm
  | false =>
    have := ble_f e
    exact (Nat.min_eq_right (by omega : k.bits ≤ m)).symm
theorem fdiv_neg (a d : Nat) (h : 0 < d) : Int.negSucc (a / d) = (Int.negSucc a).fdiv (d : Int) := by
  cases d with
  | zero => omega
  | succ d => rfl
theorem fdiv_pos (a d : Nat) : Int.ofNat (a / d) = (Int.ofNat a).fdiv (d : Int) := by
  show ((a / d : Nat) : Int) = ((a : Nat) : Int).fdiv (d : Int)
  rw [Int.fdiv_eq_ediv_of_nonneg _ (by omega)]
  norm_cast
theorem ebSh_sound {op : BinOp} {k l : IntKind} {x y : Int} {a : AV} (h : ebI op k x y = some a) (hs : isSh op = true) (t : Nat) (σ : Sg) : ∃ v, VRel σ a v ∧ binOp op t (.int k x) (.int l y) = pure v := by
  cases op <;> first | (cases hs; done) | skip
  case shl =>
    simp only [ebI, bShl] at h
    split at h
    · cases h
    · next m =>
      simp only [oi, Option.some.injEq] at h
      subst h
      refine ⟨_, .int _ _, ?_⟩
      have hn : ¬ (Int.ofNat m < 0) := by simp
      have hm : (Int.ofNat m).toNat = m := rfl
      have hpw : (Int.ofNat (Nat.pow 2 (shN k m))) = (2 : Int) ^ (min m k.bits) := by rw [shN_eq]; show ((2 ^ _ : Nat) : Int) = _; norm_cast
      simp only [binOp, Op.shift, hn, if_false, hm, wr_eq, imul_eq, hpw]
  case shr =>
    simp only [ebI, bShr] at h
    split at h
    · cases h
    · next m =>
      have hn : ¬ (Int.ofNat m < 0) := by simp
      have hm : (Int.ofNat m).toNat = m := rfl
      have hpw : ((Nat.pow 2 (shN k m) : Nat) : Int) = (2 : Int) ^ (min m k.bits) := by rw [shN_eq]; show ((2 ^ _ : Nat) : Int) = _; norm_cast
      split at h
      · next a =>
        simp only [oi, Option.some.injEq] at h
        subst h
        refine ⟨_, .int _ _, ?_⟩
        have := fdiv_pos a (Nat.pow 2 (shN k m))
        simp only [binOp, Op.shift, hn, if_false, hm, ← hpw]
        rw [← this]
        rfl
      · next a =>
        simp only [oi, Option.some.injEq] at h
        subst h
        refine ⟨_, .int _ _, ?_⟩
        have := fdiv_neg a (Nat.pow 2 (shN k m)) (Nat.pos_of_ne_zero (by show ¬ 2 ^ _ = 0; simp))
        simp only [binOp, Op.shift, hn, if_false, hm, ← hpw]
        rw [← this]
        rfl
theorem llt_eq : ∀ (s t : List Nat), (∀ x ∈ s, x < 256) → (∀ x ∈ t, x < 256) → Op.bytesLess (s.map UInt8.ofNat) (t.map UInt8.ofNat) = llt s t
  | [], [], _, _ => rfl
  | _ :: _, [], _, _ => rfl
  | [], _ :: _, _, _ => rfl
  | a :: l, b :: m, hs, ht => by
    have ih := llt_eq l m (fun x hx => hs x (List.mem_cons_of_mem _ hx)) fun x hx => ht x (List.mem_cons_of_mem _ hx)
    have ha := hs a (List.mem_cons_self ..)
    have hb := ht b (List.mem_cons_self ..)
    have hlt : (UInt8.ofNat a < UInt8.ofNat b) ↔ a < b := by
      rw [UInt8.lt_iff_toNat_lt]
      simp [UInt8.toNat_ofNat', Nat.mod_eq_of_lt ha, Nat.mod_eq_of_lt hb]
    simp only [List.map_cons, Op.bytesLess, llt, ih]
    cases e : Nat.blt a b with
    | true => simp [hlt.2 (blt_t e)]
    | false =>
      have h1 : ¬ UInt8.ofNat a < UInt8.ofNat b := fun q => blt_f e (hlt.1 q)
      cases e2 : Nat.beq a b with
      | true =>
        obtain rfl := beq_t e2
        simp
      | false =>
        have : ¬ UInt8.ofNat a = UInt8.ofNat b := fun h => beq_f e2 (ofNat_inj ha hb h)
        simp [h1, this]
theorem ebS_sound {P : Program} {op : BinOp} {x y : List Nat} {a : AV} (h : ebS op x y = some a) (hx : ∀ u ∈ x, u < 256) (hy : ∀ u ∈ y, u < 256) (t : Nat) (σ : Sg) (w : World) :
    ∃ v, VRel σ a v ∧ (binOp op t (.string (sB x)) (.string (sB y))).run P w = .ok v w := by
  unfold ebS at h
  split at h
  · split at h
    · next e1 e2 =>
      simp only [Option.some.injEq] at h
      subst h
      have e1 := ble_t e1
      have e2 := ble_t e2
      exact ⟨_, .str _ (fun u hu => (List.mem_append.1 hu).elim (hx u) (hy u)), by
        rw [binOp_string_add, ← sB_app]
        exact run_string_add (P := P) (w := w) _ _ (by rw [sB_size]; omega) (by rw [sB_size]; omega)⟩
    · cases h
  all_goals first
    | (cases h; done)
    | (simp only [ob, Option.some.injEq] at h
       subst h
       first
         | exact ⟨_, .bool _, by rw [binOp_string_eql, sB_toList, sB_toList, leq_eq x y hx hy]; rfl⟩
         | exact ⟨_, .bool _, by rw [binOp_string_neq, sB_toList, sB_toList, leq_eq x y hx hy]; rfl⟩
         | exact ⟨_, .bool _, by rw [binOp_string_lss, sB_toList, sB_toList, llt_eq x y hx hy]; rfl⟩
         | exact ⟨_, .bool _, by rw [binOp_string_leq, sB_toList, sB_toList, llt_eq x y hx hy, leq_eq x y hx hy]; rfl⟩
         | exact ⟨_, .bool _, by rw [binOp_string_gtr, sB_toList, sB_toList, llt_eq x y hx hy, leq_eq x y hx hy]; rfl⟩
         | exact ⟨_, .bool _, by rw [binOp_string_geq, sB_toList, sB_toList, llt_eq x y hx hy]; rfl⟩)
end GrG
