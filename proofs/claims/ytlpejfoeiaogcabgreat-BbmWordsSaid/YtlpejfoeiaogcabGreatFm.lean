/-
  PLAIN NUMBERS for layer 2: what the parts of words are, bit by bit. No program in sight.
-/
set_option linter.unusedSimpArgs false
set_option linter.unusedVariables false
namespace GrF

/-- the number of bits b 0, b 1, .. b (n-1) -/
def num (b : Nat → Bool) : Nat → Nat
  | 0 => 0
  | n + 1 => num b n + (if b n then 2 ^ n else 0)

theorem num_lt (b : Nat → Bool) (n : Nat) : num b n < 2 ^ n := by
  induction n with
  | zero => simp [num]
  | succ n ih => simp only [num, Nat.pow_succ]; split <;> omega

theorem num_testBit (b : Nat → Bool) (n i : Nat) : (num b n).testBit i = (decide (i < n) && b i) := by
  induction n with
  | zero => simp [num]
  | succ n ih =>
    simp only [num]
    by_cases hb : b n
    · simp only [hb, if_true]
      rw [show num b n + 2 ^ n = 2 ^ n + num b n by omega]
      by_cases hi : i = n
      · subst hi
        rw [Nat.testBit_two_pow_add_eq, Nat.testBit_lt_two_pow (num_lt b i)]
        simp [hb]
      · by_cases hlt : i < n
        · rw [Nat.testBit_two_pow_add_gt hlt, ih]
          have h2 : i < n + 1 := by omega
          simp [hlt, h2]
        · rw [Nat.testBit_lt_two_pow]
          · have h2 : ¬ i < n + 1 := by omega
            simp [h2]
          · have := num_lt b n
            have h2 : 2 ^ (n + 1) ≤ 2 ^ i := Nat.pow_le_pow_right (by decide) (by omega)
            rw [Nat.pow_succ] at h2; omega
    · rw [if_neg hb, Nat.add_zero, ih]
      by_cases hi : i = n
      · subst hi; simp [hb]
      · by_cases hlt : i < n
        · have h2 : i < n + 1 := by omega
          simp [hlt, h2]
        · have h2 : ¬ i < n + 1 := by omega
          simp [hlt, h2]

theorem eq_num {x n : Nat} (h : x < 2 ^ n) : num (fun i => x.testBit i) n = x := by
  apply Nat.eq_of_testBit_eq
  intro i
  rw [num_testBit]
  by_cases hi : i < n
  · simp [hi]
  · simp only [hi, decide_false, Bool.false_and]
    symm
    apply Nat.testBit_lt_two_pow
    exact Nat.lt_of_lt_of_le h (Nat.pow_le_pow_right (by decide) (by omega))


/-- a bit as a number -/
def bit (c : Bool) : Int := if c then 1 else 0
theorem bit_le (c : Bool) : 0 ≤ bit c ∧ bit c ≤ 1 := by cases c <;> decide

/-- the list of the bits -/
def bl (b : Nat → Bool) (n : Nat) : List Int := (List.range n).map fun i => bit (b i)
theorem bl_length (b : Nat → Bool) (n : Nat) : (bl b n).length = n := by simp [bl]
theorem bl_succ (b : Nat → Bool) (n : Nat) : bl b (n + 1) = bl b n ++ [bit (b n)] := by simp [bl, List.range_succ]
theorem bl_get (b : Nat → Bool) (n i : Nat) (h : i < n) : (bl b n).getD i 0 = bit (b i) := by
  simp [bl, List.getD, h]
theorem bl_get? (b : Nat → Bool) (n i : Nat) (h : i < n) : (bl b n)[i]? = some (bit (b i)) := by
  simp [bl, h]
theorem bl_mem (b : Nat → Bool) (n : Nat) : ∀ c ∈ bl b n, 0 ≤ c ∧ c ≤ 1 := by
  intro c hc
  simp only [bl, List.mem_map] at hc
  obtain ⟨i, _, rfl⟩ := hc
  exact bit_le _
theorem bl_cons (b : Nat → Bool) (n : Nat) : bl b (n + 1) = bit (b 0) :: bl (fun i => b (i + 1)) n := by
  simp only [bl, List.range_succ_eq_map, List.map_cons, List.map_map]; rfl

/-- the number that a list of bits writes, the lowest first -/
def wordOf (l : List Int) : Int := l.foldr (fun c a => a * 2 + c) 0
theorem num_cons (b : Nat → Bool) (n : Nat) : num b (n + 1) = (if b 0 then 1 else 0) + 2 * num (fun i => b (i + 1)) n := by
  induction n with
  | zero => simp [num]
  | succ n ih =>
    rw [num, ih]
    simp only [num]
    split <;> split <;> simp_all [Nat.pow_succ] <;> omega
theorem wordOf_bl (b : Nat → Bool) (n : Nat) : wordOf (bl b n) = (num b n : Int) := by
  induction n generalizing b with
  | zero => rfl
  | succ n ih =>
    rw [bl_cons, num_cons]
    show wordOf (bl _ n) * 2 + bit (b 0) = _
    rw [ih]
    unfold bit
    cases b 0 <;> simp <;> omega
theorem wordOf_bd (l : List Int) (h : ∀ c ∈ l, 0 ≤ c ∧ c ≤ 1) : 0 ≤ wordOf l ∧ wordOf l < 2 ^ l.length := by
  induction l with
  | nil => simp [wordOf]
  | cons c l ih =>
    obtain ⟨h1, h2⟩ := ih (fun x hx => h x (List.mem_cons_of_mem _ hx))
    obtain ⟨h3, h4⟩ := h c (List.mem_cons_self ..)
    show 0 ≤ wordOf l * 2 + c ∧ wordOf l * 2 + c < 2 ^ (l.length + 1)
    rw [Int.pow_succ]
    omega
theorem wordOf_drop (l : List Int) (i : Nat) (h : i < l.length) : wordOf (l.drop i) = wordOf (l.drop (i + 1)) * 2 + l.getD i 0 := by
  rw [List.drop_eq_getElem_cons h]
  show wordOf (l.drop (i + 1)) * 2 + l[i] = _
  simp [List.getD, h]
theorem pow63 : (2 : Int) ^ 63 = 9223372036854775808 := by decide
theorem wordOf_drop_bd (l : List Int) (hl : l.length ≤ 64) (h : ∀ c ∈ l, 0 ≤ c ∧ c ≤ 1) (i : Nat) (hi : 1 ≤ i) : 0 ≤ wordOf (l.drop i) ∧ wordOf (l.drop i) ≤ 9223372036854775807 := by
  obtain ⟨h1, h2⟩ := wordOf_bd (l.drop i) (fun c hc => h c (List.mem_of_mem_drop hc))
  refine ⟨h1, ?_⟩
  have h3 : (2 : Int) ^ (l.drop i).length ≤ 2 ^ 63 := by
    have : 2 ^ (l.drop i).length ≤ 2 ^ 63 := Nat.pow_le_pow_right (by decide) (by rw [List.length_drop]; omega)
    exact_mod_cast this
  rw [pow63] at h3
  omega

/-- a list's parts: from lo on -/
theorem bl_slice (b : Nat → Bool) (n lo m : Nat) (h : lo + m ≤ n) : ((bl b n).drop lo).take m = bl (fun i => b (lo + i)) m := by
  apply List.ext_getElem?
  intro i
  by_cases hi : i < m
  · rw [List.getElem?_take_of_lt hi, List.getElem?_drop, bl_get? _ _ _ (by omega), bl_get? _ _ _ hi]
  · rw [List.getElem?_eq_none (by simp [bl_length]; omega), List.getElem?_eq_none (by simp [bl_length]; omega)]

/-! ### the code's words -/
/-- Two's powers as plain numbers. -/
def pw (n : Int) : Int := ((2 ^ n.toNat : Nat) : Int)
def maskN (n : Int) : Nat := 2 ^ (min n.toNat 64) - 1
/-- the code's mask -/
def mask (n : Int) : Int := ((maskN n : Nat) : Int)
theorem maskN_lt (n : Int) : maskN n < 18446744073709551616 := by
  have : 2 ^ (min n.toNat 64) ≤ 2 ^ 64 := Nat.pow_le_pow_right (by decide) (by omega)
  have h0 : 0 < 2 ^ (min n.toNat 64) := Nat.two_pow_pos _
  unfold maskN; omega
theorem mask_bd (n : Int) : 0 ≤ mask n ∧ mask n < 18446744073709551616 := by
  have := maskN_lt n
  unfold mask; omega
theorem maskN_testBit (n : Int) (i : Nat) : (maskN n).testBit i = (decide (i < n.toNat) && decide (i < 64)) := by
  unfold maskN
  rw [Nat.testBit_two_pow_sub_one, ← Bool.decide_and]
  congr 1
  apply propext
  omega

def spanB (hi lo : Int) : Bool := decide (0 ≤ lo) && decide (lo ≤ hi) && decide (hi ≤ 63)
theorem span_of {hi lo : Int} (h : spanB hi lo = true) : 0 ≤ lo ∧ lo ≤ hi ∧ hi ≤ 63 := by
  simp [spanB] at h; omega
theorem span_mk {hi lo : Int} (h1 : 0 ≤ lo) (h2 : lo ≤ hi) (h3 : hi ≤ 63) : spanB hi lo = true := by
  simp [spanB]; omega

/-- the bits from lo up to hi, by number -/
def getN (w hi lo : Nat) : Nat := num (fun i => w.testBit (lo + i)) (hi + 1 - lo)
def get (w hi lo : Int) : Int := if spanB hi lo = true then ((getN w.toNat hi.toNat lo.toNat : Nat) : Int) else 0
def putBit (w v hi lo : Nat) (i : Nat) : Bool := if lo ≤ i ∧ i ≤ hi then v.testBit (i - lo) else w.testBit i
def putN (w hi lo v : Nat) : Nat := num (putBit w v hi lo) 64
def put (w hi lo v : Int) : Int := if spanB hi lo = true then ((putN w.toNat hi.toNat lo.toNat v.toNat : Nat) : Int) else w
def bitB (w n : Int) : Bool := get w n n == 1
def downN (w : Nat) (n : Int) : Nat := num (fun i => w.testBit i && !(decide (i < n.toNat))) 64
def down (w n : Int) : Int := ((downN w.toNat n : Nat) : Int)
def alignedB (w n : Int) : Bool := down w n == w

theorem getN_lt (w hi lo : Nat) (h : hi ≤ 63) : getN w hi lo < 18446744073709551616 := by
  have := num_lt (fun i => w.testBit (lo + i)) (hi + 1 - lo)
  have h2 : 2 ^ (hi + 1 - lo) ≤ 2 ^ 64 := Nat.pow_le_pow_right (by decide) (by omega)
  unfold getN; omega
theorem get_bd (w hi lo : Int) : 0 ≤ get w hi lo ∧ get w hi lo < 18446744073709551616 := by
  unfold get
  split
  · rename_i h
    have := span_of h
    have := getN_lt w.toNat hi.toNat lo.toNat (by omega)
    omega
  · omega
theorem putN_lt (w hi lo v : Nat) : putN w hi lo v < 18446744073709551616 := num_lt _ 64
theorem put_bd (w hi lo v : Int) (h0 : 0 ≤ w) (h1 : w < 18446744073709551616) : 0 ≤ put w hi lo v ∧ put w hi lo v < 18446744073709551616 := by
  unfold put
  split
  · have := putN_lt w.toNat hi.toNat lo.toNat v.toNat
    omega
  · omega
theorem downN_lt (w : Nat) (n : Int) : downN w n < 18446744073709551616 := num_lt _ 64
theorem down_bd (w n : Int) : 0 ≤ down w n ∧ down w n < 18446744073709551616 := by
  have := downN_lt w.toNat n
  unfold down; omega

theorem tb64 {x : Nat} (h : x < 18446744073709551616) {i : Nat} (hi : 64 ≤ i) : x.testBit i = false := by
  apply Nat.testBit_lt_two_pow
  have h2 : 2 ^ 64 ≤ 2 ^ i := Nat.pow_le_pow_right (by decide) hi
  omega
theorem div_lt {x : Nat} (h : x < 18446744073709551616) (k : Nat) : x / k < 18446744073709551616 := Nat.lt_of_le_of_lt (Nat.div_le_self _ _) h
/-- what 'w >> lo & mask' is -/
theorem get_nat (w hi lo : Nat) (h1 : lo ≤ hi) (h2 : hi ≤ 63) : (w / 2 ^ lo) &&& maskN ((hi : Int) - lo + 1) = getN w hi lo := by
  apply Nat.eq_of_testBit_eq
  intro i
  rw [Nat.testBit_and, Nat.testBit_div_two_pow, maskN_testBit, getN, num_testBit]
  rw [show ((hi : Int) - lo + 1).toNat = hi + 1 - lo by omega, Nat.add_comm i lo]
  by_cases hi' : i < hi + 1 - lo
  · have : i < 64 := by omega
    simp [hi', this]
  · simp [hi']
/-- what 'w &^ m | v << lo & m' is -/
theorem put_nat (w hi lo v : Nat) (hw : w < 18446744073709551616) (h1 : lo ≤ hi) (h2 : hi ≤ 63) :
    (w &&& (18446744073709551615 - maskN ((hi : Int) - lo + 1) * 2 ^ lo % 18446744073709551616)) ||| ((v * 2 ^ lo % 18446744073709551616) &&& (maskN ((hi : Int) - lo + 1) * 2 ^ lo % 18446744073709551616)) = putN w hi lo v := by
  have e64 : 18446744073709551616 = 2 ^ 64 := by decide
  have em : ∀ i, (maskN ((hi : Int) - lo + 1) * 2 ^ lo % 18446744073709551616).testBit i = (decide (lo ≤ i) && decide (i ≤ hi)) := by
    intro i
    rw [e64, Nat.testBit_mod_two_pow, ← Nat.shiftLeft_eq, Nat.testBit_shiftLeft, maskN_testBit, show ((hi : Int) - lo + 1).toNat = hi + 1 - lo by omega]
    by_cases a : lo ≤ i
    · by_cases b : i ≤ hi
      · have c1 : i < 64 := by omega
        have c2 : i - lo < hi + 1 - lo := by omega
        have c3 : i - lo < 64 := by omega
        simp [a, b, c1, c2, c3]
      · have c2 : ¬ i - lo < hi + 1 - lo := by omega
        simp [b, c2]
    · simp [a]
  have hm := Nat.mod_lt (maskN ((hi : Int) - lo + 1) * 2 ^ lo) (show 18446744073709551616 > 0 by decide)
  generalize maskN ((hi : Int) - lo + 1) * 2 ^ lo % 18446744073709551616 = m at em hm ⊢
  apply Nat.eq_of_testBit_eq
  intro i
  rw [show 18446744073709551615 - m = 2 ^ 64 - (m + 1) by omega, Nat.testBit_or, Nat.testBit_and, Nat.testBit_and, Nat.testBit_two_pow_sub_succ (by omega), em i, e64, Nat.testBit_mod_two_pow, ← Nat.shiftLeft_eq, Nat.testBit_shiftLeft, putN, num_testBit]
  unfold putBit
  by_cases c : i < 64
  · by_cases a : lo ≤ i
    · by_cases b : i ≤ hi
      · simp [a, b, c]
      · simp [a, b, c]
    · simp [a, c]
  · have d : ¬ i ≤ hi := by omega
    simp [c, d]
theorem down_nat (w : Nat) (n : Int) (hw : w < 18446744073709551616) : w &&& (18446744073709551615 - maskN n) = downN w n := by
  have hm := maskN_lt n
  have e64 : 18446744073709551616 = 2 ^ 64 := by decide
  apply Nat.eq_of_testBit_eq
  intro i
  rw [show 18446744073709551615 - maskN n = 2 ^ 64 - (maskN n + 1) by omega, Nat.testBit_and, Nat.testBit_two_pow_sub_succ (by omega), maskN_testBit, downN, num_testBit]
  by_cases c : i < 64
  · by_cases a : i < n.toNat <;> simp [a, c]
  · simp [c]
/-- what is aligned: both ways to ask -/
theorem aligned_nat (w : Nat) (n : Int) (hw : w < 18446744073709551616) : (w &&& maskN n = 0) ↔ downN w n = w := by
  constructor
  · intro h
    apply Nat.eq_of_testBit_eq
    intro i
    have hi := congrArg (fun x => x.testBit i) h
    simp only [Nat.testBit_and, maskN_testBit, Nat.zero_testBit] at hi
    rw [downN, num_testBit]
    by_cases c : i < 64
    · by_cases a : i < n.toNat
      · simp [a, c] at hi; simp [a, hi]
      · simp [a, c]
    · simp [c, tb64 hw (show 64 ≤ i by omega)]
  · intro h
    apply Nat.eq_of_testBit_eq
    intro i
    have hi := congrArg (fun x => x.testBit i) h
    simp only [downN, num_testBit] at hi
    rw [Nat.testBit_and, maskN_testBit, Nat.zero_testBit]
    by_cases c : i < 64
    · by_cases a : i < n.toNat
      · simp [a, c] at hi; simp [hi]
      · simp [a]
    · simp [c]

theorem getN_eq (w hi lo : Nat) : getN w hi lo = w / 2 ^ lo % 2 ^ (hi + 1 - lo) := by
  apply Nat.eq_of_testBit_eq
  intro i
  rw [getN, num_testBit, Nat.testBit_mod_two_pow, Nat.testBit_div_two_pow, Nat.add_comm i lo]
theorem num_eq_mod (w n : Nat) : num (fun i => w.testBit i) n = w % 2 ^ n := by
  apply Nat.eq_of_testBit_eq
  intro i
  rw [num_testBit, Nat.testBit_mod_two_pow]
theorem and_mask (w : Nat) (n : Int) (h : n ≤ 64) : w &&& maskN n = num (fun i => w.testBit i) n.toNat := by
  apply Nat.eq_of_testBit_eq
  intro i
  rw [num_testBit, Nat.testBit_and, maskN_testBit]
  by_cases c : i < 64
  · simp [c, Bool.and_comm]
  · have : ¬ i < n.toNat := by omega
    simp [c, this]

/-- the number that k + 1 low bits write, the highest for its sign -/
def signedN (w k : Nat) : Int := ((num (fun i => w.testBit i) k : Nat) : Int) - (if w.testBit k then ((2 ^ k : Nat) : Int) else 0)
def signed (w n : Int) : Int := if n < 1 ∨ 63 < n then 0 else signedN w.toNat (n - 1).toNat
theorem signedN_bd (w k : Nat) : -((2 ^ k : Nat) : Int) ≤ signedN w k ∧ signedN w k < ((2 ^ k : Nat) : Int) := by
  have := num_lt (fun i => w.testBit i) k
  unfold signedN
  split <;> omega
/-- the same out of the code's two halves -/
theorem signedN_code (w k : Nat) : signedN w k = if w.testBit k then ((num (fun i => w.testBit i) (k + 1) : Nat) : Int) - ((2 ^ k : Nat) : Int) - ((2 ^ k : Nat) : Int) else ((num (fun i => w.testBit i) (k + 1) : Nat) : Int) := by
  unfold signedN
  simp only [num]
  by_cases hb : w.testBit k = true <;> simp [hb] <;> omega
theorem signedN_mod (w k : Nat) : ∃ q : Int, signedN w k = (w : Int) + q * ((2 ^ (k + 1) : Nat) : Int) := by
  have e := signedN_code w k
  rw [num_eq_mod] at e
  have hd : ((w % 2 ^ (k + 1) : Nat) : Int) = (w : Int) - ((w / 2 ^ (k + 1) : Nat) : Int) * ((2 ^ (k + 1) : Nat) : Int) := by
    have := Nat.div_add_mod w (2 ^ (k + 1))
    rw [Nat.mul_comm] at this
    have h2 := congrArg (fun x : Nat => (x : Int)) this
    simp only [Int.natCast_add, Int.natCast_mul] at h2
    omega
  have hp : ((2 ^ (k + 1) : Nat) : Int) = 2 * ((2 ^ k : Nat) : Int) := by rw [Nat.pow_succ]; omega
  rw [hd] at e
  by_cases hb : w.testBit k
  · rw [if_pos hb] at e
    refine ⟨-((w / 2 ^ (k + 1) : Nat) : Int) - 1, ?_⟩
    rw [e, Int.sub_mul, Int.neg_mul, Int.one_mul]
    omega
  · rw [if_neg hb] at e
    refine ⟨-((w / 2 ^ (k + 1) : Nat) : Int), ?_⟩
    rw [e, Int.neg_mul]
    omega
def fitsB (v n : Int) : Bool := decide (1 ≤ n) && decide (n ≤ 63) && decide (-pw (n - 1) ≤ v) && decide (v ≤ pw (n - 1) - 1)
/-- a number fits, if it is the one that its own low bits write -/
theorem fits_iff (v n : Int) (h1 : 1 ≤ n) (h2 : n ≤ 63) : fitsB v n = (signed (v % 18446744073709551616) n == v) := by
  unfold fitsB signed pw
  rw [if_neg (by omega)]
  have hk : (n - 1).toNat ≤ 62 := by omega
  generalize (n - 1).toNat = k at hk
  obtain ⟨q, hq⟩ := signedN_mod (v % 18446744073709551616).toNat k
  obtain ⟨b1, b2⟩ := signedN_bd (v % 18446744073709551616).toNat k
  generalize signedN (v % 18446744073709551616).toNat k = s at hq b1 b2
  have hv : (((v % 18446744073709551616).toNat : Nat) : Int) = v - (v / 18446744073709551616) * 18446744073709551616 := by
    have := Int.emod_nonneg v (show (18446744073709551616 : Int) ≠ 0 by decide)
    have := Int.mul_ediv_add_emod v 18446744073709551616
    omega
  rw [hv] at hq
  have e64 : (18446744073709551616 : Int) = ((2 ^ (63 - k) : Nat) : Int) * ((2 ^ (k + 1) : Nat) : Int) := by
    rw [← Int.natCast_mul, ← Nat.pow_add, show 63 - k + (k + 1) = 64 by omega]
    decide
  have hp : ((2 ^ (k + 1) : Nat) : Int) = 2 * ((2 ^ k : Nat) : Int) := by rw [Nat.pow_succ]; omega
  have hpos : (0 : Int) < ((2 ^ k : Nat) : Int) := by exact_mod_cast Nat.two_pow_pos k
  have hc : ∃ t : Int, s = v + t * (2 * ((2 ^ k : Nat) : Int)) := by
    refine ⟨q - (v / 18446744073709551616) * ((2 ^ (63 - k) : Nat) : Int), ?_⟩
    have h3 : v / 18446744073709551616 * 18446744073709551616 = v / 18446744073709551616 * ((2 ^ (63 - k) : Nat) : Int) * (2 * ((2 ^ k : Nat) : Int)) := by
      rw [Int.mul_assoc, ← hp, ← e64]
    rw [hq, h3, Int.sub_mul, hp]
    omega
  clear hq hv e64 hp
  obtain ⟨t, ht⟩ := hc
  generalize ((2 ^ k : Nat) : Int) = P at *
  rw [Bool.eq_iff_iff]
  simp only [Bool.and_eq_true, decide_eq_true_eq, beq_iff_eq]
  constructor
  · rintro ⟨⟨⟨_, _⟩, h3⟩, h4⟩
    have ht0 : t = 0 := by
      rcases Int.lt_trichotomy t 0 with h | h | h
      · have : t * (2 * P) ≤ (-1) * (2 * P) := Int.mul_le_mul_of_nonneg_right (by omega) (by omega)
        omega
      · exact h
      · have : 1 * (2 * P) ≤ t * (2 * P) := Int.mul_le_mul_of_nonneg_right (by omega) (by omega)
        omega
    subst ht0
    omega
  · intro h
    omega

theorem pw_bd (n : Int) (h : n ≤ 63) : 1 ≤ pw (n - 1) ∧ pw (n - 1) ≤ 4611686018427387904 := by
  unfold pw
  have h0 : 0 < 2 ^ (n - 1).toNat := Nat.two_pow_pos _
  have h1 : 2 ^ (n - 1).toNat ≤ 2 ^ 62 := Nat.pow_le_pow_right (by decide) (by omega)
  omega
theorem pw_cast (n : Int) : (2 : Int) ^ (n.toNat - 1) = pw (n - 1) := by
  unfold pw
  rw [show (n - 1).toNat = n.toNat - 1 by omega]
  simp
theorem fits_out (v n : Int) (h : n < 1 ∨ 63 < n) : fitsB v n = false := by
  unfold fitsB
  rcases h with h | h
  · rw [decide_eq_false (show ¬ 1 ≤ n by omega)]; simp
  · rw [decide_eq_false (show ¬ n ≤ 63 by omega)]; simp

/-! ### what a table's entry is -/
def slot (a l : Int) : Int := if l = 1 then get a 29 21 else if l = 2 then get a 20 12 else 0
theorem get_29 (a : Int) (h : 0 ≤ a) : get a 29 21 = a / 2097152 % 512 := by
  obtain ⟨x, rfl⟩ := Int.eq_ofNat_of_zero_le h
  rw [get, if_pos (by decide), getN_eq]
  show (((x / 2 ^ 21 % 2 ^ 9 : Nat)) : Int) = _
  omega
theorem get_20 (a : Int) (h : 0 ≤ a) : get a 20 12 = a / 4096 % 512 := by
  obtain ⟨x, rfl⟩ := Int.eq_ofNat_of_zero_le h
  rw [get, if_pos (by decide), getN_eq]
  show (((x / 2 ^ 12 % 2 ^ 9 : Nat)) : Int) = _
  omega

end GrF
