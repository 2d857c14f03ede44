/-
  PLAIN TEXTS for layer 4: the words of a printed instruction; they are as usual; they are guessed as it, and as no other operation. No program in sight.
  PLAIN TEXTS for layer 4: the words of a printed instruction are those; they are as usual; they are guessed as it; no other operation is. No program in sight.
  PLAIN TEXTS for layer 4: the words of an instruction guess it, and no other operation; a text is read. No program in sight.
-/
import Derived.Test.YtebpmngllljkaaaDoorVd
set_option linter.unusedSimpArgs false
set_option linter.unusedVariables false
namespace GrA
open GrP

def plainT (a : Tx) : Prop := ∀ c ∈ a, signB c = false ∧ blankB c = false
instance (a : Tx) : Decidable (plainT a) := by unfold plainT; infer_instance
theorem plainT.tail {c : UInt8} {a : Tx} (h : plainT (c :: a)) : plainT a := fun x hx => h x (List.mem_cons_of_mem _ hx)
theorem plainT.app {a b : Tx} (h : plainT a) (k : plainT b) : plainT (a ++ b) := fun x hx => by
  rcases List.mem_append.1 hx with hx | hx
  · exact h x hx
  · exact k x hx
theorem go_app {a : Tx} (h : plainT a) : ∀ cur t, go cur (a ++ t) = go (cur ++ a) t := by
  induction a with
  | nil => intro cur t; simp
  | cons c a ih =>
    intro cur t
    have hc := h c (List.mem_cons_self ..)
    rw [List.cons_append, go_plain hc.1 hc.2, ih h.tail]
    simp
theorem words_sign {a : Tx} {c : UInt8} {t : Tx} (h : plainT a) (hn : a ≠ []) (hs : signB c = true) : words (a ++ c :: t) = a :: [c] :: words t := by
  unfold words
  rw [go_app h, List.nil_append, go_sign hs, flush, if_neg hn]
  rfl
theorem words_blank {a : Tx} {c : UInt8} {t : Tx} (h : plainT a) (hn : a ≠ []) (hs : blankB c = true) : words (a ++ c :: t) = a :: words t := by
  have hs2 : signB c = false := by
    cases h2 : signB c with
    | false => rfl
    | true => rw [sign_blank c h2] at hs; cases hs
  unfold words
  rw [go_app h, List.nil_append, go_blank hs2 hs, flush, if_neg hn]
  rfl
theorem words_end {a : Tx} (h : plainT a) (hn : a ≠ []) : words a = [a] := by
  have := go_app h [] []
  unfold words
  rw [List.append_nil] at this
  rw [this, List.nil_append, go, flush, if_neg hn]
theorem words_one {c : UInt8} {t : Tx} (hs : signB c = true) : words (c :: t) = [c] :: words t := by
  unfold words
  rw [go_sign hs]
  rfl
theorem words_nil : words [] = [] := by decide
/-- blanks ahead are none -/
theorem words_blanks {t : Tx} (n : Nat) : words (List.replicate n 32 ++ t) = words t := by
  induction n with
  | zero => simp
  | succ n ih =>
    rw [List.replicate_succ, List.cons_append]
    unfold words at *
    rw [go_blank (by decide) (by decide), ih]
    rfl

theorem digs_plain (u : Nat) : plainT (digs 10 u) := by
  induction u using Nat.strongRecOn with
  | _ u ih =>
    have key : ∀ d : Fin 10, signB (dgc d.val) = false ∧ blankB (dgc d.val) = false := by decide +kernel
    by_cases h : u < 10
    · rw [digs_small h]
      intro c hc
      simp at hc
      subst hc
      exact key ⟨u, h⟩
    · rw [digs_big h (by omega)]
      refine (ih (u / 10) (by omega)).app ?_
      intro c hc
      simp at hc
      subst hc
      exact key ⟨u % 10, by omega⟩
/-- digits are none of the marks -/
theorem digs_digit (u : Nat) : ∀ c ∈ digs 10 u, cutset c = false ∧ c ≠ 45 := by
  induction u using Nat.strongRecOn with
  | _ u ih =>
    have key : ∀ d : Fin 10, cutset (dgc d.val) = false ∧ dgc d.val ≠ 45 := by decide +kernel
    by_cases h : u < 10
    · rw [digs_small h]
      intro c hc
      simp at hc
      subst hc
      exact key ⟨u, h⟩
    · rw [digs_big h (by omega)]
      intro c hc
      rcases List.mem_append.1 hc with hc | hc
      · exact ih (u / 10) (by omega) c hc
      · simp at hc
        subst hc
        exact key ⟨u % 10, by omega⟩
theorem num_nat {n : Int} (h : 0 ≤ n) : num n = digs 10 n.toNat := by rw [num, Go.Lib.itoa, if_neg (by omega), digs_dec]
theorem num_neg {n : Int} (h : n < 0) : num n = 45 :: digs 10 n.natAbs := by rw [num, Go.Lib.itoa, if_pos h, digs_dec]
theorem num_plain (n : Int) : plainT (num n) := by
  by_cases h : 0 ≤ n
  · rw [num_nat h]; exact digs_plain _
  · rw [num_neg (by omega)]
    intro c hc
    rcases List.mem_cons.1 hc with rfl | hc
    · decide
    · exact digs_plain _ c hc
theorem num_ne (n : Int) : num n ≠ [] := by
  by_cases h : 0 ≤ n
  · rw [num_nat h]; exact digs_ne _ _
  · rw [num_neg (by omega)]; simp
theorem val_num {n : Int} (h : 0 ≤ n) (h2 : n < 18446744073709551616) : val (num n) = (n.toNat, 0) := by
  rw [num_nat h]
  exact parse_dec n.toNat (by omega)
theorem val_digs {u : Nat} (h2 : u < 18446744073709551616) : val (digs 10 u) = (u, 0) := parse_dec u h2

/-- registers, by their numbers -/
theorem regs_all : ∀ k : Fin 32, plainT (reg (k.val : Int)) ∧ reg (k.val : Int) ≠ [] ∧ numberOf (reg (k.val : Int)) = some k.val ∧ plainW (reg (k.val : Int)) = reg (k.val : Int) ∧ (reg (k.val : Int)).getD 0 0 = 88 ∧ (reg (k.val : Int) = XZR ↔ k.val = 31) := by
  unfold plainT
  decide +kernel
structure RegOk (n : Int) : Prop where
  pl : plainT (reg n)
  ne : reg n ≠ []
  num : numberOf (reg n) = some n.toNat
  same : plainW (reg n) = reg n
  head : (reg n).getD 0 0 = 88
  xzr : reg n = XZR ↔ n = 31
theorem reg_ok {n : Int} (h0 : 0 ≤ n) (h1 : n ≤ 31) : RegOk n := by
  obtain ⟨k, rfl⟩ := Int.eq_ofNat_of_zero_le h0
  obtain ⟨a, b, c, d, e, f⟩ := regs_all ⟨k, by omega⟩
  exact ⟨a, b, by simpa using c, d, e, by rw [show ((k : Int) = 31) ↔ k = 31 by omega]; exact f⟩

/-- a number behind its mark -/
def imm (n : Int) : Tx := 35 :: num n
theorem imm_plain (n : Int) : plainT (imm n) := by
  intro c hc
  rcases List.mem_cons.1 hc with rfl | hc
  · decide
  · exact num_plain n c hc
theorem imm_same {n : Int} (h : 0 ≤ n) (h2 : n ≤ 1099511627776) : plainW (imm n) = imm n := by
  have hp : Go.Lib.hasPrefix (imm n) [35] = true := by simp [Go.Lib.hasPrefix, imm, List.isPrefixOf]
  rw [plainW, if_pos hp, plainM]
  have hd : (imm n).drop ([35] : Tx).length = num n := rfl
  rw [hd, val_num h (by omega), if_neg (by simp [most]; omega), if_neg (by simp)]
  rw [imm, num_nat h]
  rfl
theorem toT_plain (n : Int) : plainT (toT n) := by
  intro c hc
  unfold toT at hc
  split at hc
  · rcases List.mem_cons.1 hc with rfl | hc
    · decide
    · exact num_plain n c hc
  · rcases List.mem_cons.1 hc with rfl | hc
    · decide
    · rcases List.mem_cons.1 hc with rfl | hc
      · decide
      · exact num_plain n c hc
theorem toT_ne (n : Int) : toT n ≠ [] := by unfold toT; split <;> simp
theorem toT_same {n : Int} (h : -1099511627776 ≤ n) (h2 : n ≤ 1099511627776) : plainW (toT n) = toT n := by
  by_cases c : n < 0
  · rw [toT, if_pos c, num_neg c]
    have p1 : Go.Lib.hasPrefix (46 :: 45 :: digs 10 n.natAbs : Tx) [35] = false := by simp [Go.Lib.hasPrefix, List.isPrefixOf]
    have p2 : Go.Lib.hasPrefix (46 :: 45 :: digs 10 n.natAbs : Tx) [46, 43] = false := by simp [Go.Lib.hasPrefix, List.isPrefixOf]
    have p3 : Go.Lib.hasPrefix (46 :: 45 :: digs 10 n.natAbs : Tx) [46, 45] = true := by simp [Go.Lib.hasPrefix, List.isPrefixOf]
    rw [plainW, if_neg (by rw [p1]; simp), if_neg (by rw [p2]; simp), if_pos p3, plainM]
    have hd : (46 :: 45 :: digs 10 n.natAbs : Tx).drop ([46, 45] : Tx).length = digs 10 n.natAbs := rfl
    rw [hd, val_digs (by omega), if_neg (by simp [most]; omega), if_neg (by simp; omega)]
    rfl
  · rw [toT, if_neg c, num_nat (by omega)]
    have p1 : Go.Lib.hasPrefix (46 :: 43 :: digs 10 n.toNat : Tx) [35] = false := by simp [Go.Lib.hasPrefix, List.isPrefixOf]
    have p2 : Go.Lib.hasPrefix (46 :: 43 :: digs 10 n.toNat : Tx) [46, 43] = true := by simp [Go.Lib.hasPrefix, List.isPrefixOf]
    rw [plainW, if_neg (by rw [p1]; simp), if_pos p2, plainM]
    have hd : (46 :: 43 :: digs 10 n.toNat : Tx).drop ([46, 43] : Tx).length = digs 10 n.toNat := rfl
    rw [hd, val_digs (by omega), if_neg (by simp [most]; omega), if_neg (by simp)]
    rfl
theorem imm_zero {n : Int} (h : 0 ≤ n) (h2 : n ≤ 1099511627776) : imm n = [35, 48] ↔ n = 0 := by
  constructor
  · intro e
    have e2 : num n = [48] := by simpa [imm] using e
    have h3 := val_num h (by omega)
    rw [e2, show val [48] = (0, 0) by decide +kernel] at h3
    have := congrArg Prod.fst h3
    simp at this
    omega
  · rintro rfl; decide +kernel
theorem drop_cut {l : Tx} (h : ∀ c ∈ l, cutset c = false) : l.dropWhile cutset = l := by
  cases l with
  | nil => rfl
  | cons c l => rw [List.dropWhile_cons, if_neg (by rw [h c (List.mem_cons_self ..)]; simp)]
theorem imm_number {n : Int} (h : 0 ≤ n) (h2 : n ≤ 1099511627776) : numberIn (imm n) = n := by
  rw [numberIn, if_neg (by simp [imm, List.isPrefixOf])]
  rw [imm, num_nat h, List.dropWhile_cons, if_pos (by decide), drop_cut (fun c hc => (digs_digit _ c hc).1), val_digs (by omega)]
  simp [most]
  omega
theorem toT_number {n : Int} (h : -1099511627776 ≤ n) (h2 : n ≤ 1099511627776) : numberIn (toT n) = n := by
  by_cases c : n < 0
  · rw [toT, if_pos c, num_neg c, numberIn, if_pos (by simp [List.isPrefixOf])]
    rw [show (46 :: 45 :: digs 10 n.natAbs : Tx).drop 2 = digs 10 n.natAbs from rfl, val_digs (by omega)]
    simp [most]
    omega
  · rw [toT, if_neg c, num_nat (by omega), numberIn, if_neg (by simp [List.isPrefixOf])]
    rw [List.dropWhile_cons, if_pos (by decide), List.dropWhile_cons, if_pos (by decide), drop_cut (fun c hc => (digs_digit _ c hc).1), val_digs (by omega)]
    simp [most]
    omega

/-- the words of what is printed -/
def cellW (n i : Int) : List Tx := if i = 0 then [[91], reg n, [93]] else [[91], reg n, [44], imm i, [93]]
def wordsR (x : GrI.I) : List Tx :=
  if x.op = 2 ∨ x.op = 3 ∨ x.op = 4 ∨ x.op = 5 then at! names x.op :: reg x.d :: [44] :: cellW x.n x.imm
  else if x.op = 6 then (if 0 < x.kind then [MOVZ, reg x.d, [44], imm x.imm, [44], LSL, imm (16 * x.kind)] else [MOV, reg x.d, [44], imm x.imm])
  else if x.op = 7 then [at! names x.op, reg x.d, [44], reg x.n, [44], imm x.imm]
  else if x.op = 13 ∧ x.d = 31 then [CMP, reg x.n, [44], reg x.m]
  else if 8 ≤ x.op ∧ x.op ≤ 13 then [at! names x.op, reg x.d, [44], reg x.n, [44], reg x.m]
  else if x.op = 14 then [at! names x.op, toT x.imm]
  else if x.op = 15 ∨ x.op = 16 then [at! names x.op, reg x.d, [44], toT x.imm]
  else if x.op = 17 then [at! conds x.kind, toT x.imm]
  else if x.op = 18 ∨ x.op = 19 then [at! names x.op, at! bars x.kind]
  else if x.op = 21 then (if x.kind % 4 = 0 then [at! names x.op, at! flushes x.kind] else [at! names x.op, at! flushes x.kind, [44], reg x.d])
  else if x.op = 23 then [at! names x.op, reg x.d, [44], at! systems x.kind]
  else [at! names x.op]
end GrA

namespace GrA
open GrP GrI
theorem wcell (n i : Int) (hn : RegOk n) : words (cellT n i) = cellW n i := by
  unfold cellT cellW
  by_cases c : i = 0
  · rw [if_pos c, if_pos c, List.cons_append, words_one (by decide), words_sign hn.pl hn.ne (by decide), words_nil]
  · rw [if_neg c, if_neg c]
    simp only [List.cons_append, List.append_assoc, List.nil_append]
    rw [words_one (by decide), words_sign hn.pl hn.ne (by decide), show (35 :: (num i ++ [93]) : Tx) = imm i ++ 93 :: [] by rw [imm]; rfl, words_sign (imm_plain i) (by rw [imm]; simp) (by decide), words_nil]
theorem w_cell (a : Tx) (d n i : Int) (ha : plainT a) (hn : a ≠ []) (hd : RegOk d) (hr : RegOk n) : words (a ++ 32 :: reg d ++ 44 :: cellT n i) = a :: reg d :: [44] :: cellW n i := by
  simp only [List.append_assoc, List.cons_append]
  rw [words_blank ha hn (by decide), words_sign hd.pl hd.ne (by decide), wcell n i hr]
theorem w_mov (d i : Int) (hd : RegOk d) : words ([77, 79, 86, 32] ++ reg d ++ 44 :: 35 :: num i) = [MOV, reg d, [44], imm i] := by
  simp only [List.append_assoc, List.cons_append, List.nil_append]
  rw [show (77 :: 79 :: 86 :: 32 :: (reg d ++ 44 :: 35 :: num i) : Tx) = MOV ++ 32 :: (reg d ++ 44 :: imm i) by rw [imm]; rfl, words_blank (by decide) (by decide) (by decide), words_sign hd.pl hd.ne (by decide), words_end (imm_plain i) (by rw [imm]; simp)]
theorem w_movz (d i k : Int) (hd : RegOk d) : words ([77, 79, 86, 90, 32] ++ reg d ++ 44 :: 35 :: num i ++ [44, 76, 83, 76, 32, 35] ++ num k) = [MOVZ, reg d, [44], imm i, [44], LSL, imm k] := by
  simp only [List.append_assoc, List.cons_append, List.nil_append]
  rw [show (77 :: 79 :: 86 :: 90 :: 32 :: (reg d ++ 44 :: 35 :: (num i ++ 44 :: 76 :: 83 :: 76 :: 32 :: 35 :: num k)) : Tx) = MOVZ ++ 32 :: (reg d ++ 44 :: (imm i ++ 44 :: (LSL ++ 32 :: imm k))) by rw [imm, imm]; rfl, words_blank (by decide) (by decide) (by decide), words_sign hd.pl hd.ne (by decide), words_sign (imm_plain i) (by rw [imm]; simp) (by decide), words_blank (by decide) (by decide) (by decide), words_end (imm_plain k) (by rw [imm]; simp)]
theorem w_addi (a : Tx) (d n i : Int) (ha : plainT a) (hn : a ≠ []) (hd : RegOk d) (hr : RegOk n) : words (a ++ 32 :: reg d ++ 44 :: reg n ++ 44 :: 35 :: num i) = [a, reg d, [44], reg n, [44], imm i] := by
  simp only [List.append_assoc, List.cons_append]
  rw [words_blank ha hn (by decide), words_sign hd.pl hd.ne (by decide), words_sign hr.pl hr.ne (by decide), show (35 :: num i : Tx) = imm i from rfl, words_end (imm_plain i) (by rw [imm]; simp)]
theorem w_three (a : Tx) (d n m : Int) (ha : plainT a) (hn : a ≠ []) (hd : RegOk d) (hr : RegOk n) (hm : RegOk m) : words (a ++ 32 :: reg d ++ 44 :: reg n ++ 44 :: reg m) = [a, reg d, [44], reg n, [44], reg m] := by
  simp only [List.append_assoc, List.cons_append]
  rw [words_blank ha hn (by decide), words_sign hd.pl hd.ne (by decide), words_sign hr.pl hr.ne (by decide), words_end hm.pl hm.ne]
theorem w_cmp (n m : Int) (hr : RegOk n) (hm : RegOk m) : words ([67, 77, 80, 32] ++ reg n ++ 44 :: reg m) = [CMP, reg n, [44], reg m] := by
  simp only [List.append_assoc, List.cons_append, List.nil_append]
  rw [show (67 :: 77 :: 80 :: 32 :: (reg n ++ 44 :: reg m) : Tx) = CMP ++ 32 :: (reg n ++ 44 :: reg m) from rfl, words_blank (by decide) (by decide) (by decide), words_sign hr.pl hr.ne (by decide), words_end hm.pl hm.ne]
theorem w_one (a b : Tx) (ha : plainT a) (hn : a ≠ []) (hb : plainT b) (hn2 : b ≠ []) : words (a ++ 32 :: b) = [a, b] := by
  rw [words_blank ha hn (by decide), words_end hb hn2]
theorem w_two (a b c : Tx) (ha : plainT a) (hn : a ≠ []) (hb : plainT b) (hn2 : b ≠ []) (hc : plainT c) (hn3 : c ≠ []) : words (a ++ 32 :: b ++ 44 :: c) = [a, b, [44], c] := by
  simp only [List.append_assoc, List.cons_append]
  rw [words_blank ha hn (by decide), words_sign hb hn2 (by decide), words_end hc hn3]
/-- what an instruction that is right has, by its operation: its text, its words, its bounds -/
theorem words_printR (x : GrI.I) (h : GrI.right x) : words (printR x) = wordsR x := by
  obtain ⟨op, d, n, m, i, kind⟩ := x
  have ho := GrI.ops h
  obtain ⟨_, _, d0, d1, n0, n1, m0, m1, _, _, _, _, _, hnum⟩ := h
  simp only at ho d0 d1 n0 n1 m0 m1
  have hd := reg_ok d0 d1
  have hn := reg_ok n0 n1
  have hm := reg_ok m0 m1
  rcases ho with rfl | rfl | rfl | rfl | rfl | rfl | rfl | rfl | rfl | rfl | rfl | rfl | rfl | rfl | rfl | rfl | rfl | rfl | rfl | rfl | rfl | rfl | rfl
  · simp only [printR, wordsR, Int.reduceEq, or_self, or_true, true_or, or_false, false_or, if_true, if_false, false_and, true_and, and_false, and_true, Int.reduceLE, and_self, reduceIte]
    exact words_end (by decide) (by decide)
  · simp only [printR, wordsR, Int.reduceEq, or_self, or_true, true_or, or_false, false_or, if_true, if_false, false_and, true_and, and_false, and_true, Int.reduceLE, and_self, reduceIte]
    exact w_cell _ d n i (by decide) (by decide) hd hn
  · simp only [printR, wordsR, Int.reduceEq, or_self, or_true, true_or, or_false, false_or, if_true, if_false, false_and, true_and, and_false, and_true, Int.reduceLE, and_self, reduceIte]
    exact w_cell _ d n i (by decide) (by decide) hd hn
  · simp only [printR, wordsR, Int.reduceEq, or_self, or_true, true_or, or_false, false_or, if_true, if_false, false_and, true_and, and_false, and_true, Int.reduceLE, and_self, reduceIte]
    exact w_cell _ d n i (by decide) (by decide) hd hn
  · simp only [printR, wordsR, Int.reduceEq, or_self, or_true, true_or, or_false, false_or, if_true, if_false, false_and, true_and, and_false, and_true, Int.reduceLE, and_self, reduceIte]
    exact w_cell _ d n i (by decide) (by decide) hd hn
  · simp only [printR, wordsR, Int.reduceEq, or_self, or_true, true_or, or_false, false_or, if_true, if_false, false_and, true_and, and_false, and_true, Int.reduceLE, and_self, reduceIte]
    by_cases c : 0 < kind
    · rw [if_pos c, if_pos c]
      exact w_movz d i (16 * kind) hd
    · rw [if_neg c, if_neg c]
      exact w_mov d i hd
  · simp only [printR, wordsR, Int.reduceEq, or_self, or_true, true_or, or_false, false_or, if_true, if_false, false_and, true_and, and_false, and_true, Int.reduceLE, and_self, reduceIte]
    exact w_addi _ d n i (by decide) (by decide) hd hn
  · simp only [printR, wordsR, Int.reduceEq, or_self, or_true, true_or, or_false, false_or, if_true, if_false, false_and, true_and, and_false, and_true, Int.reduceLE, and_self, reduceIte]
    exact w_three _ d n m (by decide) (by decide) hd hn hm
  · simp only [printR, wordsR, Int.reduceEq, or_self, or_true, true_or, or_false, false_or, if_true, if_false, false_and, true_and, and_false, and_true, Int.reduceLE, and_self, reduceIte]
    exact w_three _ d n m (by decide) (by decide) hd hn hm
  · simp only [printR, wordsR, Int.reduceEq, or_self, or_true, true_or, or_false, false_or, if_true, if_false, false_and, true_and, and_false, and_true, Int.reduceLE, and_self, reduceIte]
    exact w_three _ d n m (by decide) (by decide) hd hn hm
  · simp only [printR, wordsR, Int.reduceEq, or_self, or_true, true_or, or_false, false_or, if_true, if_false, false_and, true_and, and_false, and_true, Int.reduceLE, and_self, reduceIte]
    exact w_three _ d n m (by decide) (by decide) hd hn hm
  · simp only [printR, wordsR, Int.reduceEq, or_self, or_true, true_or, or_false, false_or, if_true, if_false, false_and, true_and, and_false, and_true, Int.reduceLE, and_self, reduceIte]
    exact w_three _ d n m (by decide) (by decide) hd hn hm
  · by_cases c : d = 31
    · subst c
      simp only [printR, wordsR, Int.reduceEq, or_self, or_true, true_or, or_false, false_or, if_true, if_false, false_and, true_and, and_false, and_true, Int.reduceLE, and_self, reduceIte]
      exact w_cmp n m hn hm
    · simp only [printR, wordsR, c, Int.reduceEq, or_self, or_true, true_or, or_false, false_or, if_true, if_false, false_and, true_and, and_false, and_true, Int.reduceLE, and_self, reduceIte]
      exact w_three _ d n m (by decide) (by decide) hd hn hm
  · simp only [printR, wordsR, Int.reduceEq, or_self, or_true, true_or, or_false, false_or, if_true, if_false, false_and, true_and, and_false, and_true, Int.reduceLE, and_self, reduceIte]
    exact w_one _ _ (by decide) (by decide) (toT_plain i) (toT_ne i)
  · simp only [printR, wordsR, Int.reduceEq, or_self, or_true, true_or, or_false, false_or, if_true, if_false, false_and, true_and, and_false, and_true, Int.reduceLE, and_self, reduceIte]
    exact w_two _ _ _ (by decide) (by decide) hd.pl hd.ne (toT_plain i) (toT_ne i)
  · simp only [printR, wordsR, Int.reduceEq, or_self, or_true, true_or, or_false, false_or, if_true, if_false, false_and, true_and, and_false, and_true, Int.reduceLE, and_self, reduceIte]
    exact w_two _ _ _ (by decide) (by decide) hd.pl hd.ne (toT_plain i) (toT_ne i)
  · simp [GrI.nums] at hnum
    obtain rfl | rfl : kind = 0 ∨ kind = 1 := by omega
    all_goals
      simp only [printR, wordsR, Int.reduceEq, or_self, or_true, true_or, or_false, false_or, if_true, if_false, false_and, true_and, and_false, and_true, Int.reduceLE, and_self, reduceIte]
      exact w_one _ _ (by decide) (by decide) (toT_plain i) (toT_ne i)
  · simp [GrI.nums] at hnum
    obtain rfl | rfl | rfl | rfl | rfl | rfl : kind = 9 ∨ kind = 10 ∨ kind = 11 ∨ kind = 13 ∨ kind = 14 ∨ kind = 15 := by omega
    all_goals
      simp only [printR, wordsR, Int.reduceEq, or_self, or_true, true_or, or_false, false_or, if_true, if_false, false_and, true_and, and_false, and_true, Int.reduceLE, and_self, reduceIte]
      exact w_one _ _ (by decide) (by decide) (by decide) (by decide)
  · simp [GrI.nums] at hnum
    obtain rfl | rfl | rfl | rfl | rfl | rfl : kind = 9 ∨ kind = 10 ∨ kind = 11 ∨ kind = 13 ∨ kind = 14 ∨ kind = 15 := by omega
    all_goals
      simp only [printR, wordsR, Int.reduceEq, or_self, or_true, true_or, or_false, false_or, if_true, if_false, false_and, true_and, and_false, and_true, Int.reduceLE, and_self, reduceIte]
      exact w_one _ _ (by decide) (by decide) (by decide) (by decide)
  · simp only [printR, wordsR, Int.reduceEq, or_self, or_true, true_or, or_false, false_or, if_true, if_false, false_and, true_and, and_false, and_true, Int.reduceLE, and_self, reduceIte]
    exact words_end (by decide) (by decide)
  · simp [GrI.nums] at hnum
    obtain rfl | rfl | rfl | rfl | rfl | rfl | rfl | rfl : kind = 0 ∨ kind = 1 ∨ kind = 2 ∨ kind = 3 ∨ kind = 4 ∨ kind = 5 ∨ kind = 6 ∨ kind = 7 := by omega
    all_goals
      simp only [printR, wordsR, Int.reduceMod, Int.reduceEq, or_self, or_true, true_or, or_false, false_or, if_true, if_false, false_and, true_and, and_false, and_true, Int.reduceLE, and_self, reduceIte]
      first
        | exact w_one _ _ (by decide) (by decide) (by decide) (by decide)
        | exact w_two _ _ _ (by decide) (by decide) (by decide) (by decide) hd.pl hd.ne
  · simp only [printR, wordsR, Int.reduceEq, or_self, or_true, true_or, or_false, false_or, if_true, if_false, false_and, true_and, and_false, and_true, Int.reduceLE, and_self, reduceIte]
    exact words_end (by decide) (by decide)
  · simp [GrI.nums] at hnum
    obtain rfl | rfl | rfl : kind = 0 ∨ kind = 1 ∨ kind = 2 := by omega
    all_goals
      simp only [printR, wordsR, Int.reduceEq, or_self, or_true, true_or, or_false, false_or, if_true, if_false, false_and, true_and, and_false, and_true, Int.reduceLE, and_self, reduceIte]
      exact w_two _ _ _ (by decide) (by decide) hd.pl hd.ne (by decide) (by decide)
theorem usual_wordsR (x : GrI.I) (h : GrI.right x) : usual (wordsR x) = wordsR x := by
  obtain ⟨op, d, n, m, i, kind⟩ := x
  have ho := GrI.ops h
  obtain ⟨_, _, d0, d1, n0, n1, m0, m1, _, _, _, hi, _, hnum⟩ := h
  simp only at ho d0 d1 n0 n1 m0 m1 hi
  have hd := reg_ok d0 d1
  have hn := reg_ok n0 n1
  have hm := reg_ok m0 m1
  have s1 : plainW [44] = [44] := by decide +kernel
  have s2 : plainW [91] = [91] := by decide +kernel
  have s3 : plainW [93] = [93] := by decide +kernel
  have s4 : plainW LSL = LSL := by decide +kernel
  have s5 : plainW MOV = MOV := by decide +kernel
  have s6 : plainW MOVZ = MOVZ := by decide +kernel
  have s7 : plainW CMP = CMP := by decide +kernel
  rcases ho with rfl | rfl | rfl | rfl | rfl | rfl | rfl | rfl | rfl | rfl | rfl | rfl | rfl | rfl | rfl | rfl | rfl | rfl | rfl | rfl | rfl | rfl | rfl
  · simp only [wordsR, Int.reduceEq, or_self, or_true, true_or, or_false, false_or, if_true, if_false, false_and, true_and, and_false, and_true, Int.reduceLE, and_self, reduceIte]
    decide +kernel
  · simp [GrI.nums] at hnum
    have sn : plainW (at! names 2) = at! names 2 := by decide +kernel
    simp only [wordsR, Int.reduceEq, or_self, or_true, true_or, or_false, false_or, if_true, if_false, false_and, true_and, and_false, and_true, Int.reduceLE, and_self, reduceIte]
    unfold cellW
    by_cases c : i = 0
    · rw [if_pos c]
      simp only [usual, List.map_cons, List.map_nil, hd.same, hn.same, hm.same, s1, s2, s3, s4, s5, s6, s7, sn]
      unfold usualL
      simp [show ¬ at! names 2 = SUBS by decide]
    · rw [if_neg c]
      have si := imm_same (n := i) (by omega) (by omega)
      have sz := mt (imm_zero (n := i) (by omega) (by omega)).1 c
      simp only [usual, List.map_cons, List.map_nil, hd.same, hn.same, hm.same, s1, s2, s3, s4, s5, s6, s7, sn, si]
      unfold usualL
      simp [sz]
  · simp [GrI.nums] at hnum
    have sn : plainW (at! names 3) = at! names 3 := by decide +kernel
    simp only [wordsR, Int.reduceEq, or_self, or_true, true_or, or_false, false_or, if_true, if_false, false_and, true_and, and_false, and_true, Int.reduceLE, and_self, reduceIte]
    unfold cellW
    by_cases c : i = 0
    · rw [if_pos c]
      simp only [usual, List.map_cons, List.map_nil, hd.same, hn.same, hm.same, s1, s2, s3, s4, s5, s6, s7, sn]
      unfold usualL
      simp [show ¬ at! names 3 = SUBS by decide]
    · rw [if_neg c]
      have si := imm_same (n := i) (by omega) (by omega)
      have sz := mt (imm_zero (n := i) (by omega) (by omega)).1 c
      simp only [usual, List.map_cons, List.map_nil, hd.same, hn.same, hm.same, s1, s2, s3, s4, s5, s6, s7, sn, si]
      unfold usualL
      simp [sz]
  · simp [GrI.parts] at hi
    have sn : plainW (at! names 4) = at! names 4 := by decide +kernel
    simp only [wordsR, Int.reduceEq, or_self, or_true, true_or, or_false, false_or, if_true, if_false, false_and, true_and, and_false, and_true, Int.reduceLE, and_self, reduceIte]
    unfold cellW
    by_cases c : i = 0
    · rw [if_pos c]
      simp only [usual, List.map_cons, List.map_nil, hd.same, hn.same, hm.same, s1, s2, s3, s4, s5, s6, s7, sn]
      unfold usualL
      simp [show ¬ at! names 4 = SUBS by decide]
    · rw [if_neg c]
      have si := imm_same (n := i) (by omega) (by omega)
      have sz := mt (imm_zero (n := i) (by omega) (by omega)).1 c
      simp only [usual, List.map_cons, List.map_nil, hd.same, hn.same, hm.same, s1, s2, s3, s4, s5, s6, s7, sn, si]
      unfold usualL
      simp [sz]
  · simp [GrI.parts] at hi
    have sn : plainW (at! names 5) = at! names 5 := by decide +kernel
    simp only [wordsR, Int.reduceEq, or_self, or_true, true_or, or_false, false_or, if_true, if_false, false_and, true_and, and_false, and_true, Int.reduceLE, and_self, reduceIte]
    unfold cellW
    by_cases c : i = 0
    · rw [if_pos c]
      simp only [usual, List.map_cons, List.map_nil, hd.same, hn.same, hm.same, s1, s2, s3, s4, s5, s6, s7, sn]
      unfold usualL
      simp [show ¬ at! names 5 = SUBS by decide]
    · rw [if_neg c]
      have si := imm_same (n := i) (by omega) (by omega)
      have sz := mt (imm_zero (n := i) (by omega) (by omega)).1 c
      simp only [usual, List.map_cons, List.map_nil, hd.same, hn.same, hm.same, s1, s2, s3, s4, s5, s6, s7, sn, si]
      unfold usualL
      simp [sz]
  · simp [GrI.nums] at hnum
    have si := imm_same (n := i) (by omega) (by omega)
    simp only [wordsR, Int.reduceEq, or_self, or_true, true_or, or_false, false_or, if_true, if_false, false_and, true_and, and_false, and_true, Int.reduceLE, and_self, reduceIte]
    by_cases c : 0 < kind
    · have sk := imm_same (n := 16 * kind) (by omega) (by omega)
      have sz := mt (imm_zero (n := 16 * kind) (by omega) (by omega)).1 (by omega)
      rw [if_pos c]
      simp only [usual, List.map_cons, List.map_nil, hd.same, hn.same, hm.same, s1, s2, s3, s4, s5, s6, s7, sk, si]
      unfold usualL
      simp [sz, show ¬ MOVZ = MOV by decide]
    · rw [if_neg c]
      simp only [usual, List.map_cons, List.map_nil, hd.same, hn.same, hm.same, s1, s2, s3, s4, s5, s6, s7, si]
      unfold usualL
      simp [show ¬ MOV = MOVZ by decide]
  · simp [GrI.nums] at hnum
    have si := imm_same (n := i) (by omega) (by omega)
    have sn : plainW (at! names 7) = at! names 7 := by decide +kernel
    simp only [wordsR, Int.reduceEq, or_self, or_true, true_or, or_false, false_or, if_true, if_false, false_and, true_and, and_false, and_true, Int.reduceLE, and_self, reduceIte]
    simp only [usual, List.map_cons, List.map_nil, hd.same, hn.same, hm.same, s1, s2, s3, s4, s5, s6, s7, sn, si]
    unfold usualL
    simp [show ¬ at! names 7 = SUBS by decide]
  · have sn : plainW (at! names 8) = at! names 8 := by decide +kernel
    simp only [wordsR, Int.reduceEq, or_self, or_true, true_or, or_false, false_or, if_true, if_false, false_and, true_and, and_false, and_true, Int.reduceLE, and_self, reduceIte]
    simp only [usual, List.map_cons, List.map_nil, hd.same, hn.same, hm.same, s1, s2, s3, s4, s5, s6, s7, sn]
    unfold usualL
    simp [show ¬ at! names 8 = SUBS by decide]
  · have sn : plainW (at! names 9) = at! names 9 := by decide +kernel
    simp only [wordsR, Int.reduceEq, or_self, or_true, true_or, or_false, false_or, if_true, if_false, false_and, true_and, and_false, and_true, Int.reduceLE, and_self, reduceIte]
    simp only [usual, List.map_cons, List.map_nil, hd.same, hn.same, hm.same, s1, s2, s3, s4, s5, s6, s7, sn]
    unfold usualL
    simp [show ¬ at! names 9 = SUBS by decide]
  · have sn : plainW (at! names 10) = at! names 10 := by decide +kernel
    simp only [wordsR, Int.reduceEq, or_self, or_true, true_or, or_false, false_or, if_true, if_false, false_and, true_and, and_false, and_true, Int.reduceLE, and_self, reduceIte]
    simp only [usual, List.map_cons, List.map_nil, hd.same, hn.same, hm.same, s1, s2, s3, s4, s5, s6, s7, sn]
    unfold usualL
    simp [show ¬ at! names 10 = SUBS by decide]
  · have sn : plainW (at! names 11) = at! names 11 := by decide +kernel
    simp only [wordsR, Int.reduceEq, or_self, or_true, true_or, or_false, false_or, if_true, if_false, false_and, true_and, and_false, and_true, Int.reduceLE, and_self, reduceIte]
    simp only [usual, List.map_cons, List.map_nil, hd.same, hn.same, hm.same, s1, s2, s3, s4, s5, s6, s7, sn]
    unfold usualL
    simp [show ¬ at! names 11 = SUBS by decide]
  · have sn : plainW (at! names 12) = at! names 12 := by decide +kernel
    simp only [wordsR, Int.reduceEq, or_self, or_true, true_or, or_false, false_or, if_true, if_false, false_and, true_and, and_false, and_true, Int.reduceLE, and_self, reduceIte]
    simp only [usual, List.map_cons, List.map_nil, hd.same, hn.same, hm.same, s1, s2, s3, s4, s5, s6, s7, sn]
    unfold usualL
    simp [show ¬ at! names 12 = SUBS by decide]
  · have sn : plainW (at! names 13) = at! names 13 := by decide +kernel
    by_cases c : d = 31
    · subst c
      simp only [wordsR, Int.reduceEq, or_self, or_true, true_or, or_false, false_or, if_true, if_false, false_and, true_and, and_false, and_true, Int.reduceLE, and_self, reduceIte]
      simp only [usual, List.map_cons, List.map_nil, hd.same, hn.same, hm.same, s1, s2, s3, s4, s5, s6, s7]
      unfold usualL
      simp [show ¬ CMP = MOVZ by decide]
    · simp only [wordsR, c, Int.reduceEq, or_self, or_true, true_or, or_false, false_or, if_true, if_false, false_and, true_and, and_false, and_true, Int.reduceLE, and_self, reduceIte]
      simp only [usual, List.map_cons, List.map_nil, hd.same, hn.same, hm.same, s1, s2, s3, s4, s5, s6, s7, sn]
      unfold usualL
      simp [hd.xzr, c]
  · simp [GrI.nums] at hnum
    have si := toT_same (n := i) (by omega) (by omega)
    have sn : plainW (at! names 14) = at! names 14 := by decide +kernel
    simp only [wordsR, Int.reduceEq, or_self, or_true, true_or, or_false, false_or, if_true, if_false, false_and, true_and, and_false, and_true, Int.reduceLE, and_self, reduceIte]
    simp only [usual, List.map_cons, List.map_nil, hd.same, hn.same, hm.same, s1, s2, s3, s4, s5, s6, s7, sn, si]
    unfold usualL
    simp
  · simp [GrI.nums] at hnum
    have si := toT_same (n := i) (by omega) (by omega)
    have sn : plainW (at! names 15) = at! names 15 := by decide +kernel
    simp only [wordsR, Int.reduceEq, or_self, or_true, true_or, or_false, false_or, if_true, if_false, false_and, true_and, and_false, and_true, Int.reduceLE, and_self, reduceIte]
    simp only [usual, List.map_cons, List.map_nil, hd.same, hn.same, hm.same, s1, s2, s3, s4, s5, s6, s7, sn, si]
    unfold usualL
    simp [show ¬ at! names 15 = MOVZ by decide]
  · simp [GrI.nums] at hnum
    have si := toT_same (n := i) (by omega) (by omega)
    have sn : plainW (at! names 16) = at! names 16 := by decide +kernel
    simp only [wordsR, Int.reduceEq, or_self, or_true, true_or, or_false, false_or, if_true, if_false, false_and, true_and, and_false, and_true, Int.reduceLE, and_self, reduceIte]
    simp only [usual, List.map_cons, List.map_nil, hd.same, hn.same, hm.same, s1, s2, s3, s4, s5, s6, s7, sn, si]
    unfold usualL
    simp [show ¬ at! names 16 = MOVZ by decide]
  · simp [GrI.nums] at hnum
    have si := toT_same (n := i) (by omega) (by omega)
    obtain rfl | rfl : kind = 0 ∨ kind = 1 := by omega
    · have sn : plainW (at! conds 0) = at! conds 0 := by decide +kernel
      simp only [wordsR, Int.reduceEq, or_self, or_true, true_or, or_false, false_or, if_true, if_false, false_and, true_and, and_false, and_true, Int.reduceLE, and_self, reduceIte]
      simp only [usual, List.map_cons, List.map_nil, hd.same, hn.same, hm.same, s1, s2, s3, s4, s5, s6, s7, sn, si]
      unfold usualL
      simp
    · have sn : plainW (at! conds 1) = at! conds 1 := by decide +kernel
      simp only [wordsR, Int.reduceEq, or_self, or_true, true_or, or_false, false_or, if_true, if_false, false_and, true_and, and_false, and_true, Int.reduceLE, and_self, reduceIte]
      simp only [usual, List.map_cons, List.map_nil, hd.same, hn.same, hm.same, s1, s2, s3, s4, s5, s6, s7, sn, si]
      unfold usualL
      simp
  · simp [GrI.nums] at hnum
    obtain rfl | rfl | rfl | rfl | rfl | rfl : kind = 9 ∨ kind = 10 ∨ kind = 11 ∨ kind = 13 ∨ kind = 14 ∨ kind = 15 := by omega
    all_goals
      simp only [wordsR, Int.reduceEq, or_self, or_true, true_or, or_false, false_or, if_true, if_false, false_and, true_and, and_false, and_true, Int.reduceLE, and_self, reduceIte]
      decide +kernel
  · simp [GrI.nums] at hnum
    obtain rfl | rfl | rfl | rfl | rfl | rfl : kind = 9 ∨ kind = 10 ∨ kind = 11 ∨ kind = 13 ∨ kind = 14 ∨ kind = 15 := by omega
    all_goals
      simp only [wordsR, Int.reduceEq, or_self, or_true, true_or, or_false, false_or, if_true, if_false, false_and, true_and, and_false, and_true, Int.reduceLE, and_self, reduceIte]
      decide +kernel
  · simp only [wordsR, Int.reduceEq, or_self, or_true, true_or, or_false, false_or, if_true, if_false, false_and, true_and, and_false, and_true, Int.reduceLE, and_self, reduceIte]
    decide +kernel
  · simp [GrI.nums] at hnum
    have sn : plainW (at! names 21) = at! names 21 := by decide +kernel
    obtain rfl | rfl | rfl | rfl | rfl | rfl | rfl | rfl : kind = 0 ∨ kind = 1 ∨ kind = 2 ∨ kind = 3 ∨ kind = 4 ∨ kind = 5 ∨ kind = 6 ∨ kind = 7 := by omega
    · simp only [wordsR, Int.reduceMod, Int.reduceEq, or_self, or_true, true_or, or_false, false_or, if_true, if_false, false_and, true_and, and_false, and_true, Int.reduceLE, and_self, reduceIte]
      decide +kernel
    · have sk : plainW (at! flushes 1) = at! flushes 1 := by decide +kernel
      simp only [wordsR, Int.reduceMod, Int.reduceEq, or_self, or_true, true_or, or_false, false_or, if_true, if_false, false_and, true_and, and_false, and_true, Int.reduceLE, and_self, reduceIte]
      simp only [usual, List.map_cons, List.map_nil, hd.same, hn.same, hm.same, s1, s2, s3, s4, s5, s6, s7, sn, sk]
      unfold usualL
      simp [show ¬ at! names 21 = MOVZ by decide]
    · have sk : plainW (at! flushes 2) = at! flushes 2 := by decide +kernel
      simp only [wordsR, Int.reduceMod, Int.reduceEq, or_self, or_true, true_or, or_false, false_or, if_true, if_false, false_and, true_and, and_false, and_true, Int.reduceLE, and_self, reduceIte]
      simp only [usual, List.map_cons, List.map_nil, hd.same, hn.same, hm.same, s1, s2, s3, s4, s5, s6, s7, sn, sk]
      unfold usualL
      simp [show ¬ at! names 21 = MOVZ by decide]
    · have sk : plainW (at! flushes 3) = at! flushes 3 := by decide +kernel
      simp only [wordsR, Int.reduceMod, Int.reduceEq, or_self, or_true, true_or, or_false, false_or, if_true, if_false, false_and, true_and, and_false, and_true, Int.reduceLE, and_self, reduceIte]
      simp only [usual, List.map_cons, List.map_nil, hd.same, hn.same, hm.same, s1, s2, s3, s4, s5, s6, s7, sn, sk]
      unfold usualL
      simp [show ¬ at! names 21 = MOVZ by decide]
    · simp only [wordsR, Int.reduceMod, Int.reduceEq, or_self, or_true, true_or, or_false, false_or, if_true, if_false, false_and, true_and, and_false, and_true, Int.reduceLE, and_self, reduceIte]
      decide +kernel
    · have sk : plainW (at! flushes 5) = at! flushes 5 := by decide +kernel
      simp only [wordsR, Int.reduceMod, Int.reduceEq, or_self, or_true, true_or, or_false, false_or, if_true, if_false, false_and, true_and, and_false, and_true, Int.reduceLE, and_self, reduceIte]
      simp only [usual, List.map_cons, List.map_nil, hd.same, hn.same, hm.same, s1, s2, s3, s4, s5, s6, s7, sn, sk]
      unfold usualL
      simp [show ¬ at! names 21 = MOVZ by decide]
    · have sk : plainW (at! flushes 6) = at! flushes 6 := by decide +kernel
      simp only [wordsR, Int.reduceMod, Int.reduceEq, or_self, or_true, true_or, or_false, false_or, if_true, if_false, false_and, true_and, and_false, and_true, Int.reduceLE, and_self, reduceIte]
      simp only [usual, List.map_cons, List.map_nil, hd.same, hn.same, hm.same, s1, s2, s3, s4, s5, s6, s7, sn, sk]
      unfold usualL
      simp [show ¬ at! names 21 = MOVZ by decide]
    · have sk : plainW (at! flushes 7) = at! flushes 7 := by decide +kernel
      simp only [wordsR, Int.reduceMod, Int.reduceEq, or_self, or_true, true_or, or_false, false_or, if_true, if_false, false_and, true_and, and_false, and_true, Int.reduceLE, and_self, reduceIte]
      simp only [usual, List.map_cons, List.map_nil, hd.same, hn.same, hm.same, s1, s2, s3, s4, s5, s6, s7, sn, sk]
      unfold usualL
      simp [show ¬ at! names 21 = MOVZ by decide]
  · simp only [wordsR, Int.reduceEq, or_self, or_true, true_or, or_false, false_or, if_true, if_false, false_and, true_and, and_false, and_true, Int.reduceLE, and_self, reduceIte]
    decide +kernel
  · simp [GrI.nums] at hnum
    have sn : plainW (at! names 23) = at! names 23 := by decide +kernel
    obtain rfl | rfl | rfl : kind = 0 ∨ kind = 1 ∨ kind = 2 := by omega
    · have sk : plainW (at! systems 0) = at! systems 0 := by decide +kernel
      simp only [wordsR, Int.reduceEq, or_self, or_true, true_or, or_false, false_or, if_true, if_false, false_and, true_and, and_false, and_true, Int.reduceLE, and_self, reduceIte]
      simp only [usual, List.map_cons, List.map_nil, hd.same, hn.same, hm.same, s1, s2, s3, s4, s5, s6, s7, sn, sk]
      unfold usualL
      simp [show ¬ at! names 23 = MOVZ by decide]
    · have sk : plainW (at! systems 1) = at! systems 1 := by decide +kernel
      simp only [wordsR, Int.reduceEq, or_self, or_true, true_or, or_false, false_or, if_true, if_false, false_and, true_and, and_false, and_true, Int.reduceLE, and_self, reduceIte]
      simp only [usual, List.map_cons, List.map_nil, hd.same, hn.same, hm.same, s1, s2, s3, s4, s5, s6, s7, sn, sk]
      unfold usualL
      simp [show ¬ at! names 23 = MOVZ by decide]
    · have sk : plainW (at! systems 2) = at! systems 2 := by decide +kernel
      simp only [wordsR, Int.reduceEq, or_self, or_true, true_or, or_false, false_or, if_true, if_false, false_and, true_and, and_false, and_true, Int.reduceLE, and_self, reduceIte]
      simp only [usual, List.map_cons, List.map_nil, hd.same, hn.same, hm.same, s1, s2, s3, s4, s5, s6, s7, sn, sk]
      unfold usualL
      simp [show ¬ at! names 23 = MOVZ by decide]
end GrA

namespace GrA
open GrP GrI
theorem guess_wordsR (x : GrI.I) (h : GrI.right x) : guess x.op (wordsR x) = x := by
  obtain ⟨op, d, n, m, i, kind⟩ := x
  have ho := GrI.ops h
  simp only at ho
  have hb := h
  obtain ⟨_, _, d0, d1, n0, n1, m0, m1, _⟩ := hb
  simp only at d0 d1 n0 n1 m0 m1
  have hd := reg_ok d0 d1
  have hn := reg_ok n0 n1
  have hm := reg_ok m0 m1
  have ed := Int.toNat_of_nonneg d0
  have en := Int.toNat_of_nonneg n0
  have em := Int.toNat_of_nonneg m0
  rcases ho with rfl | rfl | rfl | rfl | rfl | rfl | rfl | rfl | rfl | rfl | rfl | rfl | rfl | rfl | rfl | rfl | rfl | rfl | rfl | rfl | rfl | rfl | rfl
  · simp [GrI.right, GrI.parts, GrI.nums] at h
    obtain ⟨_, _, _, _, _, _, rfl, rfl, rfl, rfl, rfl⟩ := h
    rfl
  · simp [GrI.right, GrI.parts, GrI.nums] at h
    by_cases c : i = 0
    · simp [guess, wordsR, cellW, c, register, hd.num, hn.num, ed, en]
      omega
    · have ei := imm_number (n := i) (by omega) (by omega)
      simp [guess, wordsR, cellW, c, register, hd.num, hn.num, ed, en, ei]
      omega
  · simp [GrI.right, GrI.parts, GrI.nums] at h
    by_cases c : i = 0
    · simp [guess, wordsR, cellW, c, register, hd.num, hn.num, ed, en]
      omega
    · have ei := imm_number (n := i) (by omega) (by omega)
      simp [guess, wordsR, cellW, c, register, hd.num, hn.num, ed, en, ei]
      omega
  · simp [GrI.right, GrI.parts, GrI.nums] at h
    by_cases c : i = 0
    · simp [guess, wordsR, cellW, c, register, hd.num, hn.num, ed, en]
      omega
    · have ei := imm_number (n := i) (by omega) (by omega)
      simp [guess, wordsR, cellW, c, register, hd.num, hn.num, ed, en, ei]
      omega
  · simp [GrI.right, GrI.parts, GrI.nums] at h
    by_cases c : i = 0
    · simp [guess, wordsR, cellW, c, register, hd.num, hn.num, ed, en]
      omega
    · have ei := imm_number (n := i) (by omega) (by omega)
      simp [guess, wordsR, cellW, c, register, hd.num, hn.num, ed, en, ei]
      omega
  · simp [GrI.right, GrI.parts, GrI.nums] at h
    have ei := imm_number (n := i) (by omega) (by omega)
    by_cases c : 0 < kind
    · have ek := imm_number (n := 16 * kind) (by omega) (by omega)
      simp [guess, wordsR, c, register, lastW, hd.num, ed, ei, ek]
      omega
    · simp [guess, wordsR, c, register, lastW, hd.num, ed, ei]
      omega
  · simp [GrI.right, GrI.parts, GrI.nums] at h
    have ei := imm_number (n := i) (by omega) (by omega)
    simp [guess, wordsR, register, lastW, hd.num, hn.num, hm.num, ed, en, em, ei]
    omega
  · simp [GrI.right, GrI.parts, GrI.nums] at h
    simp [guess, wordsR, register, lastW, hd.num, hn.num, hm.num, ed, en, em, show ¬ at! names 8 = CMP by decide]
    omega
  · simp [GrI.right, GrI.parts, GrI.nums] at h
    simp [guess, wordsR, register, lastW, hd.num, hn.num, hm.num, ed, en, em, show ¬ at! names 9 = CMP by decide]
    omega
  · simp [GrI.right, GrI.parts, GrI.nums] at h
    simp [guess, wordsR, register, lastW, hd.num, hn.num, hm.num, ed, en, em, show ¬ at! names 10 = CMP by decide]
    omega
  · simp [GrI.right, GrI.parts, GrI.nums] at h
    simp [guess, wordsR, register, lastW, hd.num, hn.num, hm.num, ed, en, em, show ¬ at! names 11 = CMP by decide]
    omega
  · simp [GrI.right, GrI.parts, GrI.nums] at h
    simp [guess, wordsR, register, lastW, hd.num, hn.num, hm.num, ed, en, em, show ¬ at! names 12 = CMP by decide]
    omega
  · simp [GrI.right, GrI.parts, GrI.nums] at h
    by_cases c : d = 31
    · subst c
      simp [guess, wordsR, register, hn.num, hm.num, en, em]
      omega
    · simp [guess, wordsR, c, register, hd.num, hn.num, hm.num, ed, en, em, show ¬ at! names 13 = CMP by decide]
      omega
  · simp [GrI.right, GrI.parts, GrI.nums] at h
    have ei := toT_number (n := i) (by omega) (by omega)
    simp [guess, wordsR, register, lastW, hd.num, hn.num, hm.num, ed, en, em, ei]
    omega
  · simp [GrI.right, GrI.parts, GrI.nums] at h
    have ei := toT_number (n := i) (by omega) (by omega)
    simp [guess, wordsR, register, lastW, hd.num, hn.num, hm.num, ed, en, em, ei]
    omega
  · simp [GrI.right, GrI.parts, GrI.nums] at h
    have ei := toT_number (n := i) (by omega) (by omega)
    simp [guess, wordsR, register, lastW, hd.num, hn.num, hm.num, ed, en, em, ei]
    omega
  · simp [GrI.right, GrI.parts, GrI.nums] at h
    have ei := toT_number (n := i) (by omega) (by omega)
    obtain rfl | rfl : kind = 0 ∨ kind = 1 := by omega
    · simp [guess, wordsR, lastW, ei, show kindOf conds (at! conds 0) = 0 by decide +kernel]
      omega
    · simp [guess, wordsR, lastW, ei, show kindOf conds (at! conds 1) = 1 by decide +kernel]
      omega
  · simp [GrI.right, GrI.parts, GrI.nums] at h
    obtain rfl | rfl | rfl | rfl | rfl | rfl : kind = 9 ∨ kind = 10 ∨ kind = 11 ∨ kind = 13 ∨ kind = 14 ∨ kind = 15 := by omega
    · simp [guess, wordsR, lastW, show kindOf bars (at! bars 9) = 9 by decide +kernel]
      omega
    · simp [guess, wordsR, lastW, show kindOf bars (at! bars 10) = 10 by decide +kernel]
      omega
    · simp [guess, wordsR, lastW, show kindOf bars (at! bars 11) = 11 by decide +kernel]
      omega
    · simp [guess, wordsR, lastW, show kindOf bars (at! bars 13) = 13 by decide +kernel]
      omega
    · simp [guess, wordsR, lastW, show kindOf bars (at! bars 14) = 14 by decide +kernel]
      omega
    · simp [guess, wordsR, lastW, show kindOf bars (at! bars 15) = 15 by decide +kernel]
      omega
  · simp [GrI.right, GrI.parts, GrI.nums] at h
    obtain rfl | rfl | rfl | rfl | rfl | rfl : kind = 9 ∨ kind = 10 ∨ kind = 11 ∨ kind = 13 ∨ kind = 14 ∨ kind = 15 := by omega
    · simp [guess, wordsR, lastW, show kindOf bars (at! bars 9) = 9 by decide +kernel]
      omega
    · simp [guess, wordsR, lastW, show kindOf bars (at! bars 10) = 10 by decide +kernel]
      omega
    · simp [guess, wordsR, lastW, show kindOf bars (at! bars 11) = 11 by decide +kernel]
      omega
    · simp [guess, wordsR, lastW, show kindOf bars (at! bars 13) = 13 by decide +kernel]
      omega
    · simp [guess, wordsR, lastW, show kindOf bars (at! bars 14) = 14 by decide +kernel]
      omega
    · simp [guess, wordsR, lastW, show kindOf bars (at! bars 15) = 15 by decide +kernel]
      omega
  · simp [GrI.right, GrI.parts, GrI.nums] at h
    obtain ⟨_, _, _, _, _, _, rfl, rfl, rfl, rfl, rfl⟩ := h
    rfl
  · simp [GrI.right, GrI.parts, GrI.nums] at h
    obtain rfl | rfl | rfl | rfl | rfl | rfl | rfl | rfl : kind = 0 ∨ kind = 1 ∨ kind = 2 ∨ kind = 3 ∨ kind = 4 ∨ kind = 5 ∨ kind = 6 ∨ kind = 7 := by omega
    · simp [guess, wordsR, register, hd.num, ed, show kindOf flushes (at! flushes 0) = 0 by decide +kernel]
      omega
    · simp [guess, wordsR, register, hd.num, ed, show kindOf flushes (at! flushes 1) = 1 by decide +kernel]
      omega
    · simp [guess, wordsR, register, hd.num, ed, show kindOf flushes (at! flushes 2) = 2 by decide +kernel]
      omega
    · simp [guess, wordsR, register, hd.num, ed, show kindOf flushes (at! flushes 3) = 3 by decide +kernel]
      omega
    · simp [guess, wordsR, register, hd.num, ed, show kindOf flushes (at! flushes 4) = 4 by decide +kernel]
      omega
    · simp [guess, wordsR, register, hd.num, ed, show kindOf flushes (at! flushes 5) = 5 by decide +kernel]
      omega
    · simp [guess, wordsR, register, hd.num, ed, show kindOf flushes (at! flushes 6) = 6 by decide +kernel]
      omega
    · simp [guess, wordsR, register, hd.num, ed, show kindOf flushes (at! flushes 7) = 7 by decide +kernel]
      omega
  · simp [GrI.right, GrI.parts, GrI.nums] at h
    obtain ⟨_, _, _, _, _, _, rfl, rfl, rfl, rfl, rfl⟩ := h
    rfl
  · simp [GrI.right, GrI.parts, GrI.nums] at h
    obtain rfl | rfl | rfl : kind = 0 ∨ kind = 1 ∨ kind = 2 := by omega
    · simp [guess, wordsR, register, lastW, hd.num, ed, show kindOf systems (at! systems 0) = 0 by decide +kernel]
      omega
    · simp [guess, wordsR, register, lastW, hd.num, ed, show kindOf systems (at! systems 1) = 1 by decide +kernel]
      omega
    · simp [guess, wordsR, register, lastW, hd.num, ed, show kindOf systems (at! systems 2) = 2 by decide +kernel]
      omega
def heads : List (Tx × Int) := [([78, 79, 80], 1), ([76, 68, 82], 2), ([83, 84, 82], 3), ([76, 68, 65, 82], 4), ([83, 84, 76, 82], 5), ([77, 79, 86], 6), ([65, 68, 68], 7), ([83, 85, 66], 9), ([65, 78, 68], 10), ([79, 82, 82], 11), ([69, 79, 82], 12), ([83, 85, 66, 83], 13), ([66], 14), ([67, 66, 90], 15), ([67, 66, 78, 90], 16), ([68, 77, 66], 18), ([68, 83, 66], 19), ([73, 83, 66], 20), ([84, 76, 66, 73], 21), ([69, 82, 69, 84], 22), ([77, 82, 83], 23), ([77, 79, 86, 90], 6), ([67, 77, 80], 13), ([66, 46, 69, 81], 17), ([66, 46, 78, 69], 17)]
def opHead (w : Tx) : Int := ((heads.find? fun p => p.1 == w).map (·.2)).getD 0
theorem head_op (x : GrI.I) (h : GrI.right x) : opHead ((wordsR x).getD 0 []) = if x.op = 8 then 7 else x.op := by
  obtain ⟨op, d, n, m, i, kind⟩ := x
  have ho := GrI.ops h
  simp only at ho
  rcases ho with rfl | rfl | rfl | rfl | rfl | rfl | rfl | rfl | rfl | rfl | rfl | rfl | rfl | rfl | rfl | rfl | rfl | rfl | rfl | rfl | rfl | rfl | rfl
  · simp only [wordsR, Int.reduceEq, or_self, or_true, true_or, or_false, false_or, if_true, if_false, false_and, true_and, and_false, and_true, Int.reduceLE, and_self, reduceIte]
    exact (by decide +kernel : opHead (at! names 1) = 1)
  · simp only [wordsR, Int.reduceEq, or_self, or_true, true_or, or_false, false_or, if_true, if_false, false_and, true_and, and_false, and_true, Int.reduceLE, and_self, reduceIte]
    exact (by decide +kernel : opHead (at! names 2) = 2)
  · simp only [wordsR, Int.reduceEq, or_self, or_true, true_or, or_false, false_or, if_true, if_false, false_and, true_and, and_false, and_true, Int.reduceLE, and_self, reduceIte]
    exact (by decide +kernel : opHead (at! names 3) = 3)
  · simp only [wordsR, Int.reduceEq, or_self, or_true, true_or, or_false, false_or, if_true, if_false, false_and, true_and, and_false, and_true, Int.reduceLE, and_self, reduceIte]
    exact (by decide +kernel : opHead (at! names 4) = 4)
  · simp only [wordsR, Int.reduceEq, or_self, or_true, true_or, or_false, false_or, if_true, if_false, false_and, true_and, and_false, and_true, Int.reduceLE, and_self, reduceIte]
    exact (by decide +kernel : opHead (at! names 5) = 5)
  · simp only [wordsR, Int.reduceEq, or_self, or_true, true_or, or_false, false_or, if_true, if_false, false_and, true_and, and_false, and_true, Int.reduceLE, and_self, reduceIte]
    split
    · exact (by decide +kernel : opHead MOVZ = 6)
    · exact (by decide +kernel : opHead MOV = 6)
  · simp only [wordsR, Int.reduceEq, or_self, or_true, true_or, or_false, false_or, if_true, if_false, false_and, true_and, and_false, and_true, Int.reduceLE, and_self, reduceIte]
    exact (by decide +kernel : opHead (at! names 7) = 7)
  · simp only [wordsR, Int.reduceEq, or_self, or_true, true_or, or_false, false_or, if_true, if_false, false_and, true_and, and_false, and_true, Int.reduceLE, and_self, reduceIte]
    exact (by decide +kernel : opHead (at! names 8) = 7)
  · simp only [wordsR, Int.reduceEq, or_self, or_true, true_or, or_false, false_or, if_true, if_false, false_and, true_and, and_false, and_true, Int.reduceLE, and_self, reduceIte]
    exact (by decide +kernel : opHead (at! names 9) = 9)
  · simp only [wordsR, Int.reduceEq, or_self, or_true, true_or, or_false, false_or, if_true, if_false, false_and, true_and, and_false, and_true, Int.reduceLE, and_self, reduceIte]
    exact (by decide +kernel : opHead (at! names 10) = 10)
  · simp only [wordsR, Int.reduceEq, or_self, or_true, true_or, or_false, false_or, if_true, if_false, false_and, true_and, and_false, and_true, Int.reduceLE, and_self, reduceIte]
    exact (by decide +kernel : opHead (at! names 11) = 11)
  · simp only [wordsR, Int.reduceEq, or_self, or_true, true_or, or_false, false_or, if_true, if_false, false_and, true_and, and_false, and_true, Int.reduceLE, and_self, reduceIte]
    exact (by decide +kernel : opHead (at! names 12) = 12)
  · by_cases c : d = 31
    · subst c
      simp only [wordsR, Int.reduceEq, or_self, or_true, true_or, or_false, false_or, if_true, if_false, false_and, true_and, and_false, and_true, Int.reduceLE, and_self, reduceIte]
      exact (by decide +kernel : opHead CMP = 13)
    · simp only [wordsR, c, Int.reduceEq, or_self, or_true, true_or, or_false, false_or, if_true, if_false, false_and, true_and, and_false, and_true, Int.reduceLE, and_self, reduceIte]
      exact (by decide +kernel : opHead (at! names 13) = 13)
  · simp only [wordsR, Int.reduceEq, or_self, or_true, true_or, or_false, false_or, if_true, if_false, false_and, true_and, and_false, and_true, Int.reduceLE, and_self, reduceIte]
    exact (by decide +kernel : opHead (at! names 14) = 14)
  · simp only [wordsR, Int.reduceEq, or_self, or_true, true_or, or_false, false_or, if_true, if_false, false_and, true_and, and_false, and_true, Int.reduceLE, and_self, reduceIte]
    exact (by decide +kernel : opHead (at! names 15) = 15)
  · simp only [wordsR, Int.reduceEq, or_self, or_true, true_or, or_false, false_or, if_true, if_false, false_and, true_and, and_false, and_true, Int.reduceLE, and_self, reduceIte]
    exact (by decide +kernel : opHead (at! names 16) = 16)
  · simp [GrI.right, GrI.parts, GrI.nums] at h
    obtain rfl | rfl : kind = 0 ∨ kind = 1 := by omega
    · exact (by decide +kernel : opHead (at! conds 0) = 17)
    · exact (by decide +kernel : opHead (at! conds 1) = 17)
  · simp only [wordsR, Int.reduceEq, or_self, or_true, true_or, or_false, false_or, if_true, if_false, false_and, true_and, and_false, and_true, Int.reduceLE, and_self, reduceIte]
    exact (by decide +kernel : opHead (at! names 18) = 18)
  · simp only [wordsR, Int.reduceEq, or_self, or_true, true_or, or_false, false_or, if_true, if_false, false_and, true_and, and_false, and_true, Int.reduceLE, and_self, reduceIte]
    exact (by decide +kernel : opHead (at! names 19) = 19)
  · simp only [wordsR, Int.reduceEq, or_self, or_true, true_or, or_false, false_or, if_true, if_false, false_and, true_and, and_false, and_true, Int.reduceLE, and_self, reduceIte]
    exact (by decide +kernel : opHead (at! names 20) = 20)
  · simp only [wordsR, Int.reduceEq, or_self, or_true, true_or, or_false, false_or, if_true, if_false, false_and, true_and, and_false, and_true, Int.reduceLE, and_self, reduceIte]
    split
    · exact (by decide +kernel : opHead (at! names 21) = 21)
    · exact (by decide +kernel : opHead (at! names 21) = 21)
  · simp only [wordsR, Int.reduceEq, or_self, or_true, true_or, or_false, false_or, if_true, if_false, false_and, true_and, and_false, and_true, Int.reduceLE, and_self, reduceIte]
    exact (by decide +kernel : opHead (at! names 22) = 22)
  · simp only [wordsR, Int.reduceEq, or_self, or_true, true_or, or_false, false_or, if_true, if_false, false_and, true_and, and_false, and_true, Int.reduceLE, and_self, reduceIte]
    exact (by decide +kernel : opHead (at! names 23) = 23)
def Len8 (L : List Tx) : Prop := 1 ≤ L.length ∧ L.length ≤ 8
theorem Len8.ite {c : Prop} [Decidable c] {a b : List Tx} (h1 : Len8 a) (h2 : Len8 b) : Len8 (if c then a else b) := by split <;> assumption
theorem wordsR_len (x : GrI.I) : 1 ≤ (wordsR x).length ∧ (wordsR x).length ≤ 8 := by
  have hc : (cellW x.n x.imm).length ≤ 5 := by unfold cellW; split <;> simp
  show Len8 (wordsR x)
  unfold wordsR
  repeat' (with_reducible apply Len8.ite)
  all_goals
    unfold Len8
    simp only [List.length_cons, List.length_nil]
    omega
theorem addi_add {x y : GrI.I} (hx : x.op = 7) (hy : y.op = 8) (h : GrI.right y) : wordsR x ≠ wordsR y := by
  intro e
  obtain ⟨op, d, n, m, i, kind⟩ := x
  obtain ⟨op2, d2, n2, m2, i2, kind2⟩ := y
  obtain ⟨_, _, _, _, _, _, m0, m1, _⟩ := h
  simp only at hx hy m0 m1
  subst hx; subst hy
  have hm := reg_ok m0 m1
  have e2 := congrArg (fun L : List Tx => (L.getD 5 []).getD 0 0) e
  simp [wordsR, imm] at e2
  have := hm.head
  rw [List.getD_eq_getElem?_getD] at this
  rw [this] at e2
  exact absurd e2 (by decide)
theorem words_op {x y : GrI.I} (hx : GrI.right x) (hy : GrI.right y) (e : wordsR x = wordsR y) : x.op = y.op := by
  have h1 := head_op x hx
  have h2 := head_op y hy
  rw [e, h2] at h1
  by_cases a : x.op = 8
  · by_cases b : y.op = 8
    · rw [a, b]
    · rw [if_pos a, if_neg b] at h1
      exact absurd e.symm (addi_add h1 a hx)
  · by_cases b : y.op = 8
    · rw [if_neg a, if_pos b] at h1
      exact absurd e (addi_add h1.symm b hy)
    · rw [if_neg a, if_neg b] at h1
      exact h1.symm
theorem guess_op (op : Int) (W : List Tx) : (guess op W).op = op := by
  unfold guess
  (repeat' split) <;> rfl
def okOp (W : List Tx) (op : Nat) : Bool := decide (GrI.right (guess op W)) && decide (W = words (printR (guess op W)))
def parseW (W : List Tx) : Option GrI.I := ((List.range' 1 23).find? (okOp W)).map fun op => guess (op : Nat) W
def parseT (s : Tx) : Option GrI.I := if (words s).length = 0 ∨ 8 < (words s).length then none else parseW (usual (words s))
theorem parse_words {x : GrI.I} (h : GrI.right x) {s : Tx} (e : words s = wordsR x) : parseT s = some x := by
  have hl := wordsR_len x
  have ho : 1 ≤ x.op ∧ x.op ≤ 23 := ⟨h.1, h.2.1⟩
  obtain ⟨k, hk⟩ := Int.eq_ofNat_of_zero_le (show 0 ≤ x.op by omega)
  have hg := guess_wordsR x h
  rw [hk] at hg
  unfold parseT
  rw [e, if_neg (by omega), usual_wordsR x h]
  unfold parseW
  have : (List.range' 1 23).find? (okOp (wordsR x)) = some k := by
    rw [List.find?_range'_eq_some]
    refine ⟨?_, by simp; omega, fun j h1 h2 => ?_⟩
    · unfold okOp
      rw [show ((k : Nat) : Int) = (k : Int) from rfl, hg, words_printR x h]
      simp [h]
    · cases hj : okOp (wordsR x) j with
      | false => rfl
      | true =>
        exfalso
        unfold okOp at hj
        rw [Bool.and_eq_true, decide_eq_true_iff, decide_eq_true_iff] at hj
        obtain ⟨hr, hw⟩ := hj
        rw [words_printR _ hr] at hw
        have := words_op h hr hw
        rw [guess_op, hk] at this
        omega
  rw [this]
  simp [hg]
theorem printR_ne {x : GrI.I} (h : GrI.right x) : printR x ≠ [] := by
  intro e
  have := words_printR x h
  rw [e, words_nil] at this
  have hl := wordsR_len x
  rw [← this] at hl
  simp at hl
theorem numberIn_bd (w : Tx) : -1099511627776 ≤ numberIn w ∧ numberIn w ≤ 1099511627776 := by
  unfold numberIn
  split
  · have := Nat.min_le_right (val (w.drop 2)).1 most
    unfold most at *
    omega
  · have := Nat.min_le_right (val (w.dropWhile cutset)).1 most
    unfold most at *
    omega
theorem guess_imm (op : Int) (W : List Tx) : -1099511627776 ≤ (guess op W).imm ∧ (guess op W).imm ≤ 1099511627776 := by
  unfold guess
  (repeat' split) <;> first | exact numberIn_bd _ | omega | (constructor <;> (simp only; omega)) | (constructor <;> decide)
end GrA
