/-
  Layer 5: what an instruction sets hangs on what it is told to take: the plain part.
-/
import Derived.Test.YtnehdgapcgbdeaaGt
set_option linter.unusedSimpArgs false
set_option linter.unusedVariables false
namespace GrG
open Go
theorem getL_set (X : List Int) (hX : X.length = 31) (n v z : Int) : getL (setL X n v) z = if z = n then (if inR n = true then v else 0) else getL X z := by
  unfold getL setL
  by_cases e : z = n
  · subst e
    rw [if_pos rfl]
    split
    · rename_i h
      simp only [inR, Bool.and_eq_true, decide_eq_true_eq] at h
      rw [List.getD_eq_getElem?_getD, List.getElem?_set_self (by omega)]
      rfl
    · rfl
  · rw [if_neg e]
    split
    · rename_i h
      split
      · rename_i h2
        simp only [inR, Bool.and_eq_true, decide_eq_true_eq] at h h2
        simp only [List.getD_eq_getElem?_getD]
        rw [List.getElem?_set_ne (by omega)]
      · rfl
    · rfl
theorem getL_out (X : List Int) (n : Int) (h : ¬ inR n = true) : getL X n = 0 := by rw [getL, if_neg h]
/-- two files are alike in what has been told so far -/
def Agr (X X2 : List Int) (s s2 : Bool) (L : List Int) (q : Nat) : Prop := ∀ z ∈ L.take q, (z = 32 → s2 = s) ∧ (z ≠ 32 → getL X2 z = getL X z)
theorem Agr.start (X X2 : List Int) (s s2 : Bool) (L : List Int) : Agr X X2 s s2 L 0 := fun z h => by simp at h
theorem take_mem {L : List Int} {q : Nat} (h : q < L.length) {z : Int} : z ∈ L.take (q + 1) ↔ z ∈ L.take q ∨ z = L.getD q 0 := by
  rw [List.take_succ_eq_append_getElem h, List.mem_append, List.mem_singleton, List.getD_eq_getElem?_getD, List.getElem?_eq_getElem h]
  rfl
theorem Agr.flag {X X2 : List Int} {s s2 : Bool} {L : List Int} {q : Nat} (h : Agr X X2 s s2 L q) (hq : q < L.length) (e : L.getD q 0 = 32) : Agr X X2 s s L (q + 1) := fun z hz => by
  rcases (take_mem hq).1 hz with h1 | h1
  · exact ⟨fun _ => rfl, (h z h1).2⟩
  · exact ⟨fun _ => rfl, fun hn => absurd (h1.trans e) hn⟩
theorem Agr.reg {X X2 : List Int} {s s2 : Bool} {L : List Int} {q : Nat} (h : Agr X X2 s s2 L q) (hq : q < L.length) (hX : X2.length = 31) (e : L.getD q 0 ≠ 32) : Agr X (setL X2 (L.getD q 0) (getL X (L.getD q 0))) s s2 L (q + 1) := fun z hz => by
  have key : ∀ z, z = L.getD q 0 → getL (setL X2 (L.getD q 0) (getL X (L.getD q 0))) z = getL X z := fun z h1 => by
    rw [getL_set X2 hX, if_pos h1, h1]
    split
    · rfl
    · rename_i hi; rw [getL_out X _ hi]
  rcases (take_mem hq).1 hz with h1 | h1
  · refine ⟨(h z h1).1, fun hn => ?_⟩
    by_cases c : z = L.getD q 0
    · exact key z c
    · rw [getL_set X2 hX, if_neg c]; exact (h z h1).2 hn
  · exact ⟨fun h32 => absurd (h1.symm.trans h32) e, fun _ => key z h1⟩
section
variable {op d n m imm kind : Int} {X X2 Y : List Int} {s s2 : Bool}
theorem agr_reg (h : Agr X X2 s s2 (toldL (dataA op d n m)) (toldL (dataA op d n m)).length) {z : Int} (hz : z ∈ toldL (dataA op d n m)) (hn : z ≠ 32) : getL X2 z = getL X z := (h z (by simpa using hz)).2 hn
theorem agr_flag (h : Agr X X2 s s2 (toldL (dataA op d n m)) (toldL (dataA op d n m)).length) (hz : (32 : Int) ∈ toldL (dataA op d n m)) : s2 = s := (h 32 (by simpa using hz)).1 rfl
theorem mem_one (a : Int) (h : a ≠ 31) : a ∈ toldL [a] := by simp [toldL, stepT, h]
theorem mem_two (a b : Int) : (a ≠ 31 → a ∈ toldL [a, b]) ∧ (b ≠ 31 → b ∈ toldL [a, b]) := by
  rw [told_two]
  simp only [no31L, List.foldl_cons, List.foldl_nil, stepN]
  constructor
  · intro h
    simp [h]
    split <;> simp
  · intro h
    by_cases ha : a = 31 <;> by_cases hb : b = a <;> simp [h, ha, hb] <;> simp_all
theorem same_of {a : Int} (h : ∀ z, z ≠ 31 → z = a → getL X2 z = getL X z) : getL X2 a = getL X a := by
  by_cases e : a = 31
  · subst e; rw [getL_out X2 31 (by decide), getL_out X 31 (by decide)]
  · exact h a e rfl
theorem hang_v (h : Agr X X2 s s2 (toldL (dataA op d n m)) (toldL (dataA op d n m)).length) (hd : doesB op = true) (nb : n ≤ 31) (mb : m ≤ 31) : doV op (getL X2 n) (getL X2 m) Y imm kind = doV op (getL X n) (getL X m) Y imm kind := by
  simp only [doesB, decide_eq_true_eq] at hd
  by_cases c6 : op = 6
  · simp [doV, c6]
  · by_cases c23 : op = 23
    · simp [doV, c23]
    · by_cases c7 : op = 7
      · have hn : getL X2 n = getL X n := same_of fun z hz e => agr_reg h (by rw [e] at hz ⊢; rw [dataA, if_neg (by omega), if_pos c7]; exact mem_one n hz) (by omega)
        simp [doV, c7, hn]
      · have hD : dataA op d n m = [n, m] := by rw [dataA, if_neg (by omega), if_neg c7, if_pos (by omega)]
        have hn : getL X2 n = getL X n := same_of fun z hz e => agr_reg h (by rw [e] at hz ⊢; rw [hD]; exact (mem_two n m).1 hz) (by omega)
        have hm : getL X2 m = getL X m := same_of fun z hz e => agr_reg h (by rw [e] at hz ⊢; rw [hD]; exact (mem_two n m).2 hz) (by omega)
        rw [hn, hm]
theorem hang_taken (h : Agr X X2 s s2 (toldL (dataA op d n m)) (toldL (dataA op d n m)).length) (db : d ≤ 31) : takenB op kind X2 s2 d = takenB op kind X s d := by
  unfold takenB
  by_cases c14 : op = 14
  · simp [c14]
  · by_cases c15 : op = 15
    · have e : getL X2 d = getL X d := same_of fun z hz e => agr_reg h (by rw [e] at hz ⊢; rw [dataA, if_pos (by omega)]; exact mem_one d hz) (by omega)
      simp [c15, e]
    · by_cases c16 : op = 16
      · have e : getL X2 d = getL X d := same_of fun z hz e => agr_reg h (by rw [e] at hz ⊢; rw [dataA, if_pos (by omega)]; exact mem_one d hz) (by omega)
        simp [c16, e]
      · by_cases c17 : op = 17
        · have e : s2 = s := agr_flag h (by rw [dataA, if_neg (by omega), if_neg (by omega), if_neg (by omega), if_pos c17]; decide)
          simp [c17, e]
        · simp [c14, c15, c16, c17]
theorem hang_s (h : Agr X X2 s s2 (toldL (dataA op d n m)) (toldL (dataA op d n m)).length) (db : d ≤ 31) (nb : n ≤ 31) (mb : m ≤ 31) (hz : (32 : Int) ∈ toldL (setsA op d)) : doS op n m X2 s2 = doS op n m X s := by
  by_cases c : op = 13
  · subst c
    have hD : dataA 13 d n m = [n, m] := rfl
    have hn : getL X2 n = getL X n := same_of fun z hz e => agr_reg h (by rw [e] at hz ⊢; rw [hD]; exact (mem_two n m).1 hz) (by omega)
    have hm : getL X2 m = getL X m := same_of fun z hz e => agr_reg h (by rw [e] at hz ⊢; rw [hD]; exact (mem_two n m).2 hz) (by omega)
    simp [doS, hn, hm]
  · exfalso
    rw [setsA, if_neg c] at hz
    split at hz
    · rw [told_one] at hz
      simp only [no31L, List.foldl_cons, List.foldl_nil, stepN] at hz
      split at hz
      · simp at hz
      · simp at hz; omega
    · simp [toldL] at hz
theorem hang_x (h : Agr X X2 s s2 (toldL (dataA op d n m)) (toldL (dataA op d n m)).length) (lX : X.length = 31) (lX2 : X2.length = 31) (d0 : 0 ≤ d) (db : d ≤ 31) (nb : n ≤ 31) (mb : m ≤ 31) (hl : op ≠ 2) (hl2 : op ≠ 4) {z : Int} (hz : z ∈ toldL (setsA op d)) (hne : z ≠ 32) :
    getL (doX op d n m imm kind X2 Y) z = getL (doX op d n m imm kind X Y) z := by
  have hzd : z = d ∧ d ≠ 31 := by
    rw [told_sets, setsA] at hz
    split at hz
    · simp only [no31L, List.foldl_cons, List.foldl_nil, stepN] at hz
      by_cases e : d = 31
      · simp [e] at hz; omega
      · have e2 : ¬ (32 : Int) = d := by omega
        simp [e, e2] at hz
        omega
    · split at hz
      · simp only [no31L, List.foldl_cons, List.foldl_nil, stepN] at hz
        by_cases e : d = 31
        · simp [e] at hz
        · simp [e] at hz; exact ⟨hz, e⟩
      · simp [no31L] at hz
  have hdo : doesB op = true := by
    rw [setsA] at hz
    simp only [doesB, decide_eq_true_eq]
    split at hz
    · omega
    · split at hz
      · omega
      · simp [toldL] at hz
  rw [doX, doX, if_pos hdo, if_pos hdo, getL_set X2 lX2, getL_set X lX, if_pos hzd.1, if_pos hzd.1, hang_v h hdo nb mb]
end
end GrG
