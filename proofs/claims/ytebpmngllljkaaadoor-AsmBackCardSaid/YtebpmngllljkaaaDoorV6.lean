/-
  Layer 4: usual, guess, Print: what each says, whole.
  Layer 4, the walks: Parse.
  Layer 4, the laws: the page's examples; AsmBack.
-/
import Derived.Test.YtebpmngllljkaaaDoorVy
import Derived.Test.YtebpmngllljkaaaDoorVt
import Derived.Test.YtebpmngllljkaaaDoorVs
import Derived.Test.YtebpmngllljkaaaDoorVv
import Derived.Test.YtebpmngllljkaaaDoorVw
import Derived.Test.YtebpmngllljkaaaDoorVo
import Derived.Test.YtebpmngllljkaaaDoorVk
set_option linter.unusedSimpArgs false
set_option linter.unusedVariables false
namespace GrA
open GrP
theorem at_len {l : List Tx} {k : Nat} (h : ∀ t ∈ l, t.length ≤ k) (i : Int) : (at! l i).length ≤ k := by
  unfold at!
  rw [List.getD_eq_getElem?_getD]
  cases hi : l[i.toNat]? with
  | none => simp
  | some t => exact h t (List.mem_of_getElem? hi)
theorem names_len (i : Int) : (at! names i).length ≤ 12 := at_len (by decide) i
theorem conds_len (i : Int) : (at! conds i).length ≤ 12 := at_len (by decide) i
theorem bars_len (i : Int) : (at! bars i).length ≤ 12 := at_len (by decide) i
theorem flushes_len (i : Int) : (at! flushes i).length ≤ 12 := at_len (by decide) i
theorem systems_len (i : Int) : (at! systems i).length ≤ 12 := at_len (by decide) i
theorem regK (n : Int) : (reg n).length ≤ 65 := by
  unfold reg
  by_cases h : 0 ≤ n ∧ n < 31
  · rw [if_pos h]
    have := itoa_len h
    simp; omega
  · rw [if_neg h]
    split <;> simp
def LenK (L : Tx) : Prop := L.length ≤ 1000
theorem LenK.ite {c : Prop} [Decidable c] {a b : Tx} (h1 : LenK a) (h2 : LenK b) : LenK (if c then a else b) := by split <;> assumption
theorem printR_len (x : GrI.I) (h : GrI.right x) : (printR x).length ≤ 1000 := by
  have hb := GrI.imm_bd h
  have n1 := names_len x.op
  have n2 := conds_len x.kind
  have n3 := bars_len x.kind
  have n4 := flushes_len x.kind
  have n5 := systems_len x.kind
  have r1 := regK x.d
  have r2 := regK x.n
  have r3 := regK x.m
  have i1 : (num x.imm).length ≤ 65 := itoa_len64 hb.1 hb.2
  have i3 : (toT x.imm).length ≤ 67 := by
    unfold toT
    split <;> simp <;> omega
  have i4 : (cellT x.n x.imm).length ≤ 140 := by
    unfold cellT
    split <;> simp <;> omega
  by_cases h6 : x.op = 6
  · have i2 : (num (16 * x.kind)).length ≤ 65 := by
      have := h
      simp [GrI.right, GrI.nums, h6] at this
      exact itoa_len64 (by omega) (by omega)
    show LenK (printR x)
    unfold printR
    repeat' (with_reducible apply LenK.ite)
    all_goals
      unfold LenK
      first
        | omega
        | (simp only [List.length_append, List.length_cons, List.length_nil]; omega)
  · show LenK (printR x)
    unfold printR
    rw [if_neg h6]
    repeat' (with_reducible apply LenK.ite)
    all_goals
      unfold LenK
      first
        | omega
        | (simp only [List.length_append, List.length_cons, List.length_nil]; omega)
theorem go_mem (t cur : Tx) : ∀ x ∈ go cur t, x.length ≤ cur.length + t.length := by
  have hf : ∀ cur : Tx, ∀ x ∈ flush cur, x.length ≤ cur.length := by
    intro cur x hx
    unfold flush at hx
    split at hx
    · simp at hx
    · simp at hx; rw [hx]; exact Nat.le_refl _
  induction t generalizing cur with
  | nil => intro x hx; rw [go] at hx; have := hf cur x hx; simp; omega
  | cons c t ih =>
    intro x hx
    rw [go] at hx
    split at hx
    · rcases List.mem_append.1 hx with hx | hx
      · have := hf cur x hx; simp; omega
      · rcases List.mem_cons.1 hx with rfl | hx
        · simp; omega
        · have := ih [] x hx; simp at *; omega
    · split at hx
      · rcases List.mem_append.1 hx with hx | hx
        · have := hf cur x hx; simp; omega
        · have := ih [] x hx; simp at *; omega
      · have := ih (cur ++ [c]) x hx
        simp at *; omega
theorem words_mem {s t : Tx} (h : t ∈ words s) : t.length ≤ s.length := by
  have := go_mem s [] t h
  simpa using this
theorem plainW_len (w : Tx) (h : w.length ≤ 4194304) : (plainW w).length ≤ 4194304 := by
  have key : ∀ m : Tx, m.length ≤ 2 → (plainM m w).length ≤ 4194304 := by
    intro m hm
    unfold plainM
    by_cases c : (val (w.drop m.length)).2 ≠ 0 ∨ most < (val (w.drop m.length)).1
    · rw [if_pos c]; exact h
    · rw [if_neg c]
      have h1 : (val (w.drop m.length)).1 ≤ most := by omega
      have := digs_len64 (b := 10) (by omega) (val (w.drop m.length)).1 (by unfold most at h1; omega)
      rw [strL_size] at this
      rw [List.length_append]
      split <;> simp <;> omega
  unfold plainW
  split
  · exact key _ (by decide)
  · split
    · exact key _ (by decide)
    · split
      · exact key _ (by decide)
      · exact h
end GrA
namespace Go.Proofs.YtebpmngllljkaaaDoor
open Go.RowKit GrP GrA

theorem Short.words {s : Tx} (h : s.length ≤ 4194304) : Short (words s) := fun t ht => Nat.le_trans (words_mem ht) h
theorem Short.getD {L : List Tx} (h : Short L) (i : Nat) : (L.getD i []).length ≤ 4194304 := by
  rw [List.getD_eq_getElem?_getD]
  cases hi : L[i]? with
  | none => simp
  | some t => exact h t (List.mem_of_getElem? hi)
theorem Short.map {L : List Tx} (h : Short L) : Short (L.map plainW) := by
  intro t ht
  rw [List.mem_map] at ht
  obtain ⟨u, hu, rfl⟩ := ht
  exact plainW_len u (h u hu)
theorem Short.set {L : List Tx} (h : Short L) (i : Nat) (t : Tx) (ht : t.length ≤ 4194304) : Short (L.set i t) := by
  intro x hx
  rcases List.mem_or_eq_of_mem_set hx with hx | rfl
  · exact h x hx
  · exact ht
theorem Short.usual {L : List Tx} (h : Short L) : Short (usual L) := by
  have hm := h.map
  unfold GrA.usual
  obtain ⟨M, hM⟩ : ∃ M, M = L.map plainW := ⟨_, rfl⟩
  rw [← hM] at hm ⊢
  unfold usualL
  have g := fun i => hm.getD i
  split
  · intro x hx
    rcases List.mem_append.1 hx with hx | hx
    · exact hm x (List.mem_of_mem_take hx)
    · simp at hx; subst hx; decide
  · split
    · intro x hx
      simp only [List.mem_cons, List.not_mem_nil, or_false] at hx
      rcases hx with rfl | rfl | rfl | rfl
      · decide
      · exact g 1
      · exact g 2
      · exact g 3
    · split
      · exact hm.set _ _ (by decide)
      · split
        · exact hm.set _ _ (by decide)
        · split
          · intro x hx
            simp only [List.mem_cons, List.not_mem_nil, or_false] at hx
            rcases hx with rfl | rfl | rfl | rfl
            · decide
            · exact g 3
            · exact g 4
            · exact g 5
          · exact hm
theorem usual_len {L : List Tx} (h : 1 ≤ L.length) (h8 : L.length ≤ 8) : 1 ≤ (usual L).length ∧ (usual L).length ≤ 8 := by
  unfold GrA.usual
  obtain ⟨M, hM⟩ : ∃ M, M = L.map plainW := ⟨_, rfl⟩
  have hl : M.length = L.length := by rw [hM, List.length_map]
  rw [← hM]
  unfold usualL
  split
  · simp; omega
  · split
    · simp
    · split
      · simp; omega
      · split
        · simp; omega
        · split
          · simp
          · omega

theorem usual_any (L : List Tx) (v : Value) (w : World) (tb : TB w) (h : SlT w v L) (hs : Short L) (h1 : 1 ≤ L.length) (h8 : L.length ≤ 8) : Calls Tryd.prog 33 #[v] w fun e w' => ∃ u, e = .returned u ∧ SlT w' u (usual L) ∧ Below w.heap.size w w' := by
  have h0 := h
  obtain ⟨a, cap, rfl, hl, hc⟩ := h0
  obtain ⟨M, hM⟩ : ∃ M, M = L.map plainW := ⟨_, rfl⟩
  have hU : usual L = usualL M := by rw [hM]; rfl
  rw [hU]
  clear hU
  obtain ⟨n, hn⟩ : ∃ n, n = L.length := ⟨_, rfl⟩
  rw [← hn] at h h1 h8 ⊢
  have hn := hn.symm
  by_cases n8 : n = 8
  · subst n8
    exact ausual_8 L M a cap w tb h hs hn hM
  · by_cases n7 : n = 7
    · subst n7
      exact ausual_7 L M a cap w tb h hs hn hM
    · by_cases n4 : n = 4
      · subst n4
        exact ausual_4 L M a cap w tb h hs hn hM
      · by_cases n6 : n = 6
        · subst n6
          exact ausual_6 L M a cap w tb h hs hn hM
        · exact ausual_x L M a n cap w tb h hs hn h1 h8 n8 n7 n4 n6 hM

theorem guess_any (op : Int) (o1 : 1 ≤ op) (o2 : op ≤ 23) (L : List Tx) (v : Value) (w : World) (ht : Tab w) (h : SlT w v L) (hs : Short L) (h1 : 1 ≤ L.length) (h8 : L.length ≤ 8) : Calls Tryd.prog 34 #[.int .i64 op, v] w fun e w' => e = .returned (iv (guess op L)) ∧ Below w.heap.size w w' := by
  have h0 := h
  obtain ⟨a, cap, rfl, hl, hc⟩ := h0
  obtain ⟨k, hk⟩ : ∃ k, k + 1 = L.length := ⟨L.length - 1, by omega⟩
  obtain ⟨n, hn⟩ : ∃ n, n = L.length := ⟨_, rfl⟩
  rw [← hn] at h hk h1 h8 ⊢
  have hn := hn.symm
  subst hk
  have ho : op = 1 ∨ op = 2 ∨ op = 3 ∨ op = 4 ∨ op = 5 ∨ op = 6 ∨ op = 7 ∨ op = 8 ∨ op = 9 ∨ op = 10 ∨ op = 11 ∨ op = 12 ∨ op = 13 ∨ op = 14 ∨ op = 15 ∨ op = 16 ∨ op = 17 ∨ op = 18 ∨ op = 19 ∨ op = 20 ∨ op = 21 ∨ op = 22 ∨ op = 23 := by omega
  rcases ho with rfl | rfl | rfl | rfl | rfl | rfl | rfl | rfl | rfl | rfl | rfl | rfl | rfl | rfl | rfl | rfl | rfl | rfl | rfl | rfl | rfl | rfl | rfl
  · exact aguess_1 L a k cap w ht h hs hn (by omega)
  · by_cases e : k = 7
    · subst e
      exact aguess_2_8 L a cap w ht h hs hn
    · exact aguess_2_n L a k cap w ht h hs hn (by omega) e
  · by_cases e : k = 7
    · subst e
      exact aguess_3_8 L a cap w ht h hs hn
    · exact aguess_3_n L a k cap w ht h hs hn (by omega) e
  · by_cases e : k = 7
    · subst e
      exact aguess_4_8 L a cap w ht h hs hn
    · exact aguess_4_n L a k cap w ht h hs hn (by omega) e
  · by_cases e : k = 7
    · subst e
      exact aguess_5_8 L a cap w ht h hs hn
    · exact aguess_5_n L a k cap w ht h hs hn (by omega) e
  · by_cases e : k = 6
    · subst e
      exact aguess_6_7 L a cap w ht h hs hn
    · by_cases e3 : 3 ≤ k
      · exact aguess_6_4 L a k cap w ht h hs hn (by omega) e3 e
      · exact aguess_6_1 L a k cap w ht h hs hn (by omega) (by omega)
  · exact aguess_7 L a k cap w ht h hs hn (by omega)
  · by_cases e : L.getD 0 [] = CMP
    · exact aguess_8_c L a k cap w ht h hs hn (by omega) e
    · exact aguess_8_n L a k cap w ht h hs hn (by omega) e
  · by_cases e : L.getD 0 [] = CMP
    · exact aguess_9_c L a k cap w ht h hs hn (by omega) e
    · exact aguess_9_n L a k cap w ht h hs hn (by omega) e
  · by_cases e : L.getD 0 [] = CMP
    · exact aguess_10_c L a k cap w ht h hs hn (by omega) e
    · exact aguess_10_n L a k cap w ht h hs hn (by omega) e
  · by_cases e : L.getD 0 [] = CMP
    · exact aguess_11_c L a k cap w ht h hs hn (by omega) e
    · exact aguess_11_n L a k cap w ht h hs hn (by omega) e
  · by_cases e : L.getD 0 [] = CMP
    · exact aguess_12_c L a k cap w ht h hs hn (by omega) e
    · exact aguess_12_n L a k cap w ht h hs hn (by omega) e
  · by_cases e : L.getD 0 [] = CMP
    · exact aguess_13_c L a k cap w ht h hs hn (by omega) e
    · exact aguess_13_n L a k cap w ht h hs hn (by omega) e
  · exact aguess_14 L a k cap w ht h hs hn (by omega)
  · exact aguess_15 L a k cap w ht h hs hn (by omega)
  · exact aguess_16 L a k cap w ht h hs hn (by omega)
  · exact aguess_17 L a k cap w ht h hs hn (by omega)
  · exact aguess_18 L a k cap w ht h hs hn (by omega)
  · exact aguess_19 L a k cap w ht h hs hn (by omega)
  · exact aguess_20 L a k cap w ht h hs hn (by omega)
  · by_cases e : k = 0
    · subst e
      exact aguess_21_1 L a cap w ht h hs hn
    · by_cases e2 : k = 1
      · subst e2
        exact aguess_21_2 L a cap w ht h hs hn
      · exact aguess_21_n L a k cap w ht h hs hn (by omega) (by omega)
  · exact aguess_22 L a k cap w ht h hs hn (by omega)
  · exact aguess_23 L a k cap w ht h hs hn (by omega)
theorem print_yes (x : GrI.I) (w : World) (ht : Tab w) (hr : GrI.right x) : Calls Tryd.prog 10 #[iv x] w fun e w' => e = .returned (.string (strL (printR x))) ∧ Below w.heap.size w w' := by
  obtain ⟨op, d, n, m, i, kind⟩ := x
  have ho := GrI.ops hr
  have hn := hr.2.2.2.2.2.2.2.2.2.2.2.2.2
  simp only at ho
  rcases ho with rfl | rfl | rfl | rfl | rfl | rfl | rfl | rfl | rfl | rfl | rfl | rfl | rfl | rfl | rfl | rfl | rfl | rfl | rfl | rfl | rfl | rfl | rfl
  · exact aprint_1 d n m i kind w ht hr
  · exact aprint_2 d n m i kind w ht hr
  · exact aprint_3 d n m i kind w ht hr
  · exact aprint_4 d n m i kind w ht hr
  · exact aprint_5 d n m i kind w ht hr
  · exact aprint_6 d n m i kind w ht hr
  · exact aprint_7 d n m i kind w ht hr
  · exact aprint_8 d n m i kind w ht hr
  · exact aprint_9 d n m i kind w ht hr
  · exact aprint_10 d n m i kind w ht hr
  · exact aprint_11 d n m i kind w ht hr
  · exact aprint_12 d n m i kind w ht hr
  · by_cases e : d = 31
    · subst e
      exact aprint_13_c n m i kind w ht hr
    · exact aprint_13_n d n m i kind w ht hr e
  · exact aprint_14 d n m i kind w ht hr
  · exact aprint_15 d n m i kind w ht hr
  · exact aprint_16 d n m i kind w ht hr
  · simp [GrI.nums] at hn
    obtain rfl | rfl : kind = 0 ∨ kind = 1 := by omega
    · exact aprint_17_0 d n m i w ht hr
    · exact aprint_17_1 d n m i w ht hr
  · simp [GrI.nums] at hn
    obtain rfl | rfl | rfl | rfl | rfl | rfl : kind = 9 ∨ kind = 10 ∨ kind = 11 ∨ kind = 13 ∨ kind = 14 ∨ kind = 15 := by omega
    · exact aprint_18_9 d n m i w ht hr
    · exact aprint_18_10 d n m i w ht hr
    · exact aprint_18_11 d n m i w ht hr
    · exact aprint_18_13 d n m i w ht hr
    · exact aprint_18_14 d n m i w ht hr
    · exact aprint_18_15 d n m i w ht hr
  · simp [GrI.nums] at hn
    obtain rfl | rfl | rfl | rfl | rfl | rfl : kind = 9 ∨ kind = 10 ∨ kind = 11 ∨ kind = 13 ∨ kind = 14 ∨ kind = 15 := by omega
    · exact aprint_19_9 d n m i w ht hr
    · exact aprint_19_10 d n m i w ht hr
    · exact aprint_19_11 d n m i w ht hr
    · exact aprint_19_13 d n m i w ht hr
    · exact aprint_19_14 d n m i w ht hr
    · exact aprint_19_15 d n m i w ht hr
  · exact aprint_20 d n m i kind w ht hr
  · simp [GrI.nums] at hn
    obtain rfl | rfl | rfl | rfl | rfl | rfl | rfl | rfl : kind = 0 ∨ kind = 1 ∨ kind = 2 ∨ kind = 3 ∨ kind = 4 ∨ kind = 5 ∨ kind = 6 ∨ kind = 7 := by omega
    · exact aprint_21_0 d n m i w ht hr
    · exact aprint_21_1 d n m i w ht hr
    · exact aprint_21_2 d n m i w ht hr
    · exact aprint_21_3 d n m i w ht hr
    · exact aprint_21_4 d n m i w ht hr
    · exact aprint_21_5 d n m i w ht hr
    · exact aprint_21_6 d n m i w ht hr
    · exact aprint_21_7 d n m i w ht hr
  · exact aprint_22 d n m i kind w ht hr
  · simp [GrI.nums] at hn
    obtain rfl | rfl | rfl : kind = 0 ∨ kind = 1 ∨ kind = 2 := by omega
    · exact aprint_23_0 d n m i w ht hr
    · exact aprint_23_1 d n m i w ht hr
    · exact aprint_23_2 d n m i w ht hr
end Go.Proofs.YtebpmngllljkaaaDoor

namespace GrA
theorem parse_hit {W : List Tx} {k : Nat} (h1 : 1 ≤ k) (h2 : k ≤ 23) (hno : ∀ j : Nat, 1 ≤ j → j < k → okOp W j = false) (h : okOp W k = true) : parseW W = some (guess (k : Nat) W) := by
  unfold parseW
  have : (List.range' 1 23).find? (okOp W) = some k := by
    rw [List.find?_range'_eq_some]
    exact ⟨h, by simp; omega, fun j a b => by rw [hno j a b]; rfl⟩
  rw [this]
  rfl
theorem parse_miss {W : List Tx} (hno : ∀ j : Nat, 1 ≤ j → j < 24 → okOp W j = false) : parseW W = none := by
  unfold parseW
  have : (List.range' 1 23).find? (okOp W) = none := by
    rw [List.find?_eq_none]
    intro j hj
    rw [List.mem_range'] at hj
    obtain ⟨i, hi, rfl⟩ := hj
    rw [hno _ (by omega) (by omega)]
    simp
  rw [this]
  rfl
theorem ok_yes {W : List Tx} {k : Nat} {x : GrI.I} (hx : x = guess (k : Nat) W) (hr : GrI.right x) (he : W = words (printR x)) : okOp W k = true := by
  unfold okOp
  rw [← hx]
  simp [hr, ← he]
theorem ok_no {W : List Tx} {k : Nat} {x : GrI.I} (hx : x = guess (k : Nat) W) (h : ¬ GrI.right x ∨ ¬ W = words (printR x)) : okOp W k = false := by
  unfold okOp
  rw [← hx, Bool.and_eq_false_iff, decide_eq_false_iff_not, decide_eq_false_iff_not]
  exact h
theorem no_next {W : List Tx} {k : Nat} (h : ∀ j : Nat, 1 ≤ j → j < k → okOp W j = false) (h2 : okOp W k = false) : ∀ j : Nat, 1 ≤ j → j < k + 1 → okOp W j = false := fun j a b => by
  by_cases e : j = k
  · rw [e]; exact h2
  · exact h j a (by omega)
end GrA
namespace Go.Proofs.YtebpmngllljkaaaDoor
open Go.RowKit GrP GrA

def parseV : Option GrI.I → Value
  | some x => .tuple #[iv x, .int .i64 0]
  | none => .tuple #[iv GrI.zero, .int .i64 40]

set_option maxRecDepth 100000 in
set_option maxHeartbeats 3200000 in
theorem aparse_zero (l : Tx) (w : World) (hl : l.length ≤ 4194304) (h : (words l).length = 0) : Calls Tryd.prog 13 #[.string (strL l)] w fun e w' => e = .returned (parseV none) ∧ Below w.heap.size w w' := by
  have WD := Lib.hid (fun w2 => words_any l w2 hl)
  obtain ⟨n, hn⟩ : ∃ n, n = (words l).length := ⟨_, rfl⟩
  unfold WordsPost at WD
  rw [← hn] at WD h
  clear hn hl
  go_enter Tryd.func13, Tryd.ntmps13
  go_upto_region 1 with fail
  refine to_cls ?_
  intro U0 hU0 y0
  have r_b : ∀ z : Wb U0, Row z.at (w.heap.size) [.int .i64 0, .int .i64 0, .int .i64 0, .int .i64 0, .int .i64 0, .int .i64 0] 23 := Row.next (Row.new _ [.int .i64 0, .int .i64 0, .int .i64 0, .int .i64 0, .int .i64 0, .int .i64 0] _) hU0
  have KK := Lib.hid (KB.next (KB.alloc (Below.refl _ _) _) hU0)
  clear hU0
  obtain ⟨c_b_0, c_b_1, c_b_2, c_b_3, c_b_4, c_b_5⟩ := six r_b
  have f_b := rfree r_b
  go_wp2_with fail
  refine (WD.out _).mono ?_
  rintro e w1 ⟨v, rfl, ho, g⟩
  obtain ⟨y1, rfl⟩ := Wb.next (x := y0) g
  clear g
  have HO := own_open ho
  clear ho
  subst h
  rcases HO with ⟨rfl, _⟩ | ⟨g, cap, rfl, _⟩
  all_goals
    go_wp2
    refine bodyPost_ret (v := parseV none) (by simp [results, Tryd.results13, go_sem, iv, parseV, GrI.zero, *]) rfl ⟨rfl, ?_⟩
    repeat' (first | (with_reducible exact KK.out y1) | (with_reducible refine Below.setCell ?_ ?_ _) | (simp; done) | (simp; omega) | omega)

set_option maxRecDepth 100000 in
set_option maxHeartbeats 3200000 in
theorem aparse_many (l : Tx) (w : World) (hl : l.length ≤ 4194304) (h : 8 < (words l).length) : Calls Tryd.prog 13 #[.string (strL l)] w fun e w' => e = .returned (parseV none) ∧ Below w.heap.size w w' := by
  have WD := Lib.hid (fun w2 => words_any l w2 hl)
  obtain ⟨n, hn⟩ : ∃ n, n = (words l).length := ⟨_, rfl⟩
  unfold WordsPost at WD
  rw [← hn] at WD h
  have g1 : (8 : Int) < (n : Int) := by omega
  have g2 : ((n : Int) == 0) = false := by simp; omega
  have g3 : ¬ (n : Int) = 0 := by omega
  clear hn hl
  go_enter Tryd.func13, Tryd.ntmps13
  go_upto_region 1 with fail
  refine to_cls ?_
  intro U0 hU0 y0
  have r_b : ∀ z : Wb U0, Row z.at (w.heap.size) [.int .i64 0, .int .i64 0, .int .i64 0, .int .i64 0, .int .i64 0, .int .i64 0] 23 := Row.next (Row.new _ [.int .i64 0, .int .i64 0, .int .i64 0, .int .i64 0, .int .i64 0, .int .i64 0] _) hU0
  have KK := Lib.hid (KB.next (KB.alloc (Below.refl _ _) _) hU0)
  clear hU0
  obtain ⟨c_b_0, c_b_1, c_b_2, c_b_3, c_b_4, c_b_5⟩ := six r_b
  have f_b := rfree r_b
  go_wp2_with fail
  refine (WD.out _).mono ?_
  rintro e w1 ⟨v, rfl, ho, g⟩
  obtain ⟨y1, rfl⟩ := Wb.next (x := y0) g
  clear g
  have HO := own_open ho
  clear ho
  rcases HO with ⟨_, rfl⟩ | ⟨g, cap, rfl, _⟩
  · omega
  clear h
  go_wp2
  refine bodyPost_ret (v := parseV none) (by simp [results, Tryd.results13, go_sem, iv, parseV, GrI.zero, *]) rfl ⟨rfl, ?_⟩
  repeat' (first | (with_reducible exact KK.out y1) | (with_reducible refine Below.setCell ?_ ?_ _) | (simp; done) | (simp; omega) | omega)

set_option maxRecDepth 100000 in
set_option maxHeartbeats 6400000 in
theorem aparse_loop (l : Tx) (w : World) (ht : Tab w) (hl : l.length ≤ 4194304) (h1 : 1 ≤ (words l).length) (h8 : (words l).length ≤ 8) : Calls Tryd.prog 13 #[.string (strL l)] w fun e w' => e = .returned (parseV (parseW (usual (words l)))) ∧ Below w.heap.size w w' := by
  have TH := Lib.hid ht
  have WD := Lib.hid (fun w2 => words_any l w2 hl)
  obtain ⟨A, hA⟩ : ∃ A, A = words l := ⟨_, rfl⟩
  unfold WordsPost at WD
  rw [← hA] at WD h1 h8 ⊢
  have AS : Short A := by rw [hA]; exact Short.words hl
  have US := Lib.hid (fun w2 (t2 : Tab w2) v2 (s2 : SlT w2 v2 A) => usual_any A v2 w2 t2.tb s2 AS h1 h8)
  have ul := usual_len h1 h8
  have WS := Lib.hid AS.usual
  obtain ⟨W, hW⟩ : ∃ W, W = usual A := ⟨_, rfl⟩
  rw [← hW] at US ul WS ⊢
  obtain ⟨n, hn⟩ : ∃ n, n = A.length := ⟨_, rfl⟩
  have HN := Lib.hid hn
  rw [← hn] at WD h1 h8
  have H1 := Lib.hid h1
  have H8 := Lib.hid h8
  have UL := Lib.hid ul
  have g1 : ¬ (8 : Int) < (n : Int) := by omega
  have g2 : ((n : Int) == 0) = false := by simp; omega
  have g3 : ¬ (n : Int) = 0 := by omega
  clear hA AS hW hn hl h1 h8 ht ul
  go_enter Tryd.func13, Tryd.ntmps13
  go_upto_region 1 with fail
  refine to_cls ?_
  intro U0 hU0 y0
  have r_b : ∀ z : Wb U0, Row z.at (w.heap.size) [.int .i64 0, .int .i64 0, .int .i64 0, .int .i64 0, .int .i64 0, .int .i64 0] 23 := Row.next (Row.new _ [.int .i64 0, .int .i64 0, .int .i64 0, .int .i64 0, .int .i64 0, .int .i64 0] _) hU0
  have KK := Lib.hid (KB.next (KB.alloc (Below.refl _ _) _) hU0)
  clear hU0
  obtain ⟨c_b_0, c_b_1, c_b_2, c_b_3, c_b_4, c_b_5⟩ := six r_b
  go_wp2_with fail
  refine (WD.out _).mono ?_
  rintro e w1 ⟨v, rfl, ho, g⟩
  obtain ⟨y1, rfl⟩ := Wb.next (x := y0) g
  clear g
  have SV := Lib.hid (slT_own ho HN.out H1.out (by have := H8.out; omega))
  clear ho
  obtain ⟨a0, cap0, hv, _⟩ := SV.out
  rw [← HN.out] at hv
  subst hv
  go_wp2_with fail
  refine (US.out _ (TH.out.below (KK.out y1)) _ SV.out).mono ?_
  rintro e w1 ⟨u, rfl, hu, g⟩
  obtain ⟨y, rfl⟩ := Wb.next (x := y1) g
  clear g SV
  have RB := Lib.hid (r_b y)
  have KY := Lib.hid (KK.out y)
  obtain ⟨a, cap, hu2, _⟩ := id hu
  obtain ⟨m, hm⟩ : ∃ m, m = W.length := ⟨_, rfl⟩
  rw [← hm] at hu2
  have HM := Lib.hid hm
  clear hm
  subst hu2
  have SU := Lib.hid hu
  clear hu c_b_0 c_b_1 c_b_2 c_b_3 c_b_4 c_b_5
  go_wp2_with fail
  go_loopw [5, 6, 7] (fun ov _ _ wr => ∃ k : Nat, 1 ≤ k ∧ k ≤ 24 ∧ ov = .int .i64 (k : Int) ∧ (∀ j : Nat, 1 ≤ j → j < k → okOp W j = false) ∧ Row wr w.heap.size [.int .i64 0, .int .i64 0, .int .i64 0, .int .i64 0, .int .i64 0, .int .i64 0] 23 ∧ SlT wr (.slice (some a) m cap) W ∧ Below w.heap.size w wr) (fun ov _ _ _ => 24 - (intOf ov).toNat)
  case atStart => exact ⟨1, by omega, by omega, rfl, fun j a b => absurd a (by omega), RB.out, SU.out, KY.out⟩
  case round =>
    clear RB SU KY
    obtain ⟨k, k1, k24, rfl, hno, hrb, hsu, hbel⟩ := hrel
    have RB := Lib.hid hrb
    have SU := Lib.hid hsu
    have HB := Lib.hid hbel
    have NO := Lib.hid hno
    clear hrb hsu hbel hno
    have k0 : (0 : Int) ≤ (k : Int) := by omega
    by_cases c : k < 24
    · have c1 : (k : Int) ≤ 23 := by omega
      have c2 : IntKind.i64.wrap ((k : Int) + 1) = (k : Int) + 1 := IntWalk.i64_in _ ⟨by omega, by omega⟩
      have GU := Lib.hid (guess_any (k : Int) (by omega) (by omega) W (.slice (some a) m cap) wr (TH.out.below HB.out) SU.out WS.out UL.out.1 UL.out.2)
      obtain ⟨x, hx⟩ : ∃ x, x = guess (k : Int) W := ⟨_, rfl⟩
      have hb := guess_imm (k : Int) W
      rw [← hx] at GU hb
      have HI := Lib.hid (show k + 1 ≤ 24 by omega)
      have K1 := Lib.hid (show 1 ≤ k + 1 by omega)
      have GX := Lib.hid (show x = guess ((k : Nat) : Int) W from hx)
      have KK1 := Lib.hid k1
      have KK2 := Lib.hid (show k ≤ 23 by omega)
      clear hx k24 c k1
      obtain ⟨op, d, nn, mm, imm, kind⟩ := x
      unfold iv at GU
      simp only at hb GU
      by_cases hr : GrI.right ⟨op, d, nn, mm, imm, kind⟩
      · have PR := Lib.hid (fun w2 (t2 : Tab w2) => print_yes ⟨op, d, nn, mm, imm, kind⟩ w2 t2 hr)
        have hpl := printR_len _ hr
        have hpn := printR_ne hr
        have hwl := wordsR_len ⟨op, d, nn, mm, imm, kind⟩
        rw [← words_printR _ hr] at hwl
        unfold iv at PR
        simp only at PR
        obtain ⟨p, hp⟩ : ∃ p, p = printR ⟨op, d, nn, mm, imm, kind⟩ := ⟨_, rfl⟩
        rw [← hp] at PR hpl hpn hwl
        have WP := Lib.hid (fun w2 => words_any p w2 (by omega))
        unfold WordsPost at WP
        obtain ⟨Q, hQ⟩ : ∃ Q, Q = words p := ⟨_, rfl⟩
        have hw : Q = words (printR ⟨op, d, nn, mm, imm, kind⟩) := by rw [hQ, hp]
        rw [← hQ] at WP hwl
        have HWL := Lib.hid hwl
        have SM := Lib.hid (fun w2 v2 (s2 : SlT w2 (.slice (some a) m cap) W) (t2 : SlT w2 v2 Q) => same_any W Q _ v2 w2 s2 t2)
        have e1 : (strL p).toList.isEmpty = false := by rw [strL_toList]; cases p with | nil => exact absurd rfl hpn | cons c t => rfl
        have e2 : ((strL p).toList == []) = false := by rw [strL_toList, beq_eq_false_iff_ne]; exact hpn
        have e3 : ¬ (strL p).toList = [] := by rw [strL_toList]; exact hpn
        clear hpn hpl hwl hp hQ hb
        by_cases he : W = Q
        · have DE : decide (W = Q) = true := by simpa using he
          have RS := Lib.hid (parse_hit KK1.out KK2.out NO.out (ok_yes GX.out hr (by rw [← hw]; exact he)))
          rw [← GX.out] at RS
          rw [DE] at SM
          clear DE he hw hr GX NO
          go_wp2_with fail
          refine (GU.out).mono ?_
          rintro e w1 ⟨rfl, b1⟩
          have B1 := Lib.hid b1
          have T1 := Lib.hid (Tab.below (TH.out.below HB.out) b1)
          clear b1
          go_upto_region 9 with fail
          refine to_cls ?_
          intro U10 hU10 y10
          have r_b : ∀ z : Wb U10, Row z.at (w.heap.size) [.int .i64 0, .int .i64 0, .int .i64 0, .int .i64 0, .int .i64 0, .int .i64 0] 23 := Row.next ((RB.out.below B1.out).old _) hU10
          have r_c : ∀ z : Wb U10, Row z.at (w1.heap.size) [.int .i64 op, .int .i64 d, .int .i64 nn, .int .i64 mm, .int .i64 imm, .int .i64 kind] 23 := Row.next (Row.new _ [.int .i64 op, .int .i64 d, .int .i64 nn, .int .i64 mm, .int .i64 imm, .int .i64 kind] _) hU10
          have KK := Lib.hid (KB.next (KB.alloc (HB.out.trans (B1.out.mono HB.out.size)) _) hU10)
          have SZ := Lib.hid (fun z : Wb U10 => (((SU.out.below B1.out).below (KB.alloc (Below.refl _ _) _ : Below w1.heap.size w1 _)).below hU10).below z.bel)
          clear hU10
          obtain ⟨c_b_0, c_b_1, c_b_2, c_b_3, c_b_4, c_b_5⟩ := six r_b
          obtain ⟨c_c_0, c_c_1, c_c_2, c_c_3, c_c_4, c_c_5⟩ := six r_c
          have TZ := Lib.hid (fun z : Wb U10 => TH.out.below (KK.out z))
          obtain ⟨cA, hcA⟩ : ∃ b, b = w1.heap.size := ⟨_, rfl⟩
          rw [← hcA] at r_c c_c_0 c_c_1 c_c_2 c_c_3 c_c_4 c_c_5
          simp only [← hcA]
          have HCA := Lib.hid (show w.heap.size < cA by rw [hcA]; have := RB.out.lt; have := B1.out.size; omega)
          clear hcA
          have f_b := rfree r_b
          go_wp2_with fail
          refine (PR.out _ (TZ.out y10)).mono ?_
          rintro e w1 ⟨rfl, g⟩
          obtain ⟨y11, rfl⟩ := Wb.next (x := y10) g
          clear g
          go_wp2_with fail
          refine (WP.out _).mono ?_
          rintro e w1 ⟨v2, rfl, ho, g⟩
          obtain ⟨y12, rfl⟩ := Wb.next (x := y11) g
          clear g
          have SQ := slT_own ho rfl (by have := HWL.out; omega) (by have := HWL.out; omega)
          clear ho
          obtain ⟨a2, cap2, hv2, _⟩ := id SQ
          subst hv2
          have SR := Lib.hid SQ
          clear SQ
          go_wp2_with fail
          refine (SM.out _ _ (SZ.out y12) SR.out).mono ?_
          rintro e w1 ⟨rfl, g⟩
          obtain ⟨y13, rfl⟩ := Wb.next (x := y12) g
          clear g
          go_wp2
          refine bodyPost_ret (v := parseV (some ⟨op, d, nn, mm, imm, kind⟩)) (by simp [results, Tryd.results13, go_sem, iv, parseV, *]) rfl ⟨by rw [RS.out], ?_⟩
          repeat' (first | (with_reducible exact KK.out y13) | (with_reducible refine Below.setCell ?_ ?_ _) | (simp; done) | (simp; omega) | omega)
        · have DE : decide (W = Q) = false := by simpa using he
          have N2 := Lib.hid (no_next NO.out (ok_no GX.out (.inr (by rw [← hw]; exact he))))
          rw [DE] at SM
          clear DE he hw hr GX NO
          go_wp2_with fail
          refine (GU.out).mono ?_
          rintro e w1 ⟨rfl, b1⟩
          have B1 := Lib.hid b1
          have T1 := Lib.hid (Tab.below (TH.out.below HB.out) b1)
          clear b1
          go_upto_region 9 with fail
          refine to_cls ?_
          intro U10 hU10 y10
          have r_b : ∀ z : Wb U10, Row z.at (w.heap.size) [.int .i64 0, .int .i64 0, .int .i64 0, .int .i64 0, .int .i64 0, .int .i64 0] 23 := Row.next ((RB.out.below B1.out).old _) hU10
          have r_c : ∀ z : Wb U10, Row z.at (w1.heap.size) [.int .i64 op, .int .i64 d, .int .i64 nn, .int .i64 mm, .int .i64 imm, .int .i64 kind] 23 := Row.next (Row.new _ [.int .i64 op, .int .i64 d, .int .i64 nn, .int .i64 mm, .int .i64 imm, .int .i64 kind] _) hU10
          have KK := Lib.hid (KB.next (KB.alloc (HB.out.trans (B1.out.mono HB.out.size)) _) hU10)
          have SZ := Lib.hid (fun z : Wb U10 => (((SU.out.below B1.out).below (KB.alloc (Below.refl _ _) _ : Below w1.heap.size w1 _)).below hU10).below z.bel)
          clear hU10
          obtain ⟨c_b_0, c_b_1, c_b_2, c_b_3, c_b_4, c_b_5⟩ := six r_b
          obtain ⟨c_c_0, c_c_1, c_c_2, c_c_3, c_c_4, c_c_5⟩ := six r_c
          have TZ := Lib.hid (fun z : Wb U10 => TH.out.below (KK.out z))
          obtain ⟨cA, hcA⟩ : ∃ b, b = w1.heap.size := ⟨_, rfl⟩
          rw [← hcA] at r_c c_c_0 c_c_1 c_c_2 c_c_3 c_c_4 c_c_5
          simp only [← hcA]
          have HCA := Lib.hid (show w.heap.size < cA by rw [hcA]; have := RB.out.lt; have := B1.out.size; omega)
          clear hcA
          have f_b := rfree r_b
          go_wp2_with fail
          refine (PR.out _ (TZ.out y10)).mono ?_
          rintro e w1 ⟨rfl, g⟩
          obtain ⟨y11, rfl⟩ := Wb.next (x := y10) g
          clear g
          go_wp2_with fail
          refine (WP.out _).mono ?_
          rintro e w1 ⟨v2, rfl, ho, g⟩
          obtain ⟨y12, rfl⟩ := Wb.next (x := y11) g
          clear g
          have SQ := slT_own ho rfl (by have := HWL.out; omega) (by have := HWL.out; omega)
          clear ho
          obtain ⟨a2, cap2, hv2, _⟩ := id SQ
          subst hv2
          have SR := Lib.hid SQ
          clear SQ
          go_wp2_with fail
          refine (SM.out _ _ (SZ.out y12) SR.out).mono ?_
          rintro e w1 ⟨rfl, g⟩
          obtain ⟨y13, rfl⟩ := Wb.next (x := y12) g
          clear g
          go_wp2
          go_roundw
          case rel => exact ⟨k + 1, K1.out, HI.out, by go_num, N2.out, r_b y13, SZ.out y13, KK.out y13⟩
          case measure => have := HI.out; simp [intOf] <;> omega
      · have PR := Lib.hid (fun w2 (t2 : Tab w2) => aprint_no op d nn mm imm kind w2 t2 ⟨by omega, by omega⟩ (by simpa [encB] using hr))
        have N2 := Lib.hid (no_next NO.out (ok_no GX.out (.inl hr)))
        clear hr GX NO hb
        go_wp2_with fail
        refine (GU.out).mono ?_
        rintro e w1 ⟨rfl, b1⟩
        have B1 := Lib.hid b1
        have T1 := Lib.hid (Tab.below (TH.out.below HB.out) b1)
        clear b1
        go_upto_region 9 with fail
        refine to_cls ?_
        intro U10 hU10 y10
        have r_b : ∀ z : Wb U10, Row z.at (w.heap.size) [.int .i64 0, .int .i64 0, .int .i64 0, .int .i64 0, .int .i64 0, .int .i64 0] 23 := Row.next ((RB.out.below B1.out).old _) hU10
        have r_c : ∀ z : Wb U10, Row z.at (w1.heap.size) [.int .i64 op, .int .i64 d, .int .i64 nn, .int .i64 mm, .int .i64 imm, .int .i64 kind] 23 := Row.next (Row.new _ [.int .i64 op, .int .i64 d, .int .i64 nn, .int .i64 mm, .int .i64 imm, .int .i64 kind] _) hU10
        have KK := Lib.hid (KB.next (KB.alloc (HB.out.trans (B1.out.mono HB.out.size)) _) hU10)
        have SZ := Lib.hid (fun z : Wb U10 => (((SU.out.below B1.out).below (KB.alloc (Below.refl _ _) _ : Below w1.heap.size w1 _)).below hU10).below z.bel)
        clear hU10
        obtain ⟨c_b_0, c_b_1, c_b_2, c_b_3, c_b_4, c_b_5⟩ := six r_b
        obtain ⟨c_c_0, c_c_1, c_c_2, c_c_3, c_c_4, c_c_5⟩ := six r_c
        have TZ := Lib.hid (fun z : Wb U10 => TH.out.below (KK.out z))
        obtain ⟨cA, hcA⟩ : ∃ b, b = w1.heap.size := ⟨_, rfl⟩
        rw [← hcA] at r_c c_c_0 c_c_1 c_c_2 c_c_3 c_c_4 c_c_5
        simp only [← hcA]
        have HCA := Lib.hid (show w.heap.size < cA by rw [hcA]; have := RB.out.lt; have := B1.out.size; omega)
        clear hcA
        have f_b := rfree r_b
        go_wp2_with fail
        refine (PR.out _ (TZ.out y10)).mono ?_
        rintro e w1 ⟨rfl, g⟩
        obtain ⟨y11, rfl⟩ := Wb.next (x := y10) g
        clear g
        go_wp2
        go_roundw
        case rel => exact ⟨k + 1, K1.out, HI.out, by go_num, N2.out, r_b y11, SZ.out y11, KK.out y11⟩
        case measure => have := HI.out; simp [intOf] <;> omega
    · obtain rfl : k = 24 := by omega
      have RS := Lib.hid (parse_miss NO.out)
      clear NO c k1 k24
      refine to_cls ?_
      intro U hU z
      have r_b : ∀ z : Wb U, Row z.at w.heap.size [.int .i64 0, .int .i64 0, .int .i64 0, .int .i64 0, .int .i64 0, .int .i64 0] 23 := Row.next RB.out hU
      have KK := Lib.hid (KB.next HB.out hU)
      have c_0 : ∀ z : Wb U, z.at.cell? ⟨w.heap.size, 0, none⟩ = some (.int .i64 0) := fun z => (r_b z).cell 0
      have c_1 : ∀ z : Wb U, z.at.cell? ⟨w.heap.size, 1, none⟩ = some (.int .i64 0) := fun z => (r_b z).cell 1
      have c_2 : ∀ z : Wb U, z.at.cell? ⟨w.heap.size, 2, none⟩ = some (.int .i64 0) := fun z => (r_b z).cell 2
      have c_3 : ∀ z : Wb U, z.at.cell? ⟨w.heap.size, 3, none⟩ = some (.int .i64 0) := fun z => (r_b z).cell 3
      have c_4 : ∀ z : Wb U, z.at.cell? ⟨w.heap.size, 4, none⟩ = some (.int .i64 0) := fun z => (r_b z).cell 4
      have c_5 : ∀ z : Wb U, z.at.cell? ⟨w.heap.size, 5, none⟩ = some (.int .i64 0) := fun z => (r_b z).cell 5
      have f_b : ∀ (z : Wb U) (i : Nat), z.at.frozen? ⟨w.heap.size, i, none⟩ = false := fun z i => (r_b z).free i
      clear hU
      go_wp2
      refine bodyPost_ret (v := parseV none) (by simp [results, Tryd.results13, go_sem, iv, parseV, GrI.zero, *]) rfl ⟨by rw [RS.out], ?_⟩
      repeat' (first | (with_reducible exact KK.out z) | (with_reducible refine Below.setCell ?_ ?_ _) | (simp; done) | (simp; omega) | omega)

theorem parse_T (l : Tx) (w : World) (ht : Tab w) (hl : l.length ≤ 4194304) : Calls Tryd.prog 13 #[.string (strL l)] w fun e w' => e = .returned (parseV (parseT l)) ∧ Below w.heap.size w w' := by
  unfold parseT
  by_cases h0 : (words l).length = 0
  · rw [if_pos (.inl h0)]
    exact aparse_zero l w hl h0
  · by_cases h8 : 8 < (words l).length
    · rw [if_pos (.inr h8)]
      exact aparse_many l w hl h8
    · rw [if_neg (by omega)]
      exact aparse_loop l w ht hl (by omega) (by omega)
end Go.Proofs.YtebpmngllljkaaaDoor

namespace GrA
theorem parse_usual {x : GrI.I} (h : GrI.right x) {s : Tx} (h1 : 1 ≤ (words s).length) (h8 : (words s).length ≤ 8) (e : usual (words s) = wordsR x) : parseT s = some x := by
  have k := parse_words h (words_printR x h)
  have hl := wordsR_len x
  unfold parseT at k ⊢
  rw [words_printR x h, if_neg (by omega), usual_wordsR x h] at k
  rw [if_neg (by omega), e]
  exact k
theorem ex1 : parseT [32, 77, 79, 86, 32, 88, 48, 32, 44, 32, 35, 48, 120, 49, 48, 32] = some ⟨6, 0, 0, 0, 16, 0⟩ := parse_usual (by decide) (by decide) (by decide) (by decide +kernel)
theorem ex2 : parseT [108, 100, 114, 32, 88, 49] = none := by
  unfold parseT
  rw [if_neg (by decide)]
  refine parse_miss fun j h1 h2 => ?_
  have key : ∀ j : Fin 24, okOp (usual (words [108, 100, 114, 32, 88, 49])) j.val = false := by decide +kernel
  exact key ⟨j, h2⟩
theorem ex3 : printR ⟨2, 1, 2, 0, 8, 0⟩ = [76, 68, 82, 32, 88, 49, 44, 91, 88, 50, 44, 35, 56, 93] := by decide +kernel
end GrA
namespace Go.Proofs.YtebpmngllljkaaaDoor
open Go.RowKit GrP GrA

set_option maxRecDepth 100000 in
set_option maxHeartbeats 3200000 in
theorem aawake_any (w : World) (ht : Tab w) : Calls Tryd.prog 9 #[] w fun e w' => e = .returned (.bool true) ∧ Below w.heap.size w w' := by
  have TH := Lib.hid ht
  have P1 := Lib.hid (fun w2 (t2 : Tab w2) => (show Calls Tryd.prog 13 #[.string ⟨#[32, 77, 79, 86, 32, 88, 48, 32, 44, 32, 35, 48, 120, 49, 48, 32]⟩] w2 fun e w' => e = .returned (.tuple #[.agg #[.int .i64 6, .int .i64 0, .int .i64 0, .int .i64 0, .int .i64 16, .int .i64 0], .int .i64 0]) ∧ Below w2.heap.size w2 w' from by have := parse_T [32, 77, 79, 86, 32, 88, 48, 32, 44, 32, 35, 48, 120, 49, 48, 32] w2 t2 (by decide); rw [ex1] at this; exact this))
  have P2 := Lib.hid (fun w2 (t2 : Tab w2) => (show Calls Tryd.prog 13 #[.string ⟨#[108, 100, 114, 32, 88, 49]⟩] w2 fun e w' => e = .returned (.tuple #[.agg #[.int .i64 0, .int .i64 0, .int .i64 0, .int .i64 0, .int .i64 0, .int .i64 0], .int .i64 40]) ∧ Below w2.heap.size w2 w' from by have := parse_T [108, 100, 114, 32, 88, 49] w2 t2 (by decide); rw [ex2] at this; exact this))
  have P3 := Lib.hid (fun w2 (t2 : Tab w2) => (show Calls Tryd.prog 10 #[.agg #[.int .i64 2, .int .i64 1, .int .i64 2, .int .i64 0, .int .i64 8, .int .i64 0]] w2 fun e w' => e = .returned (.string ⟨#[76, 68, 82, 32, 88, 49, 44, 91, 88, 50, 44, 35, 56, 93]⟩) ∧ Below w2.heap.size w2 w' from by have := print_yes ⟨2, 1, 2, 0, 8, 0⟩ w2 t2 (by decide); rw [ex3] at this; exact this))
  clear ht
  go_enter Tryd.func9, Tryd.ntmps9
  go_upto_region 1 with fail
  refine to_cls ?_
  intro U0 hU0 y0
  have KK := Lib.hid (KB.next (Below.refl _ _) hU0)
  clear hU0
  have TZ := Lib.hid (fun z : Wb U0 => TH.out.below (KK.out z))
  go_wp2_with fail
  refine (P1.out _ (TZ.out y0)).mono ?_
  rintro e w1 ⟨rfl, g⟩
  obtain ⟨y1, rfl⟩ := Wb.next (x := y0) g
  clear g
  go_upto_region 2 with fail
  refine to_cls ?_
  intro U2 hU2 y2
  have r_p : ∀ z : Wb U2, Row z.at (y1.at.heap.size) [.int .i64 6, .int .i64 0, .int .i64 0, .int .i64 0, .int .i64 16, .int .i64 0] 23 := Row.next (Row.new _ [.int .i64 6, .int .i64 0, .int .i64 0, .int .i64 0, .int .i64 16, .int .i64 0] _) hU2
  have KK := Lib.hid (KB.next (KB.alloc (KK.out y1) _) hU2)
  clear hU2
  obtain ⟨c_p_0, c_p_1, c_p_2, c_p_3, c_p_4, c_p_5⟩ := six r_p
  obtain ⟨pA, hpA⟩ : ∃ b, b = y1.at.heap.size := ⟨_, rfl⟩
  rw [← hpA] at r_p c_p_0 c_p_1 c_p_2 c_p_3 c_p_4 c_p_5
  simp only [← hpA]
  clear hpA
  have TZ := Lib.hid (fun z : Wb U2 => TH.out.below (KK.out z))
  go_wp2_with fail
  refine (P2.out _ (TZ.out y2)).mono ?_
  rintro e w1 ⟨rfl, g⟩
  obtain ⟨y3, rfl⟩ := Wb.next (x := y2) g
  clear g
  go_upto_region 3 with fail
  refine to_cls ?_
  intro U4 hU4 y4
  clear c_p_0 c_p_1 c_p_2 c_p_3 c_p_4 c_p_5
  have r_p : ∀ z : Wb U4, Row z.at (pA) [.int .i64 6, .int .i64 0, .int .i64 0, .int .i64 0, .int .i64 16, .int .i64 0] 23 := Row.next ((r_p y3).old _) hU4
  have r_q : ∀ z : Wb U4, Row z.at (y3.at.heap.size) [.int .i64 0, .int .i64 0, .int .i64 0, .int .i64 0, .int .i64 0, .int .i64 0] 23 := Row.next (Row.new _ [.int .i64 0, .int .i64 0, .int .i64 0, .int .i64 0, .int .i64 0, .int .i64 0] _) hU4
  have KK := Lib.hid (KB.next (KB.alloc (KK.out y3) _) hU4)
  clear hU4
  obtain ⟨c_p_0, c_p_1, c_p_2, c_p_3, c_p_4, c_p_5⟩ := six r_p
  obtain ⟨c_q_0, c_q_1, c_q_2, c_q_3, c_q_4, c_q_5⟩ := six r_q
  obtain ⟨qA, hqA⟩ : ∃ b, b = y3.at.heap.size := ⟨_, rfl⟩
  rw [← hqA] at r_q c_q_0 c_q_1 c_q_2 c_q_3 c_q_4 c_q_5
  simp only [← hqA]
  clear hqA
  have TZ := Lib.hid (fun z : Wb U4 => TH.out.below (KK.out z))
  go_wp2_with fail
  refine (P3.out _ (TZ.out y4)).mono ?_
  rintro e w1 ⟨rfl, g⟩
  obtain ⟨y5, rfl⟩ := Wb.next (x := y4) g
  clear g
  go_wp2
  go_ret
  exact ⟨rfl, KK.out y5⟩

end Go.Proofs.YtebpmngllljkaaaDoor
