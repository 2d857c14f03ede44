/-
  PLAIN LAYER 10: a row's parts, by places of the text.
-/
import Derived.Test.YtagbhhfflgikkaaDoorEo
set_option linter.unusedSimpArgs false
set_option linter.unusedVariables false
namespace GrL
open Go GrP
theorem tw_in {p : UInt8 → Bool} : ∀ {l : Tx} {j : Nat} (h : j < l.length), j < (l.takeWhile p).length → p l[j] = true
  | c :: l, 0, _, h => by
    simp only [List.getElem_cons_zero]
    by_cases hc : p c = true
    · exact hc
    · simp [hc] at h
  | c :: l, j + 1, hl, h => by
    simp only [List.getElem_cons_succ]
    by_cases hc : p c = true
    · simp only [List.takeWhile_cons, hc, if_true, List.length_cons] at h
      exact tw_in (by simpa using hl) (by omega)
    · simp [hc] at h
theorem tw_out {p : UInt8 → Bool} : ∀ {l : Tx} (h : (l.takeWhile p).length < l.length), p l[(l.takeWhile p).length] = false
  | [], h => by simp at h
  | c :: l, h => by
    by_cases hc : p c = true
    · simp only [List.takeWhile_cons, hc, if_true, List.length_cons] at h ⊢
      simp only [List.getElem_cons_succ]
      exact tw_out (by omega)
    · simp [hc]
theorem line_in {s : Tx} {f j : Nat} (h : j < lineN s f) (hl : f + j < s.length) : s[f + j] ≠ 10 := by
  have := tw_in (p := (· != 10)) (l := s.drop f) (j := j) (by rw [List.length_drop]; omega) h
  rw [List.getElem_drop] at this
  simpa using this
theorem line_out {s : Tx} {f : Nat} (hl : f + lineN s f < s.length) : s[f + lineN s f] = 10 := by
  have := tw_out (p := (· != 10)) (l := s.drop f) (by rw [List.length_drop]; unfold lineN at hl; omega)
  rw [List.getElem_drop] at this
  exact (bne_eq_false_iff_eq).1 this
structure Parts (s : Tx) (f m e tw rl : Nat) : Prop where
  fm : f + m ≤ s.length
  em : e ≤ m
  te : tw + rl ≤ e
  row : rowAt s f = if rl = 0 then [] else [((s.drop (f + tw)).take rl, f + tw)]
  a_in : ∀ j (h : f + j < s.length), j < tw → blankB s[f + j] = true
  a_out : ∀ h : f + tw < s.length, tw < e → blankB s[f + tw] = false
  e_in : ∀ x (h : f + x < s.length), tw + rl ≤ x → x < e → blankB s[f + x] = true
  e_out : ∀ h : f + tw + rl - 1 < s.length, 0 < rl → blankB s[f + tw + rl - 1] = false
theorem trimR_app (l : Tx) : l = trimR l ++ (l.reverse.takeWhile blankB).reverse := by
  unfold trimR
  rw [← List.reverse_append, List.takeWhile_append_dropWhile, List.reverse_reverse]
theorem trimR_last (l : Tx) (h : 0 < (trimR l).length) : blankB ((trimR l)[(trimR l).length - 1]'(by omega)) = false := by
  have h2 : 0 < (l.reverse.dropWhile blankB).length := by simpa [trimR] using h
  have e : (trimR l)[(trimR l).length - 1]'(by omega) = (l.reverse.dropWhile blankB)[0]'h2 := by
    unfold trimR
    rw [List.getElem_reverse]
    congr 1
    simp only [List.length_reverse]
    omega
  rw [e]
  have h3 : (l.reverse.takeWhile blankB).length < l.reverse.length := by
    have := congrArg List.length (List.takeWhile_append_dropWhile (p := blankB) (l := l.reverse))
    rw [List.length_append] at this
    omega
  have h4 := tw_out h3
  have h5 : (l.reverse.dropWhile blankB)[0]'h2 = l.reverse[(l.reverse.takeWhile blankB).length]'h3 := by
    have h6 : (l.reverse.takeWhile blankB ++ l.reverse.dropWhile blankB)[(l.reverse.takeWhile blankB).length]'(by rw [List.length_append]; omega) = (l.reverse.dropWhile blankB)[0]'h2 := by
      rw [List.getElem_append_right (by omega)]
      simp
    rw [← h6]
    simp [List.takeWhile_append_dropWhile]
  rw [h5]
  exact h4
theorem parts_of (s : Tx) (f : Nat) (hf : f ≤ s.length) : ∃ tw rl, Parts s f (lineN s f) (remark ((s.drop f).take (lineN s f)) 0) tw rl := by
  obtain ⟨m, hm⟩ : ∃ m, m = lineN s f := ⟨_, rfl⟩
  obtain ⟨line, hline⟩ : ∃ line, line = (s.drop f).take m := ⟨_, rfl⟩
  obtain ⟨e, he⟩ : ∃ e, e = remark line 0 := ⟨_, rfl⟩
  obtain ⟨t, ht⟩ : ∃ t, t = line.take e := ⟨_, rfl⟩
  obtain ⟨r0, hr0⟩ : ∃ r0, r0 = t.dropWhile blankB := ⟨_, rfl⟩
  have hfm : f + m ≤ s.length := by rw [hm]; exact lineN_le s f hf
  have hll : line.length = m := by rw [hline, List.length_take, List.length_drop]; omega
  have hem : e ≤ m := by rw [he, ← hll]; exact remark_le line _ 0 rfl
  have htl : t.length = e := by rw [ht, List.length_take]; omega
  have htg : ∀ j (h : j < t.length) (h2 : f + j < s.length), t[j] = s[f + j] := fun j h h2 => by
    simp only [ht, hline, List.getElem_take, List.getElem_drop]
  have hs : t.takeWhile blankB ++ r0 = t := by rw [hr0, List.takeWhile_append_dropWhile]
  have htw : (t.takeWhile blankB).length + r0.length = e := by rw [← List.length_append, hs, htl]
  have hr := trimR_app r0
  have hrl : (trimR r0).length ≤ r0.length := by
    have := congrArg List.length hr
    rw [List.length_append] at this
    omega
  have r0g : ∀ k (h : k < r0.length) (h2 : f + (t.takeWhile blankB).length + k < s.length), r0[k] = s[f + (t.takeWhile blankB).length + k] := fun k h h2 => by
    have h3 := htg ((t.takeWhile blankB).length + k) (by omega) (by omega)
    have h4 : t[(t.takeWhile blankB).length + k]'(by omega) = r0[k] := by
      have h5 : (t.takeWhile blankB ++ r0)[(t.takeWhile blankB).length + k]'(by rw [List.length_append]; omega) = r0[k] := by
        rw [List.getElem_append_right (by omega)]
        simp
      rw [← h5]
      simp only [hs]
    rw [← h4, h3]
    congr 1
    omega
  have rtake : trimR r0 = (s.drop (f + (t.takeWhile blankB).length)).take (trimR r0).length := by
    have h1 : trimR r0 = r0.take (trimR r0).length := by
      have := congrArg (List.take (trimR r0).length) hr
      rw [List.take_left'] at this
      · exact this.symm
      · rfl
    have h2 : r0 = t.drop (t.takeWhile blankB).length := by rw [hr0, tw_drop]
    have h3 : (t.drop (t.takeWhile blankB).length).take (trimR r0).length = (s.drop (f + (t.takeWhile blankB).length)).take (trimR r0).length := by
      obtain ⟨k, hk⟩ : ∃ k, k = (t.takeWhile blankB).length := ⟨_, rfl⟩
      rw [← hk] at htw ⊢
      obtain ⟨q, hq⟩ : ∃ q, q = (trimR r0).length := ⟨_, rfl⟩
      rw [← hq] at hrl ⊢
      rw [ht, hline, List.take_take, List.drop_take, List.drop_drop, List.take_take, show min q (min e m - k) = q by omega]
    rw [← h3, ← h2]
    exact h1
  refine ⟨(t.takeWhile blankB).length, (trimR r0).length, ?_⟩
  rw [← hm, ← hline, ← he]
  refine ⟨hfm, hem, by omega, ?_, ?_, ?_, ?_, ?_⟩
  · have h1 : rowAt s f = if trimR r0 = [] then [] else [(trimR r0, f + (t.takeWhile blankB).length)] := by rw [hr0, ht, he, hline, hm]; rfl
    rw [h1]
    by_cases c : trimR r0 = []
    · rw [if_pos c, if_pos (by rw [c]; rfl)]
    · rw [if_neg c, if_neg (by simpa using c), ← rtake]
  · intro j h hj
    rw [← htg j (by omega) h]
    exact tw_in _ hj
  · intro h hj
    rw [← htg _ (by omega) h]
    exact tw_out (by omega)
  · intro x h h1 h2
    have h3 := r0g (x - (t.takeWhile blankB).length) (by omega) (by omega)
    have h4 : s[f + (t.takeWhile blankB).length + (x - (t.takeWhile blankB).length)]'(by omega) = s[f + x] := by congr 1; omega
    rw [h4] at h3
    rw [← h3]
    have h5 : r0[x - (t.takeWhile blankB).length]'(by omega) ∈ (r0.reverse.takeWhile blankB).reverse := by
      have h6 : (trimR r0 ++ (r0.reverse.takeWhile blankB).reverse)[x - (t.takeWhile blankB).length]'(by rw [← hr]; omega) = r0[x - (t.takeWhile blankB).length]'(by omega) := by simp only [← hr]
      rw [← h6, List.getElem_append_right (by omega)]
      exact List.getElem_mem _
    have h7 := List.mem_reverse.1 h5
    exact List.all_eq_true.1 (List.all_takeWhile ..) _ h7
  · intro h h1
    have h2 := trimR_last r0 h1
    have h3 := r0g ((trimR r0).length - 1) (by omega) (by omega)
    have h4 : s[f + (t.takeWhile blankB).length + ((trimR r0).length - 1)]'(by omega) = s[f + (t.takeWhile blankB).length + (trimR r0).length - 1] := by congr 1; omega
    rw [h4] at h3
    have h5 : (trimR r0)[(trimR r0).length - 1]'(by omega) = r0[(trimR r0).length - 1]'(by omega) := by
      have h6 : (trimR r0 ++ (r0.reverse.takeWhile blankB).reverse)[(trimR r0).length - 1]'(by rw [← hr]; omega) = r0[(trimR r0).length - 1]'(by omega) := by simp only [← hr]
      rw [← h6, List.getElem_append_left (by omega)]
    rw [h5, h3] at h2
    exact h2
theorem occ_line (s : Tx) (f m p : Nat) (h : p + 2 ≤ m) (hm : f + m ≤ s.length) : Lib.occAt ((s.drop f).take m) [47, 47] p = ((s.drop (f + p)).take 2 == [47, 47]) := by
  rw [Lib.occAt_iff_take _ _ _ (by simp; omega)]
  congr 1
  rw [List.drop_take, List.take_take, List.drop_drop]
  congr 1
  simp
  omega
end GrL
