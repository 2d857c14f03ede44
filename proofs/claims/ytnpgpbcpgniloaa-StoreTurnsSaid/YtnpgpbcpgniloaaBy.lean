/-
  REGIONS THAT DRAW THEIR ORDER, INSIDE A FENCE: the first n operations read, and what follows stands in one order (the last one may be a call of yield). XBt's text, its words turned to the fenced ones.
-/
import Derived.Test.YtnpgpbcpgniloaaBt
import Derived.Sort.BigQuietIn
import Derived.OwnWalkIn
set_option linter.unusedSimpArgs false
set_option linter.unusedVariables false
namespace Go.Proofs.Ytnpgpbcpgniloaa
open Go.RowKit

section
variable {F : Fence} {n0 : Nat} {P : Program} {ops : Array Oper} {md : Region.Mode} {C : World → Prop}

theorem wpAnyIn_of_seq {Q' : Exit → Act → World → Prop} : ∀ (l : List Oper) (k : Nat) (listed : Array Bool) (a : Act) (w : World), (∀ j, l[j]? = ops[k + j]?) →
    Region.seqB md ops l.length k listed = true → wpListIn F n0 P ops Q' l a w → wpAnyIn F n0 P md ops Q' l.length listed a w
  | [], _, _, _, _, _, hB, h => ⟨by simpa [Region.seqB] using hB, h⟩
  | o :: l, k, listed, a, w, hl, hB, h => by
    have h0 : ops[k]? = some o := by simpa using (hl 0).symm
    simp only [List.length_cons, Region.seqB, Bool.and_eq_true, decide_eq_true_eq] at hB
    refine ⟨fun h1 => (by rw [hB.1] at h1; cases h1), fun i hi => ?_⟩
    rw [hB.1] at hi
    have hik : i = k := by simpa using hi
    subst hik
    have hw : wpOpIn F n0 P ops Q' i (wpListIn F n0 P ops Q' l) a w := by unfold wpOpIn; simp only [h0]; exact h
    exact wpOpIn_mono (fun a' w' h' => wpAnyIn_of_seq l (i + 1) _ a' w' (fun j => by have := hl (j + 1); simpa [Nat.add_assoc, Nat.add_comm 1 j] using this) hB.2 h') hw

def HeadsIn (F : Fence) (n0 : Nat) (P : Program) (md : Region.Mode) (ops : Array Oper) (C : World → Prop) (n : Nat) (L : Array Bool → Act → Prop) : Nat → Array Bool → Act → Prop
  | 0, got, a => L got a
  | k + 1, got, a => Region.ready md ops got ≠ [] ∧ ∀ j, j ∈ Region.ready md ops got → j < n ∧ qOpIn F n0 P ops C j (HeadsIn F n0 P md ops C n L k (got.setIfInBounds j true)) a

theorem HeadsIn.any {n g : Nat} {L : Array Bool → Act → Prop} {Q : Exit → Act → World → Prop} (hro : F.round = none) (hL : ∀ got a w, C w → L got a → wpAnyIn F n0 P md ops Q g got a w) (k : Nat) :
    ∀ got a w, C w → HeadsIn F n0 P md ops C n L k got a → wpAnyIn F n0 P md ops Q (k + g) got a w := by
  induction k with
  | zero => intro got a w hw h; rw [Nat.zero_add]; exact hL got a w hw h
  | succ k ih =>
    intro got a w hw h
    have e : k + 1 + g = (k + g) + 1 := by omega
    rw [e]
    exact ⟨fun none => (h.1 none).elim, fun j hj => wpOpIn_of_qOpIn hro hw (fun a' w' c h' => ih _ a' w' c h') (h.2 j hj).2⟩

theorem HeadsIn.first {n i : Nat} {o : Oper} {v : Value} {L : Array Bool → Act → Prop} (S : Shape md ops n) (hi : ops[i]? = some o) (hin : i < n)
    (done : ∀ got a, L got a → ∀ j ∈ Region.ready md ops got, n ≤ j) (k : Nat) :
    ∀ got a, HeadInv md ops n got →
      (∀ j p, ops[j]? = some p → j ≠ i → got.getD j true = false → (∀ e ∈ p.after, Region.binds md e = true → e.on ≠ i) → o.apart ops p = true) →
      i ∈ Region.ready md ops got → YieldsQuiet F n0 P ops C o v a →
      HeadsIn F n0 P md ops C n L k (got.setIfInBounds i true) (a.put o.dst v) → HeadsIn F n0 P md ops C n L (k + 1) got a := by
  induction k with
  | zero =>
    intro got a inv _ hr hy H
    refine ⟨fun none => (by rw [none] at hr; cases hr), fun j hj => ⟨S.head inv hr hin hj, ?_⟩⟩
    by_cases hji : j = i
    · subst hji; exact hy.qOpIn hi H
    · have h1 := done _ _ H j (ready_mono hj hji)
      have h2 := S.head inv hr hin hj
      omega
  | succ k ih =>
    intro got a inv apart hr hy H
    refine ⟨fun none => (by rw [none] at hr; cases hr), fun j hj => ⟨S.head inv hr hin hj, ?_⟩⟩
    by_cases hji : j = i
    · subst hji; exact hy.qOpIn hi H
    · obtain ⟨jun, p, hp, waits⟩ := mem_ready.1 hj
      have no : ∀ e ∈ p.after, Region.binds md e = true → e.on ≠ i := fun e he hb on => by
        have h1 := waits e he hb
        rw [on, getD_both (mem_ready.1 hr).1] at h1
        cases h1
      have h2 := qOpIn_put hp (apart j p hp hji jun no) (fun cs b => Region.noSelect_spec S.sel i o cs b hi) (fun cs b => Region.noSelect_spec S.sel j p cs b hp) hy (H.2 j (ready_mono hj hji)).2
      refine qOpIn_mono (fun a' h3 => ih (got.setIfInBounds j true) a' (inv.set hj (S.head inv hr hin hj)) (fun m q hq hmi hun hno => ?_) (ready_mono hr (Ne.symm hji)) h3.1 ?_) h2
      · refine apart m q hq hmi ?_ hno
        by_cases hjm : j = m
        · subst hjm; exact jun
        · rw [getD_set_ne true hjm] at hun; exact hun
      · rw [Array.setIfInBounds_comm _ _ hji]
        exact h3.2

theorem HeadsIn.lex {n g : Nat} {R : Act → Prop} (S : Shape md ops n) :
    ∀ (os : List Oper) (k : Nat) (got : Array Bool) (a : Act), (∀ j, j < os.length → os[j]? = ops[k + j]?) → k + os.length = n → HeadInv md ops n got →
    Region.lexHead md ops g os.length k got = true → wpQuietIn F n0 P ops C R os a →
    HeadsIn F n0 P md ops C n (fun got' a' => Region.seqB md ops g n got' = true ∧ R a') os.length got a := by
  intro os
  induction os with
  | nil =>
    intro k got a _ hk _ hB h
    have e : k = n := by simpa using hk
    subst e
    exact ⟨by simpa [Region.lexHead] using hB, h⟩
  | cons o os ih =>
    intro k got a hl hk inv hB h
    have h0 : ops[k]? = some o := by simpa using (hl 0 (by simp)).symm
    simp only [List.length_cons] at hk
    simp only [List.length_cons, Region.lexHead, Bool.and_eq_true] at hB
    have hr : k ∈ Region.ready md ops got := by simpa using hB.1.1
    have hq : qOpIn F n0 P ops C k (wpQuietIn F n0 P ops C R os) a := by unfold qOpIn; simp only [h0]; exact h
    obtain ⟨v, hy, hK⟩ := yieldsQuiet_of_qOpIn h0 hq
    refine HeadsIn.first S h0 (by omega) (fun got' a' hL => seqB_ready hL.1) os.length got a inv (Region.free_spec h0 hB.1.2) hr hy (ih (k + 1) _ _ (fun j hj => ?_) (by omega) (inv.set hr (by omega)) hB.2 hK)
    have := hl (j + 1) (by simp; omega)
    simpa [Nat.add_assoc, Nat.add_comm 1 j] using this
end

/-- ONE WALK OF THE HEAD SERVES EVERY ORDER; the tail is walked in its own order. -/
theorem wpIn_region_drew_tail {F : Fence} {n0 : Nat} {P : Program} {id : Nat} {Q : Exit → Act → World → Prop} {a : Act} {w : World} {l : List Oper} (hro : F.round = none) (n : Nat) (hm : P.follows .mixedOrders = true) (hB : Region.lexTailB .any l.toArray n = true)
    (h : wpQuietIn F n0 P l.toArray (fun w' => ∃ m, w' = w.drewN m) (fun a' => ∀ w', (∃ m, w' = w.drewN m) → wpListIn F n0 P l.toArray Q (l.drop n) a' w') (l.take n) a) : (Code.region id l.toArray true).wpIn F n0 P Q a w := by
  simp only [Region.lexTailB, Bool.and_eq_true, decide_eq_true_eq] at hB
  obtain ⟨⟨⟨⟨sel, lt⟩, sink⟩, chain⟩, lex⟩ := hB
  have S : Shape .any l.toArray n := ⟨sel, sink, chain, lt⟩
  have lt' : n < l.length := by simpa using lt
  have tk : (l.take n).length = n := by simp; omega
  have dr : (l.drop n).length = l.toArray.size - n := by simp
  have inv : HeadInv .any l.toArray n (Array.replicate l.toArray.size false) :=
    ⟨by simp, fun j p _ hj => (by rw [getD_replicate_false] at hj; cases hj), fun t _ ht => getD_in (by simpa using ht) (getD_replicate_false _ _)⟩
  have H := HeadsIn.lex (F := F) (n0 := n0) (C := fun w' => ∃ m, w' = w.drewN m) (md := .any) (g := l.toArray.size - n) S (l.take n) 0 _ a (fun j hj => by
    have hj' : j < n := by rw [tk] at hj; exact hj
    simp [hj']) (by simpa using tk) inv (by rw [tk]; exact lex) h
  refine wpIn_region_any hm ?_
  have := HeadsIn.any (F := F) (n0 := n0) (P := P) (ops := l.toArray) (md := .any) (C := fun w' => ∃ m, w' = w.drewN m) (n := n) (g := l.toArray.size - n)
    (L := fun got' a' => Region.seqB .any l.toArray (l.toArray.size - n) n got' = true ∧ ∀ w', (∃ m, w' = w.drewN m) → wpListIn F n0 P l.toArray Q (l.drop n) a' w') (Q := Q) hro (fun got a' w' hw' hL => by
    have := wpAnyIn_of_seq (F := F) (n0 := n0) (P := P) (ops := l.toArray) (md := .any) (Q' := Q) (l.drop n) n got a' w' (fun j => by simp [List.getElem?_drop]) (by rw [dr]; exact hL.1) (hL.2 w' hw')
    rwa [dr] at this) (l.take n).length (Array.replicate l.toArray.size false) a { w with drawn := w.drawn + 1 } ⟨1, rfl⟩ H
  rw [tk, show n + (l.toArray.size - n) = l.toArray.size by omega] at this
  exact this

/-! ### .. within a round too: no operation is a defer statement -/
def noDefer (l : List Oper) : Bool := l.all fun o => match o.op with | .defer _ => false | _ => true
theorem noDefer_at {l : List Oper} (h : noDefer l = true) {i : Nat} {o : Oper} (hi : l[i]? = some o) : ∀ c, o.op ≠ .defer c := fun c e => by
  have := List.all_eq_true.1 h o (List.mem_of_getElem? hi)
  rw [e] at this
  cases this
section
variable {F : Fence} {n0 : Nat} {P : Program} {ops : Array Oper} {md : Region.Mode} {C : World → Prop}
theorem wpIn_of_quietD {o : Oper} {a : Act} {K : Act → Prop} {K' : Act → World → Prop} {Q' : Exit → Act → World → Prop} {w : World} (hD : ∀ c, o.op ≠ .defer c) (hw : C w) (h : ∀ a w', C w' → K a → K' a w')
    (ha : o.askedIn F P a C) (hh : o.quietIn F n0 P a C K) : o.wpIn F n0 P a w K' Q' := by
  obtain ⟨v, h1, h2⟩ := hh
  have h3 := h1 w hw
  unfold Oper.quietAtIn at h3
  unfold Oper.wpIn
  refine ⟨ha w hw, ?_⟩
  rw [Oper.semAt_plain F _ _ hD]
  generalize (execOp a.eval o).run P w = r at *
  cases r with
  | ok x w' =>
    cases x <;> simp only [Oper.quietUponIn] at h3 <;> simp only [Oper.uponIn]
    case value u =>
      obtain ⟨e1, e2⟩ := h3
      rw [e1, e2]
      exact h _ _ hw h2
    case skip =>
      obtain ⟨e1, e2⟩ := h3
      rw [e1, ← e2]
      exact h _ _ hw h2
    case enter f args =>
      obtain ⟨e1, hd, hc⟩ := h3
      rw [e1]
      exact ⟨hd, hc.mono fun e w'' ⟨he, hw''⟩ => by subst he; exact h _ _ hw'' h2⟩
  | halt x w' => simp only [Oper.quietUponIn] at h3
theorem wpOpIn_of_qOpInD {i : Nat} {a : Act} {K : Act → Prop} {K' : Act → World → Prop} {Q' : Exit → Act → World → Prop} {w : World} (hD : ∀ o, ops[i]? = some o → ∀ c, o.op ≠ .defer c) (hC : C w) (h : ∀ a w', C w' → K a → K' a w')
    (hh : qOpIn F n0 P ops C i K a) : wpOpIn F n0 P ops Q' i K' a w := by
  unfold qOpIn at hh
  unfold wpOpIn
  split
  · rename_i ho; simp only [ho] at hh; exact h _ _ hC hh
  · rename_i o ho
    simp only [ho] at hh
    obtain ⟨ha, hh⟩ := hh
    split
    · rename_i hw; simp only [hw, if_true] at hh; exact wpIn_of_quietD (hD o ho) hC h ha hh
    · rename_i hw; simp only [hw] at hh; exact ⟨ha w hC, h _ _ hC hh⟩
theorem HeadsIn.anyD {n g : Nat} {L : Array Bool → Act → Prop} {Q : Exit → Act → World → Prop} (hD : ∀ (i : Nat) (o : Oper), ops[i]? = some o → ∀ c, o.op ≠ .defer c) (hL : ∀ got a w, C w → L got a → wpAnyIn F n0 P md ops Q g got a w) (k : Nat) :
    ∀ got a w, C w → HeadsIn F n0 P md ops C n L k got a → wpAnyIn F n0 P md ops Q (k + g) got a w := by
  induction k with
  | zero => intro got a w hw h; rw [Nat.zero_add]; exact hL got a w hw h
  | succ k ih =>
    intro got a w hw h
    have e : k + 1 + g = (k + g) + 1 := by omega
    rw [e]
    exact ⟨fun none => (h.1 none).elim, fun j hj => wpOpIn_of_qOpInD (fun o ho => hD j o ho) hw (fun a' w' c h' => ih _ a' w' c h') (h.2 j hj).2⟩
end
theorem wpIn_region_drew_tailD {F : Fence} {n0 : Nat} {P : Program} {id : Nat} {Q : Exit → Act → World → Prop} {a : Act} {w : World} {l : List Oper} (n : Nat) (hD : noDefer l = true) (hm : P.follows .mixedOrders = true) (hB : Region.lexTailB .any l.toArray n = true)
    (h : wpQuietIn F n0 P l.toArray (fun w' => ∃ m, w' = w.drewN m) (fun a' => ∀ w', (∃ m, w' = w.drewN m) → wpListIn F n0 P l.toArray Q (l.drop n) a' w') (l.take n) a) : (Code.region id l.toArray true).wpIn F n0 P Q a w := by
  simp only [Region.lexTailB, Bool.and_eq_true, decide_eq_true_eq] at hB
  obtain ⟨⟨⟨⟨sel, lt⟩, sink⟩, chain⟩, lex⟩ := hB
  have S : Shape .any l.toArray n := ⟨sel, sink, chain, lt⟩
  have lt' : n < l.length := by simpa using lt
  have tk : (l.take n).length = n := by simp; omega
  have dr : (l.drop n).length = l.toArray.size - n := by simp
  have inv : HeadInv .any l.toArray n (Array.replicate l.toArray.size false) :=
    ⟨by simp, fun j p _ hj => (by rw [getD_replicate_false] at hj; cases hj), fun t _ ht => getD_in (by simpa using ht) (getD_replicate_false _ _)⟩
  have H := HeadsIn.lex (F := F) (n0 := n0) (C := fun w' => ∃ m, w' = w.drewN m) (md := .any) (g := l.toArray.size - n) S (l.take n) 0 _ a (fun j hj => by
    have hj' : j < n := by rw [tk] at hj; exact hj
    simp [hj']) (by simpa using tk) inv (by rw [tk]; exact lex) h
  refine wpIn_region_any hm ?_
  have := HeadsIn.anyD (F := F) (n0 := n0) (P := P) (ops := l.toArray) (md := .any) (C := fun w' => ∃ m, w' = w.drewN m) (n := n) (g := l.toArray.size - n)
    (L := fun got' a' => Region.seqB .any l.toArray (l.toArray.size - n) n got' = true ∧ ∀ w', (∃ m, w' = w.drewN m) → wpListIn F n0 P l.toArray Q (l.drop n) a' w') (Q := Q) (fun i o hi => noDefer_at hD (by simpa using hi)) (fun got a' w' hw' hL => by
    have := wpAnyIn_of_seq (F := F) (n0 := n0) (P := P) (ops := l.toArray) (md := .any) (Q' := Q) (l.drop n) n got a' w' (fun j => by simp [List.getElem?_drop]) (by rw [dr]; exact hL.1) (hL.2 w' hw')
    rwa [dr] at this) (l.take n).length (Array.replicate l.toArray.size false) a { w with drawn := w.drawn + 1 } ⟨1, rfl⟩ H
  rw [tk, show n + (l.toArray.size - n) = l.toArray.size by omega] at this
  exact this
end Go.Proofs.Ytnpgpbcpgniloaa
