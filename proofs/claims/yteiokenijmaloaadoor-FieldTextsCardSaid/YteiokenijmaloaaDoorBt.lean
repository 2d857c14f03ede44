/-
  REGIONS THAT DRAW THEIR ORDER, further: the first n operations read and call quietly (in the class of worlds of XBq), and what follows stands in one order and may make or write memory. Over the library's own words for such regions (Derived/StillTail.lean), whose callees leave the very world.
-/
import Derived.Test.YteiokenijmaloaaDoorBr
import Derived.StillTail
set_option linter.unusedSimpArgs false
set_option linter.unusedVariables false
namespace Go.Proofs.YteiokenijmaloaaDoor
open Go.RowKit

section
variable {P : Program} {ops : Array Oper} {md : Region.Mode} {C : World → Prop}

/-- so many operations of the head, whichever comes up, each quiet; L behind them -/
def Heads (P : Program) (md : Region.Mode) (ops : Array Oper) (C : World → Prop) (n : Nat) (L : Array Bool → Act → Prop) : Nat → Array Bool → Act → Prop
  | 0, got, a => L got a
  | k + 1, got, a => Region.ready md ops got ≠ [] ∧ ∀ j, j ∈ Region.ready md ops got → j < n ∧ qOp P ops C j (Heads P md ops C n L k (got.setIfInBounds j true)) a

theorem Heads.any {n g : Nat} {L : Array Bool → Act → Prop} {Q : Exit → Act → World → Prop} (hL : ∀ got a w, C w → L got a → wpAny P md ops Q g got a w) (k : Nat) :
    ∀ got a w, C w → Heads P md ops C n L k got a → wpAny P md ops Q (k + g) got a w := by
  induction k with
  | zero => intro got a w hw h; rw [Nat.zero_add]; exact hL got a w hw h
  | succ k ih =>
    intro got a w hw h
    have e : k + 1 + g = (k + g) + 1 := by omega
    rw [e]
    exact ⟨fun none => (h.1 none).elim, fun j hj => wpOp_of_qOp hw (fun a' w' c h' => ih _ a' w' c h') (h.2 j hj).2⟩

/-- the facts that a region's head and tail stand under -/
structure Shape (md : Region.Mode) (ops : Array Oper) (n : Nat) : Prop where
  sel : Region.noSelect ops = true
  sink : Region.sinkB md ops n = true
  chain : Region.chainB md ops n = true
  lt : n < ops.size

theorem Shape.head {n i j : Nat} {got : Array Bool} (S : Shape md ops n) (inv : HeadInv md ops n got) (hi : i ∈ Region.ready md ops got) (hin : i < n) (hj : j ∈ Region.ready md ops got) : j < n := by
  rcases Nat.lt_or_ge j n with c | c
  · exact c
  · exact (tail_waits S.sink S.chain S.lt inv _ i rfl hin (mem_ready.1 hi).1 j c hj).elim

/-- AN OPERATION OF THE HEAD MAY BE TAKEN FIRST. -/
theorem Heads.first {n i : Nat} {o : Oper} {v : Value} {L : Array Bool → Act → Prop} (S : Shape md ops n) (hi : ops[i]? = some o) (hin : i < n)
    (done : ∀ got a, L got a → ∀ j ∈ Region.ready md ops got, n ≤ j) (k : Nat) :
    ∀ got a, HeadInv md ops n got →
      (∀ j p, ops[j]? = some p → j ≠ i → got.getD j true = false → (∀ e ∈ p.after, Region.binds md e = true → e.on ≠ i) → o.apart ops p = true) →
      i ∈ Region.ready md ops got → YieldsIn P ops C o v a →
      Heads P md ops C n L k (got.setIfInBounds i true) (a.put o.dst v) → Heads P md ops C n L (k + 1) got a := by
  induction k with
  | zero =>
    intro got a inv _ hr hy H
    refine ⟨fun none => (by rw [none] at hr; cases hr), fun j hj => ⟨S.head inv hr hin hj, ?_⟩⟩
    by_cases hji : j = i
    · subst hji; exact hy.qOp hi H
    · have h1 := done _ _ H j (ready_mono hj hji)
      have h2 := S.head inv hr hin hj
      omega
  | succ k ih =>
    intro got a inv apart hr hy H
    refine ⟨fun none => (by rw [none] at hr; cases hr), fun j hj => ⟨S.head inv hr hin hj, ?_⟩⟩
    by_cases hji : j = i
    · subst hji; exact hy.qOp hi H
    · obtain ⟨jun, p, hp, waits⟩ := mem_ready.1 hj
      have no : ∀ e ∈ p.after, Region.binds md e = true → e.on ≠ i := fun e he hb on => by
        have h1 := waits e he hb
        rw [on, getD_both (mem_ready.1 hr).1] at h1
        cases h1
      have h2 := qOp_put hp (apart j p hp hji jun no) (fun cs b => Region.noSelect_spec S.sel i o cs b hi) (fun cs b => Region.noSelect_spec S.sel j p cs b hp) hy (H.2 j (ready_mono hj hji)).2
      refine qOp_mono (fun a' h3 => ih (got.setIfInBounds j true) a' (inv.set hj (S.head inv hr hin hj)) (fun m q hq hmi hun hno => ?_) (ready_mono hr (Ne.symm hji)) h3.1 ?_) h2
      · refine apart m q hq hmi ?_ hno
        by_cases hjm : j = m
        · subst hjm; exact jun
        · rw [getD_set_ne true hjm] at hun; exact hun
      · rw [Array.setIfInBounds_comm _ _ hji]
        exact h3.2

theorem Heads.lex {n g : Nat} {R : Act → Prop} (S : Shape md ops n) :
    ∀ (os : List Oper) (k : Nat) (got : Array Bool) (a : Act), (∀ j, j < os.length → os[j]? = ops[k + j]?) → k + os.length = n → HeadInv md ops n got →
    Region.lexHead md ops g os.length k got = true → wpQuiet P ops C R os a →
    Heads P md ops C n (fun got' a' => Region.seqB md ops g n got' = true ∧ R a') os.length got a := by
  intro os
  induction os with
  | nil =>
    intro k got a _ hk _ hB h
    have e : k = n := by simpa using hk
    subst e
    exact ⟨by simpa [Region.lexHead] using hB, h⟩
  | cons o os ih =>
    intro k got a hl hk inv hB h
    have h0 : ops[k]? = some o := by simpa using (hl 0 (by simp)).symm
    simp only [List.length_cons] at hk
    simp only [List.length_cons, Region.lexHead, Bool.and_eq_true] at hB
    have hr : k ∈ Region.ready md ops got := by simpa using hB.1.1
    have hq : qOp P ops C k (wpQuiet P ops C R os) a := by unfold qOp; simp only [h0]; exact h
    obtain ⟨v, hy, hK⟩ := yieldsIn_of_qOp h0 hq
    refine Heads.first S h0 (by omega) (fun got' a' hL => seqB_ready hL.1) os.length got a inv (Region.free_spec h0 hB.1.2) hr hy (ih (k + 1) _ _ (fun j hj => ?_) (by omega) (inv.set hr (by omega)) hB.2 hK)
    have := hl (j + 1) (by simp; omega)
    simpa [Nat.add_assoc, Nat.add_comm 1 j] using this
end

/-- ONE WALK OF THE HEAD SERVES EVERY ORDER; the tail is walked in its own order, from every world of the class. -/
theorem wp_region_class_tail {P : Program} {id : Nat} {Q : Exit → Act → World → Prop} {a : Act} {w : World} {l : List Oper} (C : World → Prop) (hC : C { w with drawn := w.drawn + 1 }) (n : Nat) (hm : P.follows .mixedOrders = true) (hB : Region.lexTailB .any l.toArray n = true)
    (h : wpQuiet P l.toArray C (fun a' => ∀ w', C w' → wpList P l.toArray Q (l.drop n) a' w') (l.take n) a) : (Code.region id l.toArray true).wp P Q a w := by
  simp only [Region.lexTailB, Bool.and_eq_true, decide_eq_true_eq] at hB
  obtain ⟨⟨⟨⟨sel, lt⟩, sink⟩, chain⟩, lex⟩ := hB
  have S : Shape .any l.toArray n := ⟨sel, sink, chain, lt⟩
  have lt' : n < l.length := by simpa using lt
  have tk : (l.take n).length = n := by simp; omega
  have dr : (l.drop n).length = l.toArray.size - n := by simp
  have inv : HeadInv .any l.toArray n (Array.replicate l.toArray.size false) :=
    ⟨by simp, fun j p _ hj => (by rw [getD_replicate_false] at hj; cases hj), fun t _ ht => getD_in (by simpa using ht) (getD_replicate_false _ _)⟩
  have H := Heads.lex (md := .any) (g := l.toArray.size - n) S (l.take n) 0 _ a (fun j hj => by
    have hj' : j < n := by rw [tk] at hj; exact hj
    simp [hj']) (by simpa using tk) inv (by rw [tk]; exact lex) h
  refine wp_region_any hm ?_
  have := Heads.any (Q := Q) (g := l.toArray.size - n) (fun got a' w' hw' hL => by
    have := wpAny_of_seq (md := .any) (Q' := Q) (l.drop n) n got a' w' (fun j => by simp [List.getElem?_drop]) (by rw [dr]; exact hL.1) (hL.2 w' hw')
    rwa [dr] at this) _ _ _ { w with drawn := w.drawn + 1 } hC H
  rw [tk, show n + (l.toArray.size - n) = l.toArray.size by omega] at this
  exact this
theorem wp_region_wb_tail {P : Program} {id : Nat} {Q : Exit → Act → World → Prop} {a : Act} {w : World} {l : List Oper} (n : Nat) (hm : P.follows .mixedOrders = true) (hB : Region.lexTailB .any l.toArray n = true)
    (h : wpQuiet P l.toArray (fun w' => ∃ x : Wb w, w' = x.at) (fun a' => ∀ w', (∃ x : Wb w, w' = x.at) → wpList P l.toArray Q (l.drop n) a' w') (l.take n) a) : (Code.region id l.toArray true).wp P Q a w :=
  wp_region_class_tail _ ⟨⟨_, (Below.refl _ _).drew⟩, rfl⟩ n hm hB h
/-- .. in the class of the worlds that have drawn more: the world stays written out -/
theorem wp_region_drew_tail {P : Program} {id : Nat} {Q : Exit → Act → World → Prop} {a : Act} {w : World} {l : List Oper} (n : Nat) (hm : P.follows .mixedOrders = true) (hB : Region.lexTailB .any l.toArray n = true)
    (h : wpQuiet P l.toArray (fun w' => ∃ m, w' = w.drewN m) (fun a' => ∀ w', (∃ m, w' = w.drewN m) → wpList P l.toArray Q (l.drop n) a' w') (l.take n) a) : (Code.region id l.toArray true).wp P Q a w :=
  wp_region_class_tail _ ⟨1, rfl⟩ n hm hB h
end Go.Proofs.YteiokenijmaloaaDoor
