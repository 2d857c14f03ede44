/-
  REGIONS THAT DRAW THEIR ORDER, further: the first n operations read and call quietly (in the class of worlds of XBq), and what follows stands in one order and may make or write memory. Over the library's own words for such regions (Derived/StillTail.lean), whose callees leave the very world.
  REGIONS THAT DRAW THEIR ORDER, further: the first n operations read and call quietly (in the class of worlds of XBq), the next one makes a block (nothing need stand ahead of it: it may come up anywhere), what follows stands in one order.
-/
import Derived.Test.YtlpejfoeiaogcabGreatBr
import Derived.StillTail
import Derived.Eval
set_option linter.unusedSimpArgs false
set_option linter.unusedVariables false
namespace Go.Proofs.YtlpejfoeiaogcabGreat
open Go.RowKit

section
variable {P : Program} {ops : Array Oper} {md : Region.Mode} {C : World → Prop}

/-- so many operations of the head, whichever comes up, each quiet; L behind them -/
def Heads (P : Program) (md : Region.Mode) (ops : Array Oper) (C : World → Prop) (n : Nat) (L : Array Bool → Act → Prop) : Nat → Array Bool → Act → Prop
  | 0, got, a => L got a
  | k + 1, got, a => Region.ready md ops got ≠ [] ∧ ∀ j, j ∈ Region.ready md ops got → j < n ∧ qOp P ops C j (Heads P md ops C n L k (got.setIfInBounds j true)) a

theorem Heads.any {n g : Nat} {L : Array Bool → Act → Prop} {Q : Exit → Act → World → Prop} (hL : ∀ got a w, C w → L got a → wpAny P md ops Q g got a w) (k : Nat) :
    ∀ got a w, C w → Heads P md ops C n L k got a → wpAny P md ops Q (k + g) got a w := by
  induction k with
  | zero => intro got a w hw h; rw [Nat.zero_add]; exact hL got a w hw h
  | succ k ih =>
    intro got a w hw h
    have e : k + 1 + g = (k + g) + 1 := by omega
    rw [e]
    exact ⟨fun none => (h.1 none).elim, fun j hj => wpOp_of_qOp hw (fun a' w' c h' => ih _ a' w' c h') (h.2 j hj).2⟩

/-- the facts that a region's head and tail stand under -/
structure Shape (md : Region.Mode) (ops : Array Oper) (n : Nat) : Prop where
  sel : Region.noSelect ops = true
  sink : Region.sinkB md ops n = true
  chain : Region.chainB md ops n = true
  lt : n < ops.size

theorem Shape.head {n i j : Nat} {got : Array Bool} (S : Shape md ops n) (inv : HeadInv md ops n got) (hi : i ∈ Region.ready md ops got) (hin : i < n) (hj : j ∈ Region.ready md ops got) : j < n := by
  rcases Nat.lt_or_ge j n with c | c
  · exact c
  · exact (tail_waits S.sink S.chain S.lt inv _ i rfl hin (mem_ready.1 hi).1 j c hj).elim

/-- AN OPERATION OF THE HEAD MAY BE TAKEN FIRST. -/
theorem Heads.first {n i : Nat} {o : Oper} {v : Value} {L : Array Bool → Act → Prop} (S : Shape md ops n) (hi : ops[i]? = some o) (hin : i < n)
    (done : ∀ got a, L got a → ∀ j ∈ Region.ready md ops got, n ≤ j) (k : Nat) :
    ∀ got a, HeadInv md ops n got →
      (∀ j p, ops[j]? = some p → j ≠ i → got.getD j true = false → (∀ e ∈ p.after, Region.binds md e = true → e.on ≠ i) → o.apart ops p = true) →
      i ∈ Region.ready md ops got → YieldsIn P ops C o v a →
      Heads P md ops C n L k (got.setIfInBounds i true) (a.put o.dst v) → Heads P md ops C n L (k + 1) got a := by
  induction k with
  | zero =>
    intro got a inv _ hr hy H
    refine ⟨fun none => (by rw [none] at hr; cases hr), fun j hj => ⟨S.head inv hr hin hj, ?_⟩⟩
    by_cases hji : j = i
    · subst hji; exact hy.qOp hi H
    · have h1 := done _ _ H j (ready_mono hj hji)
      have h2 := S.head inv hr hin hj
      omega
  | succ k ih =>
    intro got a inv apart hr hy H
    refine ⟨fun none => (by rw [none] at hr; cases hr), fun j hj => ⟨S.head inv hr hin hj, ?_⟩⟩
    by_cases hji : j = i
    · subst hji; exact hy.qOp hi H
    · obtain ⟨jun, p, hp, waits⟩ := mem_ready.1 hj
      have no : ∀ e ∈ p.after, Region.binds md e = true → e.on ≠ i := fun e he hb on => by
        have h1 := waits e he hb
        rw [on, getD_both (mem_ready.1 hr).1] at h1
        cases h1
      have h2 := qOp_put hp (apart j p hp hji jun no) (fun cs b => Region.noSelect_spec S.sel i o cs b hi) (fun cs b => Region.noSelect_spec S.sel j p cs b hp) hy (H.2 j (ready_mono hj hji)).2
      refine qOp_mono (fun a' h3 => ih (got.setIfInBounds j true) a' (inv.set hj (S.head inv hr hin hj)) (fun m q hq hmi hun hno => ?_) (ready_mono hr (Ne.symm hji)) h3.1 ?_) h2
      · refine apart m q hq hmi ?_ hno
        by_cases hjm : j = m
        · subst hjm; exact jun
        · rw [getD_set_ne true hjm] at hun; exact hun
      · rw [Array.setIfInBounds_comm _ _ hji]
        exact h3.2

theorem Heads.lex {n g : Nat} {R : Act → Prop} (S : Shape md ops n) :
    ∀ (os : List Oper) (k : Nat) (got : Array Bool) (a : Act), (∀ j, j < os.length → os[j]? = ops[k + j]?) → k + os.length = n → HeadInv md ops n got →
    Region.lexHead md ops g os.length k got = true → wpQuiet P ops C R os a →
    Heads P md ops C n (fun got' a' => Region.seqB md ops g n got' = true ∧ R a') os.length got a := by
  intro os
  induction os with
  | nil =>
    intro k got a _ hk _ hB h
    have e : k = n := by simpa using hk
    subst e
    exact ⟨by simpa [Region.lexHead] using hB, h⟩
  | cons o os ih =>
    intro k got a hl hk inv hB h
    have h0 : ops[k]? = some o := by simpa using (hl 0 (by simp)).symm
    simp only [List.length_cons] at hk
    simp only [List.length_cons, Region.lexHead, Bool.and_eq_true] at hB
    have hr : k ∈ Region.ready md ops got := by simpa using hB.1.1
    have hq : qOp P ops C k (wpQuiet P ops C R os) a := by unfold qOp; simp only [h0]; exact h
    obtain ⟨v, hy, hK⟩ := yieldsIn_of_qOp h0 hq
    refine Heads.first S h0 (by omega) (fun got' a' hL => seqB_ready hL.1) os.length got a inv (Region.free_spec h0 hB.1.2) hr hy (ih (k + 1) _ _ (fun j hj => ?_) (by omega) (inv.set hr (by omega)) hB.2 hK)
    have := hl (j + 1) (by simp; omega)
    simpa [Nat.add_assoc, Nat.add_comm 1 j] using this
end

/-- ONE WALK OF THE HEAD SERVES EVERY ORDER; the tail is walked in its own order, from every world of the class. -/
theorem wp_region_class_tail {P : Program} {id : Nat} {Q : Exit → Act → World → Prop} {a : Act} {w : World} {l : List Oper} (C : World → Prop) (hC : C { w with drawn := w.drawn + 1 }) (n : Nat) (hm : P.follows .mixedOrders = true) (hB : Region.lexTailB .any l.toArray n = true)
    (h : wpQuiet P l.toArray C (fun a' => ∀ w', C w' → wpList P l.toArray Q (l.drop n) a' w') (l.take n) a) : (Code.region id l.toArray true).wp P Q a w := by
  simp only [Region.lexTailB, Bool.and_eq_true, decide_eq_true_eq] at hB
  obtain ⟨⟨⟨⟨sel, lt⟩, sink⟩, chain⟩, lex⟩ := hB
  have S : Shape .any l.toArray n := ⟨sel, sink, chain, lt⟩
  have lt' : n < l.length := by simpa using lt
  have tk : (l.take n).length = n := by simp; omega
  have dr : (l.drop n).length = l.toArray.size - n := by simp
  have inv : HeadInv .any l.toArray n (Array.replicate l.toArray.size false) :=
    ⟨by simp, fun j p _ hj => (by rw [getD_replicate_false] at hj; cases hj), fun t _ ht => getD_in (by simpa using ht) (getD_replicate_false _ _)⟩
  have H := Heads.lex (md := .any) (g := l.toArray.size - n) S (l.take n) 0 _ a (fun j hj => by
    have hj' : j < n := by rw [tk] at hj; exact hj
    simp [hj']) (by simpa using tk) inv (by rw [tk]; exact lex) h
  refine wp_region_any hm ?_
  have := Heads.any (Q := Q) (g := l.toArray.size - n) (fun got a' w' hw' hL => by
    have := wpAny_of_seq (md := .any) (Q' := Q) (l.drop n) n got a' w' (fun j => by simp [List.getElem?_drop]) (by rw [dr]; exact hL.1) (hL.2 w' hw')
    rwa [dr] at this) _ _ _ { w with drawn := w.drawn + 1 } hC H
  rw [tk, show n + (l.toArray.size - n) = l.toArray.size by omega] at this
  exact this
theorem wp_region_wb_tail {P : Program} {id : Nat} {Q : Exit → Act → World → Prop} {a : Act} {w : World} {l : List Oper} (n : Nat) (hm : P.follows .mixedOrders = true) (hB : Region.lexTailB .any l.toArray n = true)
    (h : wpQuiet P l.toArray (fun w' => ∃ x : Wb w, w' = x.at) (fun a' => ∀ w', (∃ x : Wb w, w' = x.at) → wpList P l.toArray Q (l.drop n) a' w') (l.take n) a) : (Code.region id l.toArray true).wp P Q a w :=
  wp_region_class_tail _ ⟨⟨_, (Below.refl _ _).drew⟩, rfl⟩ n hm hB h
/-- .. in the class of the worlds that have drawn more: the world stays written out -/
theorem wp_region_drew_tail {P : Program} {id : Nat} {Q : Exit → Act → World → Prop} {a : Act} {w : World} {l : List Oper} (n : Nat) (hm : P.follows .mixedOrders = true) (hB : Region.lexTailB .any l.toArray n = true)
    (h : wpQuiet P l.toArray (fun w' => ∃ m, w' = w.drewN m) (fun a' => ∀ w', (∃ m, w' = w.drewN m) → wpList P l.toArray Q (l.drop n) a' w') (l.take n) a) : (Code.region id l.toArray true).wp P Q a w :=
  wp_region_class_tail _ ⟨1, rfl⟩ n hm hB h
end Go.Proofs.YtlpejfoeiaogcabGreat

namespace Go.Proofs.YtlpejfoeiaogcabGreat
open Go.RowKit

/-! ### Two contracts of one call name one value -/
/-- a caller that is stuck at once -/
def dumb : Frame := { fn := 0, tmps := #[], todo := [.code (.exit 0)], defers := [], mode := .run, kind := .normal }
theorem step_dumb {P : Program} {w : World} (v : Value) : ∃ o w', step P (lone (dumb.finish v) [] w) = .ended o w' := by
  have h : (stepG P true { frame := dumb.finish v, callers := [], status := .running, dying := none } w).bare = .ended (.stuck "exit, goto: no such block or label" ((dumb.finish v).pos P)) w := rfl
  exact ⟨_, _, step_lone_ended h⟩

theorem leaving_later {P : Program} {fr fr' : Frame} {w w' : World} {v : Value} {d : Nat} (hl : fr.leaving P w (.returned v))
    (h : runN P d (lone fr [dumb] w) = .next (lone fr' [dumb] w')) : d = 0 := by
  match d with
  | 0 => rfl
  | 1 =>
    simp only [runN, step_leave_returned hl] at h
    injection h with h
    simp [lone] at h
  | d + 2 =>
    obtain ⟨o, w1, hs⟩ := step_dumb (P := P) (w := w) v
    simp only [runN, step_leave_returned hl, hs] at h
    cases h

theorem lone_inj {fr fr' : Frame} {cs cs' : List Frame} {w w' : World} (h : lone fr cs w = lone fr' cs' w') : fr = fr' ∧ w = w' := by
  simp only [lone, Machine.mk.injEq, Array.mk.injEq, List.cons.injEq, Goroutine.mk.injEq, and_true] at h
  exact ⟨h.2.1, h.1⟩

theorem leaving_value {P : Program} {fr : Frame} {w : World} {v v' : Value} (h : fr.leaving P w (.returned v)) (h' : fr.leaving P w (.returned v')) : v = v' := by
  obtain ⟨_, _, _, fn, hf, hr⟩ := h
  obtain ⟨_, _, _, fn', hf', hr'⟩ := h'
  rw [hf] at hf'
  injection hf' with hf'
  subst hf'
  rw [hr] at hr'
  injection hr'

theorem Calls.one {P : Program} {f : FuncId} {args : Array Value} {w : World} {v v' : Value} {R R' : World → Prop}
    (h : Calls P f args w fun e w' => e = .returned v ∧ R w') (h' : Calls P f args w fun e w' => e = .returned v' ∧ R' w') : v = v' := by
  obtain ⟨e, w1, fr, ⟨he, _⟩, hc, _, hl⟩ := h [dumb]
  obtain ⟨e', w2, fr', ⟨he', _⟩, hc', _, hl'⟩ := h' [dumb]
  subst he he'
  obtain ⟨n, hn⟩ := hc
  obtain ⟨m, hm⟩ := hc'
  rcases Nat.le_total n m with c | c
  · obtain ⟨d, rfl⟩ := Nat.exists_eq_add_of_le c
    rw [runN_add, hn] at hm
    have hd := leaving_later hl hm
    subst hd
    simp only [runN] at hm
    injection hm with hm
    obtain ⟨rfl, rfl⟩ := lone_inj hm
    exact leaving_value hl hl'
  · obtain ⟨d, rfl⟩ := Nat.exists_eq_add_of_le c
    rw [runN_add, hm] at hn
    have hd := leaving_later hl' hn
    subst hd
    simp only [runN] at hn
    injection hn with hn
    obtain ⟨rfl, rfl⟩ := lone_inj hn
    exact leaving_value hl hl'

/-! ### Operations that only make the world grow, with one value from every world of a class -/
section
variable {P : Program} {ops : Array Oper} {md : Region.Mode} {W : World}

/-- the class of XBq -/
def Cls (W : World) : World → Prop := fun w' => ∃ x : Wb W, w' = x.at

/-- in state a, from every world of the class, the operation yields v; a callee leaves a world that keeps what it found -/
def YieldsG (P : Program) (ops : Array Oper) (W : World) (o : Oper) (v : Value) (a : Act) : Prop :=
  (Region.wanted o (yielded ops a.tmps) = true ∧ ∀ y : Wb W, o.quietAt P a (Cls y.at) y.at v) ∨
  (Region.wanted o (yielded ops a.tmps) = false ∧ v = undef)

theorem Oper.quietAt_mono {o : Oper} {a : Act} {C C' : World → Prop} {w : World} {v : Value} (h : o.quietAt P a C w v) (hc : ∀ w', C w' → C' w') : o.quietAt P a C' w v := by
  unfold Oper.quietAt at *
  generalize (execOp a.eval o).run P w = r at *
  cases r with
  | ok n w' =>
    cases n <;> simp only [Oper.quietUpon] at h ⊢
    case value u => exact h
    case skip => exact h
    case enter f args => exact ⟨h.1, h.2.mono fun e w'' ⟨he, hw⟩ => ⟨he, hc _ hw⟩⟩
  | halt x w' => simp only [Oper.quietUpon] at h

theorem Oper.quietAt_one {o : Oper} {a : Act} {C C' : World → Prop} {w : World} {v v' : Value} (h : o.quietAt P a C w v) (h' : o.quietAt P a C' w v') : v = v' := by
  unfold Oper.quietAt at *
  generalize (execOp a.eval o).run P w = r at *
  cases r with
  | ok n w' =>
    cases n <;> simp only [Oper.quietUpon] at h h'
    case value u => exact h.2.symm.trans h'.2
    case skip => exact h.2.trans h'.2.symm
    case enter f args => exact Calls.one h.2 h'.2
  | halt x w' => simp only [Oper.quietUpon] at h

/-- a class that every later world of one of its worlds belongs to -/
theorem YieldsG.yields {o : Oper} {v : Value} {a : Act} {C : World → Prop} (h : YieldsG P ops W o v a) (hin : ∀ w, C w → Cls W w) (hup : ∀ w w', C w → Cls w w' → C w') : YieldsIn P ops C o v a := by
  rcases h with ⟨hw, h⟩ | h
  · refine .inl ⟨hw, fun w hc => ?_⟩
    obtain ⟨y, rfl⟩ := hin w hc
    exact Oper.quietAt_mono (h y) fun w' h' => hup _ w' hc h'
  · exact .inr h

theorem Cls.up {w w' : World} (h : Cls W w) (h' : Cls w w') : Cls W w' := by
  obtain ⟨x, rfl⟩ := h
  obtain ⟨z, rfl⟩ := h'
  obtain ⟨u, hu⟩ := Wb.next (x := x) z.bel
  exact ⟨u, hu⟩

theorem YieldsG.put {o p : Oper} {v u : Value} {a : Act} (hy : YieldsG P ops W o v a) (hs : ∀ cs b, o.op ≠ .select cs b) (h3 : ∀ d, p.dst = some d → d ∉ o.looksAt ops) : YieldsG P ops W o v (a.put p.dst u) := by
  unfold YieldsG Oper.quietAt at *
  rw [execOp_put o hs a p.dst u h3, wanted_put o a p.dst u h3]
  exact hy

/-- the walk of the text's order -/
def wpG (P : Program) (ops : Array Oper) (W : World) (R : Act → Prop) : List Oper → Act → Prop
  | [], a => R a
  | o :: rest, a => ∃ v, YieldsG P ops W o v a ∧ wpG P ops W R rest (a.put o.dst v)

theorem wpG_of_quiet {R : Act → Prop} : ∀ (os : List Oper) (a : Act), (∀ y : Wb W, wpQuiet P ops (Cls y.at) R os a) → wpG P ops W R os a
  | [], a, h => h ⟨W, Below.refl _ _⟩
  | o :: rest, a, h => by
    by_cases hw : Region.wanted o (yielded ops a.tmps) = true
    · have h0 := h ⟨W, Below.refl _ _⟩
      unfold wpQuiet at h0
      rw [if_pos hw] at h0
      obtain ⟨v, hv, _⟩ := h0
      have hk : ∀ y : Wb W, o.quietAt P a (Cls y.at) y.at v ∧ wpQuiet P ops (Cls y.at) R rest (a.put o.dst v) := fun y => by
        have h1 := h y
        unfold wpQuiet at h1
        rw [if_pos hw] at h1
        obtain ⟨v1, hv1, hr1⟩ := h1
        have e : v1 = v := Oper.quietAt_one (hv1 y.at ⟨⟨_, Below.refl _ _⟩, rfl⟩) (hv y.at ⟨y, rfl⟩)
        subst e
        exact ⟨hv1 _ ⟨⟨_, Below.refl _ _⟩, rfl⟩, hr1⟩
      exact ⟨v, .inl ⟨hw, fun y => (hk y).1⟩, wpG_of_quiet rest _ fun y => (hk y).2⟩
    · refine ⟨undef, .inr ⟨by simpa using hw, rfl⟩, wpG_of_quiet rest _ fun y => ?_⟩
      have h1 := h y
      unfold wpQuiet at h1
      rw [if_neg hw] at h1
      exact h1

/-! ### The block floats -/
/-- the worlds behind the block's making at z -/
def Born (z : World) (b : Obj) : World → Prop := Cls (z.alloc b)

theorem Born.cls {z : Wb W} {b : Obj} {w : World} (h : Born z.at b w) : Cls W w := by
  refine Cls.up ⟨⟨_, z.bel.alloc z.size b⟩, rfl⟩ h
def blockAt (w : World) : Value := .pointer (some ⟨w.heap.size, 0, none⟩)

/-- k operations of the head are left, the block's among them -/
def Floats (P : Program) (md : Region.Mode) (ops : Array Oper) (W : World) (n : Nat) (d : Option Tmp) (b : Obj) (L : Wb W → Array Bool → Act → Prop) : Nat → Array Bool → Act → Prop
  | 0, _, _ => False
  | k + 1, got, a => Region.ready md ops got ≠ [] ∧ ∀ j, j ∈ Region.ready md ops got → j < n + 1 ∧
      (j = n → ∀ z : Wb W, Heads P md ops (Born z.at b) (n + 1) (L z) k (got.setIfInBounds n true) (a.put d (blockAt z.at))) ∧
      (j ≠ n → qOp P ops (Cls W) j (Floats P md ops W n d b L k (got.setIfInBounds j true)) a)

/-- the block's own operation -/
structure Makes (P : Program) (ops : Array Oper) (n : Nat) (o : Oper) (b : Obj) : Prop where
  at' : ops[n]? = some o
  free : o.guard = none
  run : ∀ (a : Act) (w : World), (execOp a.eval o).run P w = .ok (.value (blockAt w)) (w.alloc b)
  noSel : ∀ cs b, o.op ≠ .select cs b

theorem Makes.wp {n : Nat} {o : Oper} {b : Obj} {Q : Exit → Act → World → Prop} {K : Act → World → Prop} {a : Act} {w : World} (M : Makes P ops n o b) (h : K (a.put o.dst (blockAt w)) (w.alloc b)) : wpOp P ops Q n K a w := by
  unfold wpOp
  simp only [M.at']
  have : Region.wanted o (yielded ops a.tmps) = true := by simp [Region.wanted, M.free]
  rw [if_pos this]
  refine .inl ?_
  unfold Oper.wp
  rw [M.run]
  exact h

theorem Floats.any {n g : Nat} {o : Oper} {b : Obj} {L : Wb W → Array Bool → Act → Prop} {Q : Exit → Act → World → Prop} (M : Makes P ops n o b)
    (hL : ∀ (z : Wb W) got a w, Born z.at b w → L z got a → wpAny P md ops Q g got a w) (k : Nat) :
    ∀ got a w, Cls W w → Floats P md ops W n o.dst b L k got a → wpAny P md ops Q (k + g) got a w := by
  induction k with
  | zero => intro got a w _ h; exact h.elim
  | succ k ih =>
    intro got a w hw h
    have e : k + 1 + g = (k + g) + 1 := by omega
    rw [e]
    refine ⟨fun none => (h.1 none).elim, fun j hj => ?_⟩
    obtain ⟨_, h1, h2⟩ := h.2 j hj
    by_cases c : j = n
    · subst c
      obtain ⟨z, rfl⟩ := hw
      exact M.wp (Heads.any (C := Born z.at b) (hL z) k _ _ _ ⟨⟨_, Below.refl _ _⟩, rfl⟩ (h1 rfl z))
    · exact wpOp_of_qOp hw (fun a' w' c' h' => ih _ a' w' c' h') (h2 c)

theorem qOp_shape {C : World → Prop} {j : Nat} {p : Oper} {K : Act → Prop} {a : Act} (hj : ops[j]? = some p) (h : qOp P ops C j K a) : qOp P ops C j (fun a' => (∃ u, a' = a.put p.dst u) ∧ K a') a := by
  unfold qOp at *
  simp only [hj] at h ⊢
  split
  · rename_i hw
    simp only [hw, if_true] at h
    obtain ⟨v, h1, h2⟩ := h
    exact ⟨v, h1, ⟨_, rfl⟩, h2⟩
  · rename_i hw
    simp only [hw] at h
    exact ⟨⟨_, rfl⟩, h⟩

theorem Floats.first {n i : Nat} {o p : Oper} {v : Value} {b : Obj} {L : Wb W → Array Bool → Act → Prop} (S : Shape md ops (n + 1)) (M : Makes P ops n p b) (hi : ops[i]? = some o) (hin : i < n)
    (done : ∀ z got a, L z got a → ∀ j ∈ Region.ready md ops got, n + 1 ≤ j) (k : Nat) :
    ∀ got a, HeadInv md ops (n + 1) got →
      (∀ j q, ops[j]? = some q → j ≠ i → got.getD j true = false → (∀ e ∈ q.after, Region.binds md e = true → e.on ≠ i) → o.apart ops q = true) →
      i ∈ Region.ready md ops got → YieldsG P ops W o v a →
      Floats P md ops W n p.dst b L k (got.setIfInBounds i true) (a.put o.dst v) → Floats P md ops W n p.dst b L (k + 1) got a := by
  have sel : ∀ (j : Nat) (q : Oper) cs d, ops[j]? = some q → q.op ≠ .select cs d := fun j q cs d h => Region.noSelect_spec S.sel j q cs d h
  induction k with
  | zero => intro got a _ _ _ _ H; exact H.elim
  | succ k ih =>
    intro got a inv apart hr hy H
    refine ⟨fun none => (by rw [none] at hr; cases hr), fun j hj => ⟨S.head inv hr (by omega) hj, fun hjn z => ?_, fun hjn => ?_⟩⟩
    · subst hjn
      have hji : j ≠ i := by omega
      obtain ⟨jun, q, hq, waits⟩ := mem_ready.1 hj
      have : q = p := Option.some.inj (hq.symm.trans M.at')
      subst this
      have no : ∀ e ∈ q.after, Region.binds md e = true → e.on ≠ i := fun e he hb on => by
        have h1 := waits e he hb
        rw [on, getD_both (mem_ready.1 hr).1] at h1
        cases h1
      obtain ⟨a1, a2, a3⟩ := Oper.apart_spec (apart j q hq hji jun no)
      have h1 := (H.2 j (ready_mono hj hji)).2.1 rfl z
      refine Heads.first S hi (by omega) (done z) k _ _ (inv.set hj (by omega)) (fun m r hm hmi hun hno => ?_) (ready_mono hr (Ne.symm hji)) ((hy.put (fun cs d => sel i o cs d hi) a3).yields (fun w h => Born.cls h) (fun w w' h h' => Cls.up h h')) ?_
      · refine apart m r hm hmi ?_ hno
        by_cases hjm : j = m
        · subst hjm; exact jun
        · rw [getD_set_ne true hjm] at hun; exact hun
      · rw [Array.setIfInBounds_comm _ _ hji, ← Act.put_comm a v _ a2]
        exact h1
    · by_cases hji : j = i
      · subst hji; exact (hy.yields (fun w h => h) (fun w w' h h' => Cls.up h h')).qOp hi H
      · obtain ⟨jun, q, hq, waits⟩ := mem_ready.1 hj
        have no : ∀ e ∈ q.after, Region.binds md e = true → e.on ≠ i := fun e he hb on => by
          have h1 := waits e he hb
          rw [on, getD_both (mem_ready.1 hr).1] at h1
          cases h1
        have ap := apart j q hq hji jun no
        obtain ⟨a1, a2, a3⟩ := Oper.apart_spec ap
        have h2 := qOp_shape hq (qOp_put hq ap (fun cs d => sel i o cs d hi) (fun cs d => sel j q cs d hq) (hy.yields (fun w h => h) (fun w w' h h' => Cls.up h h')) ((H.2 j (ready_mono hj hji)).2.2 hjn))
        refine qOp_mono (fun a' h3 => ?_) h2
        obtain ⟨⟨u, rfl⟩, _, h4⟩ := h3
        refine ih (got.setIfInBounds j true) _ (inv.set hj (S.head inv hr (by omega) hj)) (fun m r hm hmi hun hno => ?_) (ready_mono hr (Ne.symm hji)) (hy.put (fun cs d => sel i o cs d hi) a3) ?_
        · refine apart m r hm hmi ?_ hno
          by_cases hjm : j = m
          · subst hjm; exact jun
          · rw [getD_set_ne true hjm] at hun; exact hun
        · rw [Array.setIfInBounds_comm _ _ hji]
          exact h4

theorem Floats.lex {n g : Nat} {p : Oper} {b : Obj} {R : Act → Prop} {R' : Wb W → Act → Prop} (S : Shape md ops (n + 1)) (M : Makes P ops n p b) (hR : ∀ a (z : Wb W), R a → R' z (a.put p.dst (blockAt z.at))) :
    ∀ (os : List Oper) (k : Nat) (got : Array Bool) (a : Act), (∀ j, j < os.length → os[j]? = ops[k + j]?) → k + os.length = n → HeadInv md ops (n + 1) got →
    Region.lexHead md ops g (os.length + 1) k got = true → wpG P ops W R os a →
    Floats P md ops W n p.dst b (fun z got' a' => Region.seqB md ops g (n + 1) got' = true ∧ R' z a') (os.length + 1) got a := by
  intro os
  induction os with
  | nil =>
    intro k got a _ hk inv hB h
    have e : k = n := by simpa using hk
    subst e
    simp only [List.length_nil, Nat.zero_add, Region.lexHead, Bool.and_eq_true] at hB
    have hr : k ∈ Region.ready md ops got := by simpa using hB.1.1
    refine ⟨fun none => (by rw [none] at hr; cases hr), fun j hj => ⟨S.head inv hr (by omega) hj, fun _ z => ⟨hB.2, hR _ z h⟩, fun hjk => ?_⟩⟩
    have h1 := seqB_ready hB.2 j (ready_mono hj hjk)
    have h2 := S.head inv hr (by omega) hj
    omega
  | cons o os ih =>
    intro k got a hl hk inv hB h
    have h0 : ops[k]? = some o := by simpa using (hl 0 (by simp)).symm
    simp only [List.length_cons] at hk
    simp only [List.length_cons] at hB
    rw [Region.lexHead] at hB
    simp only [Bool.and_eq_true] at hB
    have hr : k ∈ Region.ready md ops got := by simpa using hB.1.1
    obtain ⟨v, hy, hK⟩ := h
    refine Floats.first S M h0 (by omega) (fun z got' a' hL => seqB_ready hL.1) (os.length + 1) got a inv (Region.free_spec h0 hB.1.2) hr hy (ih (k + 1) _ _ (fun j hj => ?_) (by omega) (inv.set hr (by omega)) hB.2 hK)
    have := hl (j + 1) (by simp; omega)
    simpa [Nat.add_assoc, Nat.add_comm 1 j] using this
end

/-- ONE WALK OF THE HEAD SERVES EVERY ORDER, the block's making anywhere; the tail from every world behind the block. -/
theorem wp_region_wb_block {P : Program} {id : Nat} {Q : Exit → Act → World → Prop} {a : Act} {w : World} {l : List Oper} (n : Nat) (p : Oper) (b : Obj) (hm : P.follows .mixedOrders = true) (hB : Region.lexTailB .any l.toArray (n + 1) = true)
    (hp : l[n]? = some p) (hg : p.guard = none) (hrun : ∀ (a : Act) (w : World), (execOp a.eval p).run P w = .ok (.value (.pointer (some ⟨w.heap.size, 0, none⟩))) (w.alloc b)) (hs : ∀ cs d, p.op ≠ .select cs d)
    (h : ∀ y : Wb w, wpQuiet P l.toArray (fun w' => ∃ x : Wb y.at, w' = x.at) (fun a' => ∀ (z : Wb w) (x : Wb (z.at.alloc b)), wpList P l.toArray Q (l.drop (n + 1)) (a'.put p.dst (.pointer (some ⟨z.at.heap.size, 0, none⟩))) x.at) (l.take n) a) :
    (Code.region id l.toArray true).wp P Q a w := by
  simp only [Region.lexTailB, Bool.and_eq_true, decide_eq_true_eq] at hB
  obtain ⟨⟨⟨⟨sel, lt⟩, sink⟩, chain⟩, lex⟩ := hB
  have S : Shape .any l.toArray (n + 1) := ⟨sel, sink, chain, lt⟩
  have M : Makes P l.toArray n p b := ⟨by simpa using hp, hg, hrun, hs⟩
  have lt' : n + 1 < l.length := by simpa using lt
  have tk : (l.take n).length = n := by simp; omega
  have dr : (l.drop (n + 1)).length = l.toArray.size - (n + 1) := by simp
  have inv : HeadInv .any l.toArray (n + 1) (Array.replicate l.toArray.size false) :=
    ⟨by simp, fun j p _ hj => (by rw [getD_replicate_false] at hj; cases hj), fun t _ ht => getD_in (by simpa using ht) (getD_replicate_false _ _)⟩
  have H := Floats.lex (md := .any) (g := l.toArray.size - (n + 1)) (W := w) (p := p) (b := b)
    (R := fun a' => ∀ (z : Wb w) (x : Wb (z.at.alloc b)), wpList P l.toArray Q (l.drop (n + 1)) (a'.put p.dst (blockAt z.at)) x.at)
    (R' := fun z a' => ∀ x : Wb (z.at.alloc b), wpList P l.toArray Q (l.drop (n + 1)) a' x.at)
    S M (fun a' z h' => h' z) (l.take n) 0 _ a (fun j hj => by
    have hj' : j < n := by rw [tk] at hj; exact hj
    simp [hj']) (by simpa using tk) inv (by rw [tk]; exact lex) (wpG_of_quiet _ _ h)
  refine wp_region_any hm ?_
  have := Floats.any (W := w) (Q := Q) (g := l.toArray.size - (n + 1)) M (fun z got a' w' hw' hL => by
    obtain ⟨x, rfl⟩ := hw'
    have := wpAny_of_seq (md := .any) (Q' := Q) (l.drop (n + 1)) (n + 1) got a' x.at (fun j => by simp [List.getElem?_drop]) (by rw [dr]; exact hL.1) (hL.2 x)
    rwa [dr] at this) _ _ _ { w with drawn := w.drawn + 1 } ⟨⟨_, (Below.refl _ _).drew⟩, rfl⟩ H
  rw [tk, show n + 1 + (l.toArray.size - (n + 1)) = l.toArray.size by omega] at this
  exact this
end Go.Proofs.YtlpejfoeiaogcabGreat
