/-
  SLICES: a value that leads to a row of cells, wherever it lies.
-/
import Derived.Test.YtlpejfoeiaogcabGreatBx
import Derived.Laws.AppendOwn
import Derived.LoopTactic
import Derived.Handy
set_option linter.unusedSimpArgs false
set_option linter.unusedVariables false
namespace Go.Proofs.YtlpejfoeiaogcabGreat
open Go.RowKit

/-- v is a slice of n elements of K cells each, which hold xs -/
def SlAt (W : World) (v : Value) (K n : Nat) (xs : List Value) : Prop :=
  xs.length = n * K ∧ ((v = .slice none 0 0 ∧ n = 0) ∨ ∃ a cap, v = .slice (some a) n cap ∧ n ≤ cap ∧ cap ≤ maxLen ∧ ∀ j u, xs[j]? = some u → W.cell? (a.add j) = some u)
theorem add_block (a : Addr) (j : Nat) : (a.add j).block = a.block := by unfold Addr.add; split <;> rfl
theorem add_add (a : Addr) (i j : Nat) : (a.add i).add j = a.add (i + j) := by
  unfold Addr.add
  by_cases hi : i = 0 <;> by_cases hj : j = 0 <;> simp [hi, hj, Nat.add_assoc]
theorem add_one (a : Addr) : a.add 1 = ⟨a.block, a.off + 1, none⟩ := by unfold Addr.add; simp
theorem add_succ (a : Addr) (i : Nat) : a.add (i + 1) = ⟨a.block, a.off + (i + 1), none⟩ := by unfold Addr.add; simp
theorem SlAt.keep {W U : World} {v : Value} {K n : Nat} {xs : List Value} (h : SlAt W v K n xs) (k : ∀ b u o, W.cell? ⟨b, o, none⟩ = some u → U.heap[b]? = W.heap[b]?) (k' : ∀ (a : Addr) u, W.cell? a = some u → U.heap[a.block]? = W.heap[a.block]?) : SlAt U v K n xs := by
  obtain ⟨h1, h2 | ⟨a, cap, e, hc, hm, hx⟩⟩ := h
  · exact ⟨h1, .inl h2⟩
  · refine ⟨h1, .inr ⟨a, cap, e, hc, hm, fun j u hj => ?_⟩⟩
    have := hx j u hj
    rw [World.cell?_of_block (w := W) (k' _ _ this)]
    exact this
theorem SlAt.below {W U : World} {v : Value} {K n : Nat} {xs : List Value} (h : SlAt W v K n xs) (k : Below W.heap.size W U) : SlAt U v K n xs :=
  h.keep (fun b u o hc => k.block b (World.block_lt_of_cell? W _ hc)) (fun a u hc => k.block a.block (World.block_lt_of_cell? W _ hc))
theorem SlAt.upto {W U : World} {m : Nat} {v : Value} {K n : Nat} {xs : List Value} (h : SlAt W v K n xs) (k : Below m W U) (hm : W.heap.size ≤ m) : SlAt U v K n xs := h.below (k.mono hm)
theorem SlAt.len {W : World} {v : Value} {K n : Nat} {xs : List Value} (h : SlAt W v K n xs) : xs.length = n * K := h.1
theorem SlAt.own {W : World} {base : Nat} {e : TypeId} {K n : Nat} {v : Value} {xs : List Value} (h : W.ownsRow base e K v n xs) : SlAt W v K n xs := by
  have hc := fun g (hg : v.ownBlock = some g) => World.ownsRow.cells h hg
  obtain ⟨h1, ⟨rfl, h0⟩ | ⟨g, cap, cur, rfl, hb, _, hn, hm, _⟩⟩ := h
  · exact ⟨h1, .inl ⟨rfl, h0⟩⟩
  · exact ⟨h1, .inr ⟨⟨g, 0, none⟩, cap, rfl, hn, hm, fun j u hj => hc g rfl j u hj⟩⟩
/-- a slice does not lie in block b -/
def NB (v : Value) (b : Nat) : Prop := ∀ a n cap, v = .slice (some a) n cap → a.block ≠ b
theorem NB.nil (b : Nat) : NB (.slice none 0 0) b := fun _ _ _ h => by cases h
theorem SlAt.set {W : World} {v : Value} {K n : Nat} {xs : List Value} (h : SlAt W v K n xs) {C : Nat} (hn : NB v C) (i : Nat) (u : Value) : SlAt (W.setCell ⟨C, i, none⟩ u) v K n xs := by
  obtain ⟨h1, h2 | ⟨a, cap, e, hc, hm, hx⟩⟩ := h
  · exact ⟨h1, .inl h2⟩
  · refine ⟨h1, .inr ⟨a, cap, e, hc, hm, fun j w hj => ?_⟩⟩
    refine (World.cell?_setCell_other _ _ _ _ (fun e2 => ?_)).trans (hx j w hj)
    have := congrArg Addr.block e2
    rw [add_block] at this
    exact hn a n cap e this.symm
theorem SlAt.form {W : World} {v : Value} {K n : Nat} {xs : List Value} (h : SlAt W v K n xs) : ∃ p m c, v = .slice p m c := by
  obtain ⟨_, ⟨rfl, _⟩ | ⟨a, cap, rfl, _⟩⟩ := h
  · exact ⟨_, _, _, rfl⟩
  · exact ⟨_, _, _, rfl⟩
theorem SlAt.nil (W : World) (K : Nat) : SlAt W (.slice none 0 0) K 0 [] := ⟨by simp, .inl ⟨rfl, rfl⟩⟩
theorem own_keep {w w' : World} {base : Nat} {e : TypeId} {size : Nat} {v : Value} {n : Nat} {xs : List Value} (h : w.ownsRow base e size v n xs) (k : ∀ g, base ≤ g → g < w.heap.size → w'.heap[g]? = w.heap[g]?) : w'.ownsRow base e size v n xs := by
  obtain ⟨h1, h2 | ⟨g, cap, cur, e, hb, hg, rest⟩⟩ := h
  · exact ⟨h1, .inl h2⟩
  · have hlt : g < w.heap.size := by
      by_cases c : g < w.heap.size
      · exact c
      · rw [Array.getElem?_eq_none (by omega)] at hg
        cases hg
    exact ⟨h1, .inr ⟨g, cap, cur, e, hb, (k g hb hlt).trans hg, rest⟩⟩
theorem own_below {w w' : World} {base : Nat} {e : TypeId} {size : Nat} {v : Value} {n : Nat} {xs : List Value} (h : w.ownsRow base e size v n xs) (k : Below w.heap.size w w') : w'.ownsRow base e size v n xs := own_keep h fun g _ hg => k.block g hg
theorem own_set {w : World} {base : Nat} {e : TypeId} {size : Nat} {v : Value} {n : Nat} {xs : List Value} (h : w.ownsRow base e size v n xs) {C : Nat} (hC : C < base) (i : Nat) (u : Value) : (w.setCell ⟨C, i, none⟩ u).ownsRow base e size v n xs :=
  own_keep h fun g hb _ => heap_setCell_other w _ g u (by show g ≠ C; omega)
theorem own_base {w : World} {base b : Nat} {e : TypeId} {size : Nat} {v : Value} {n : Nat} {xs : List Value} (h : w.ownsRow base e size v n xs) (hb : b ≤ base) : w.ownsRow b e size v n xs := by
  obtain ⟨h1, h2 | ⟨g, cap, cur, e, hg, rest⟩⟩ := h
  · exact ⟨h1, .inl h2⟩
  · exact ⟨h1, .inr ⟨g, cap, cur, e, by omega, rest⟩⟩
theorem app_cell (w : World) (u0 : Value) (T : TypeId) : ∀ j u, ([u0] : List Value)[j]? = some u → (w.alloc (.cells #[u0] T)).cell? ((⟨w.heap.size, 0, none⟩ : Addr).add j) = some u := by
  intro j u h
  cases j with
  | zero => simp at h; subst h; simp [Addr.add, World.cell?_alloc_new]
  | succ j => simp at h
theorem info_parts {P : Program} {T : TypeId} {z : Value} {s b : Nat} (h : (P.info? T).map (fun i => (i.zero, i.size, i.bytes)) = some (some z, s, b)) : ∃ i, P.info? T = some i ∧ i.zero = some z ∧ i.size = s ∧ i.bytes = b := by
  obtain ⟨i, hi, hb⟩ := Option.map_eq_some_iff.1 h
  simp only [Prod.mk.injEq] at hb
  exact ⟨i, hi, hb.1, hb.2.1, hb.2.2⟩
theorem wrap64_small (n : Int) (h0 : -9223372036854775808 ≤ n) (h1 : n ≤ 9223372036854775807) : wrap64 n = n := by
  exact IntWalk.wrap64_in _ ⟨by omega, by omega⟩
theorem own_open {w : World} {base : Nat} {e : TypeId} {v : Value} {K n : Nat} {xs : List Value} (h : w.ownsRow base e K v n xs) :
    (v = .slice none 0 0 ∧ n = 0) ∨ ∃ g cap, v = .slice (some ⟨g, 0, none⟩) n cap ∧ base ≤ g ∧ g < w.heap.size ∧ ∀ j u, xs[j]? = some u → w.cell? ⟨g, j, none⟩ = some u := by
  have hc := fun g (hg : v.ownBlock = some g) => World.ownsRow.cells h hg
  have hl := fun g (hg : v.ownBlock = some g) => h.lt g hg
  obtain ⟨_, ⟨rfl, h0⟩ | ⟨g, cap, cur, rfl, hb, _⟩⟩ := h
  · exact .inl ⟨rfl, h0⟩
  · refine .inr ⟨g, cap, rfl, hb, (hl g rfl).2, fun j u hj => ?_⟩
    have := hc g rfl j u hj
    have e : (⟨g, 0, none⟩ : Addr).add j = ⟨g, j, none⟩ := by unfold Addr.add; split <;> simp_all
    rwa [e] at this
end Go.Proofs.YtlpejfoeiaogcabGreat
