/-
  Texts of one claim, merged.
-/
import Derived.Test.YtlflknfkenfpiaaGreatDoorR28
set_option linter.unusedSimpArgs false
set_option linter.unusedVariables false
namespace GrG
open Go Go.RowKit
def sgTop (G : Nat) (z : Nat → Nat) : Sg := fun i => if i < G then some (i, 0, z i) else none
theorem is_start {G : Nat} {M : Mem} {W : World} (z : Nat → Nat) (hM : M.next = G) (h0 : ∀ i, G ≤ i → M.objs.get i = none)
    (hrow : ∀ i o, M.objs.get i = some o → ∃ c cs t, o = .row none c ∧ W.heap[i]? = some (.cells cs t (0, 0)) ∧ cs.size = z i ∧ ∀ j a, c.get j = some a → ∃ v, cs[j]? = some v ∧ VRel (sgTop G z) a v) (hi : Nat) (hh : M.next ≤ hi) :
    Is W G (cxTop G) M hi ⟨sgTop G z, M.objs.get, W⟩ := by
  have lt : ∀ {i o}, M.objs.get i = some o → i < G := fun {i o} e => by
    rcases Nat.lt_or_ge i G with q | q
    · exact q
    · rw [h0 i q] at e
      cases e
  refine ⟨⟨fun i o e => ?_, fun i j x y b f z1 b' f' z2 e1 e2 hne s1 s2 => ?_, fun i x b f z1 hG e => ?_, Below.refl _ _⟩, fun i _ _ => rfl, fun i h1 h2 => ⟨h0 i (by omega), ?_⟩, fun i h => h, by omega, hh, fun g hg => ⟨z g, if_pos hg⟩, fun i h => h0 i (by omega), ?_⟩
  · obtain ⟨c, cs, t, rfl, h1, h2, h3⟩ := hrow i o e
    refine ⟨i, 0, z i, _, if_pos (lt e), h1, cs, t, rfl, (by rintro _ ⟨⟩), h2, fun j a hj => ?_⟩
    rw [Nat.zero_add]
    exact h3 j a hj
  · have s1 : sgTop G z i = some (b, f, z1) := s1
    have s2 : sgTop G z j = some (b', f', z2) := s2
    unfold sgTop at s1 s2
    rw [if_pos (lt e1)] at s1
    rw [if_pos (lt e2)] at s2
    cases s1
    cases s2
    exact hne
  · have := lt e
    omega
  · show sgTop G z i = none
    exact if_neg (by omega)
  · show G ≤ M.next
    omega
def valOf : AV → Value
  | .int k n => .int k n
  | .bool b => .bool b
  | .str s => .string (sB s)
  | _ => undef
def litOk : AV → Bool
  | .int _ _ => true
  | .bool _ => true
  | .str s => s.all fun x => decide (x < 256)
  | _ => false
theorem lit_rel {σ : Sg} {a : AV} (h : litOk a = true) : VRel σ a (valOf a) := by
  cases a <;> first
    | exact .int _ _
    | exact .bool _
    | (cases h; done)
    | exact .str _ fun x hx => of_decide_eq_true (List.all_eq_true.1 h x hx)
def RowAt (W : World) (g : Nat) (l : List AV) : Prop := ∃ cs t, W.heap[g]? = some (.cells cs t (0, 0)) ∧ ∀ (σ : Sg) (j : Nat) (a : AV), l[j]? = some a → ∃ v, cs[j]? = some v ∧ VRel σ a v
theorem rowAt_lit {W : World} {g : Nat} {l : List AV} (hl : l.all litOk = true) (h : ∃ t, W.heap[g]? = some (.cells (l.map valOf).toArray t (0, 0))) : RowAt W g l := by
  obtain ⟨t, h⟩ := h
  refine ⟨_, t, h, fun σ j a hj => ⟨valOf a, ?_, lit_rel (List.all_eq_true.1 hl a (List.mem_of_getElem? hj))⟩⟩
  simp [hj]
noncomputable def rowsOf (R : List (Nat × List AV)) (o : T Ob) : T Ob := R.foldl (fun o p => o.set p.1 (some (.row none (T.ofA p.2)))) o
theorem rowsOf_get {i : Nat} {x : Ob} : ∀ {R : List (Nat × List AV)} {o : T Ob}, (rowsOf R o).get i = some x → (∃ p ∈ R, p.1 = i ∧ x = .row none (T.ofA p.2)) ∨ o.get i = some x
  | [], o, h => .inr h
  | p :: R, o, h => by
    have h : (rowsOf R (o.set p.1 (some (.row none (T.ofA p.2))))).get i = some x := h
    rcases rowsOf_get h with ⟨q, h1, h2⟩ | h
    · exact .inl ⟨q, List.mem_cons_of_mem _ h1, h2⟩
    · rcases T.get_set _ _ _ _ _ h with ⟨h1, h2⟩ | h
      · refine .inl ⟨p, List.mem_cons_self .., h1.symm, ?_⟩
        cases h2
        rfl
      · exact .inr h
theorem is_rows {G : Nat} {R : List (Nat × List AV)} {W : World} (hlt : ∀ p ∈ R, p.1 < G) (hR : ∀ p ∈ R, RowAt W p.1 p.2) :
    ∃ σ, ∀ hi, G ≤ hi → Is W G (cxTop G) ⟨rowsOf R .leaf, G, [], []⟩ hi ⟨σ, (rowsOf R .leaf).get, W⟩ := by
  have get : ∀ {i x}, (rowsOf R .leaf).get i = some x → ∃ p ∈ R, p.1 = i ∧ x = .row none (T.ofA p.2) := fun {i x} h => by
    rcases rowsOf_get h with h | h
    · exact h
    · rw [T.get_leaf] at h
      cases h
  refine ⟨_, fun hi hh => is_start (G := G) (M := ⟨rowsOf R .leaf, G, [], []⟩) (fun g => match W.heap[g]? with
    | some (.cells cs _ _) => cs.size
    | _ => 0) rfl (fun i hG => ?_) (fun i o e => ?_) hi hh⟩
  · cases e : (rowsOf R .leaf).get i with
    | none => rfl
    | some x =>
      exfalso
      obtain ⟨p, h1, h2, _⟩ := get e
      have hG : G ≤ i := hG
      have := hlt p h1
      omega
  · obtain ⟨p, h1, rfl, rfl⟩ := get e
    obtain ⟨cs, t, h3, h4⟩ := hR p h1
    refine ⟨_, cs, t, rfl, h3, by rw [h3], fun j a hj => h4 _ j a (ofA_get hj)⟩
end GrG
