/-
  Texts of one claim, merged.
-/
import Derived.Test.YtlflknfkenfpiaaGreatDoorR32
import Derived.OpenShut
import Derived.ChangeArms
import Derived.Shelf.Vars
set_option linter.unusedSimpArgs false
set_option linter.unusedVariables false
namespace GrG
open Go Go.RowKit
def flatI (P : Program) (self : TypeId → DataW Unit → Option (List Value)) : List (TypeId × Nat × DataW Unit) → Nat → Option (List Value)
  | [], _ => some []
  | x :: r, o => match self x.1 x.2.2 with
    | some l => match Nat.beq x.2.1 o, Nat.beq l.length (P.cellsOf x.1), flatI P self r (o + l.length) with
      | true, true, some m => some (l ++ m)
      | _, _, _ => none
    | none => none
def arrI (e c : Nat) : List (DataW Unit) → Nat → List (TypeId × Nat × DataW Unit)
  | [], _ => []
  | d :: ds, i => (e, i * c, d) :: arrI e c ds (i + 1)
def strI : List Field → List (DataW Unit) → List (TypeId × Nat × DataW Unit)
  | f :: fs, d :: ds => (f.type, f.offset, d) :: strI fs ds
  | _, _ => []
def flatT (P : Program) : Nat → TypeId → DataW Unit → Option (List Value)
  | 0, _, _ => none
  | k + 1, t, d => match P.underlying t, d with
    | some .bool, .lit (.bool b) => some [.bool b]
    | some (.int _), .lit (.int i n) => some [.int i n]
    | some .string, .lit (.string s) => some [.string ⟨s.toArray⟩]
    | some (.array _ e), .agg ds => match flatI P (flatT P k) (arrI e (P.cellsOf e) ds 0) 0 with
      | some l => match Nat.beq l.length (P.cellsOf t) with
        | true => some l
        | false => none
      | none => none
    | some (.struct fs), .agg ds => match flatI P (flatT P k) (strI fs.toList ds) 0 with
      | some l => match Nat.beq l.length (P.cellsOf t) with
        | true => some l
        | false => none
      | none => none
    | _, _ => none
section
variable {P : Program} {W : World} {enc : TypeId × Value → Unit} {base : Nat} {sp : Nat → Bool} {held : Bool}
def FlatOk (P : Program) (W : World) (enc : TypeId × Value → Unit) (base : Nat) (sp : Nat → Bool) (held : Bool) (self : TypeId → DataW Unit → Option (List Value)) : Prop :=
  ∀ t d l, self t d = some l → ∀ m cs p, DataW.trod enc P W base sp held m t cs = some (d, p) → cs = l
theorem flatI_ok {self : TypeId → DataW Unit → Option (List Value)} (ih : FlatOk P W enc base sp held self) {cs : List Value} : ∀ {items : List (TypeId × Nat × DataW Unit)} {o : Nat} {l : List Value},
    (∀ x ∈ items, ∃ m p, DataW.trod enc P W base sp held m x.1 ((cs.drop x.2.1).take (P.cellsOf x.1)) = some (x.2.2, p)) → flatI P self items o = some l → (cs.drop o).take l.length = l
  | [], o, l, _, e => by
    simp only [flatI, Option.some.injEq] at e
    subst e
    simp
  | x :: r, o, l, h, e => by
    simp only [flatI] at e
    split at e
    · next l0 e0 =>
      split at e
      · next m e1 e2 e3 =>
        simp only [Option.some.injEq] at e
        subst e
        obtain ⟨f, p, hp⟩ := h x (List.mem_cons_self ..)
        have h1 := ih _ _ _ e0 _ _ _ hp
        rw [beq_t e1, ← beq_t e2] at h1
        have h2 := flatI_ok ih (fun y hy => h y (List.mem_cons_of_mem _ hy)) e3
        rw [List.length_append, List.take_add, List.drop_drop, h1, h2]
      · cases e
    · cases e
theorem arrI_mem {e c : Nat} : ∀ {ds : List (DataW Unit)} {i : Nat} {x : TypeId × Nat × DataW Unit}, x ∈ arrI e c ds i → ∃ j, ∃ h : j < ds.length, x = (e, (i + j) * c, ds[j])
  | [], _, _, h => by cases h
  | d :: ds, i, x, h => by
    simp only [arrI] at h
    rcases List.mem_cons.1 h with rfl | h
    · exact ⟨0, by simp, by simp⟩
    · obtain ⟨j, hj, rfl⟩ := arrI_mem h
      exact ⟨j + 1, by simpa using hj, by rw [show i + (j + 1) = i + 1 + j by omega]; rfl⟩
theorem strI_mem : ∀ {fs : List Field} {ds : List (DataW Unit)} {x : TypeId × Nat × DataW Unit}, x ∈ strI fs ds → ∃ (j : Nat) (f : Field) (d : DataW Unit), fs[j]? = some f ∧ ds[j]? = some d ∧ x = (f.type, f.offset, d)
  | [], _, _, h => by cases h
  | _ :: _, [], _, h => by cases h
  | f :: fs, d :: ds, x, h => by
    simp only [strI] at h
    rcases List.mem_cons.1 h with rfl | h
    · exact ⟨0, f, d, rfl, rfl, rfl⟩
    · obtain ⟨j, f', d', h1, h2, h3⟩ := strI_mem h
      exact ⟨j + 1, f', d', h1, h2, h3⟩
theorem flatT_ok : ∀ k, FlatOk P W enc base sp held (flatT P k)
  | 0, _, _, _, e => by cases e
  | k + 1, t, d, l, e => fun m cs p h => by
    have ih := flatT_ok k
    simp only [flatT] at e
    split at e
    · next hu =>
      simp only [Option.some.injEq] at e
      subst e
      obtain ⟨b', rfl, h2⟩ := DataW.trod_bool hu h
      cases h2
      rfl
    · next hu =>
      simp only [Option.some.injEq] at e
      subst e
      obtain ⟨n', rfl, h2, _⟩ := DataW.trod_int hu h
      cases h2
      rfl
    · next hu =>
      simp only [Option.some.injEq] at e
      subst e
      obtain ⟨s', rfl, h2, _⟩ := DataW.trod_string hu h
      cases h2
      simp
    · next hu =>
      split at e
      · next l0 e0 =>
        split at e
        · next e1 =>
          simp only [Option.some.injEq] at e
          subst e
          obtain ⟨xs, m', _, hx, hl, hlen, hel⟩ := DataW.trod_array hu h
          cases hx
          have := flatI_ok ih (cs := cs) (fun x hx => by
            obtain ⟨j, hj, rfl⟩ := arrI_mem hx
            have hj' : j < xs.length := by simpa using hj
            have h1 := hel j (by omega)
            rw [List.getElem?_eq_getElem hj'] at h1
            refine ⟨m', xs[j].2, ?_⟩
            simp only [Nat.zero_add, List.getElem_map]
            exact h1) e0
          rw [List.drop_zero, beq_t e1, ← hl, List.take_length] at this
          exact this
        · cases e
      · cases e
    · next fs ds hu =>
      split at e
      · next l0 e0 =>
        split at e
        · next e1 =>
          simp only [Option.some.injEq] at e
          subst e
          obtain ⟨xs, m', _, hx, hl, hlen, hel⟩ := DataW.trod_struct hu h
          cases hx
          have := flatI_ok ih (cs := cs) (fun x hx => by
            obtain ⟨j, f, d, h1, h2, rfl⟩ := strI_mem hx
            rw [List.getElem?_map] at h2
            obtain ⟨y, h3, rfl⟩ := Option.map_eq_some_iff.1 h2
            have h4 := hel j f (by rw [← Array.getElem?_toList]; exact h1)
            rw [h3] at h4
            exact ⟨m', y.2, h4⟩) e0
          rw [List.drop_zero, beq_t e1, ← hl, List.take_length] at this
          exact this
        · cases e
      · cases e
    · cases e
theorem laidVars_get : ∀ {laid : List (String × DataW Unit)} {ps : List MemPlace}, DataW.LaidVars P W laid ps → ∀ x ∈ laid, ∃ g t cs f p, P.globalNamed x.1 = some g ∧ (P.globals[g]?).map (·.type) = some t ∧ W.var? P x.1 = some cs ∧ DataW.trod (fun _ => ()) P W 0 (fun _ => true) false f t cs.toList = some (x.2, p)
  | [], _, _, x, h => by cases h
  | y :: r, ps, h, x, hx => by
    obtain ⟨g, t, cs, f, p, q, h1, h2, h3, h4, h5, _⟩ := h
    rcases List.mem_cons.1 hx with rfl | hx
    · exact ⟨g, t, cs, f, p, h1, h2, h3, h4⟩
    · exact laidVars_get h5 x hx
theorem shaped_block {g t : Nat} (hsh : W.ShapedOpen P) (hg : g < P.globals.size) (h0 : (((begin P (fun _ _ => 0) default).world.heap[g]?).bind Obj.row?).map (·.2) = some t) : ∃ cs, W.heap[g]? = some (.cells cs t (0, 0)) := by
  obtain ⟨x, h1, h2⟩ := Option.map_eq_some_iff.1 h0
  obtain ⟨cs, hh, _⟩ := hsh.1 g x.1 x.2 hg h1
  exact ⟨cs, by rw [hh, h2]⟩
theorem rowAt_laid {n : String} {g t : Nat} {d : DataW Unit} {l : List AV} {laid : List (String × DataW Unit)} {ps : List MemPlace} (hL : DataW.LaidVars P W laid ps) (hsh : W.ShapedOpen P) (hm : (n, d) ∈ laid) (hn : P.globalNamed n = some g) (ht : (P.globals[g]?).map (·.type) = some t)
    (hg : g < P.globals.size) (h0 : (((begin P (fun _ _ => 0) default).world.heap[g]?).bind Obj.row?).map (·.2) = some t) (hl : l.all litOk = true) (hf : flatT P 6 t d = some (l.map valOf)) : RowAt W g l := by
  obtain ⟨g', t', cs, f, p, h1, h2, h3, h4⟩ := laidVars_get hL _ hm
  have e1 := Option.some.inj (hn.symm.trans h1)
  subst e1
  have e2 := Option.some.inj (ht.symm.trans h2)
  subst e2
  obtain ⟨cs', hb⟩ := shaped_block hsh hg h0
  have e3 : cs' = cs := by
    unfold World.var? at h3
    rw [hn] at h3
    simp only [Option.bind_some, hb, Option.some.injEq] at h3
    exact h3
  subst e3
  have := flatT_ok 6 _ _ _ hf _ _ _ h4
  exact rowAt_lit hl ⟨t, by rw [hb, ← this]⟩
end
end GrG
