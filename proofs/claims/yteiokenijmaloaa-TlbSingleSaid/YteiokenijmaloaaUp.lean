/-
  Layer 9, numbers: no two entries of a list that was filled may serve one access, just if no two of them meet.
-/
import Derived.Test.YteiokenijmaloaaUa
set_option linter.unusedSimpArgs false
set_option linter.unusedVariables false
namespace GrT
def meets (a b : E) : Bool := (covers a b.page || covers b a.page) && ((a.space == b.space) || (!own a || !own b))
def selfs (e : E) : Prop := covers e e.page = true
theorem down_down (p a b : Int) (h : a ≤ b) : GrF.down (GrF.down p a) b = GrF.down p b := by
  unfold GrF.down
  congr 1
  unfold GrF.downN
  refine Nat.eq_of_testBit_eq fun i => ?_
  rw [GrF.num_testBit, GrF.num_testBit]
  simp only [Int.toNat_natCast, GrF.num_testBit]
  by_cases c : i < 64
  · by_cases d : i < b.toNat
    · simp [c, d]
    · have d2 : ¬ i < a.toNat := by omega
      simp [c, d, d2]
  · simp [c]
theorem size_two (f : Int) : size f = 12 ∨ size f = 21 := by unfold size; split <;> simp
/-- two that have one address lie in one another -/
theorem both_cover {x y : E} {p : Int} (hx : covers x p = true) (hy : covers y p = true) : covers x y.page = true ∨ covers y x.page = true := by
  unfold covers at *
  simp only [beq_iff_eq] at *
  rw [← hx, ← hy]
  rcases size_two x.first with a | a <;> rcases size_two y.first with b | b <;> rw [a, b]
  · exact .inl (down_down _ _ _ (by omega))
  · exact .inr (down_down _ _ _ (by omega))
  · exact .inl (down_down _ _ _ (by omega))
  · exact .inl (down_down _ _ _ (by omega))
theorem both_serve {x y : E} {s p : Int} (hx : serves x s p = true) (hy : serves y s p = true) : meets x y = true := by
  unfold serves at hx hy
  simp only [Bool.and_eq_true, Bool.or_eq_true, beq_iff_eq, Bool.not_eq_true'] at hx hy
  unfold meets
  simp only [Bool.and_eq_true, Bool.or_eq_true, beq_iff_eq, Bool.not_eq_true']
  refine ⟨both_cover hx.1 hy.1, ?_⟩
  rcases hx.2 with a | a
  · rcases hy.2 with b | b
    · exact .inl (a.trans b.symm)
    · exact .inr (.inr b)
  · exact .inr (.inl a)
/-- two that meet serve one access: at the address of one, in the space of one -/
theorem meet_serve {x y : E} (sx : selfs x) (sy : selfs y) (h : meets x y = true) : ∃ a b : E, (a = x ∨ a = y) ∧ (b = x ∨ b = y) ∧ serves x a.space b.page = true ∧ serves y a.space b.page = true := by
  unfold selfs at sx sy
  unfold meets at h
  simp only [Bool.and_eq_true, Bool.or_eq_true, beq_iff_eq, Bool.not_eq_true'] at h
  have k : ∃ b : E, (b = x ∨ b = y) ∧ covers x b.page = true ∧ covers y b.page = true := by
    rcases h.1 with c | c
    · exact ⟨y, .inr rfl, c, sy⟩
    · exact ⟨x, .inl rfl, sx, c⟩
  obtain ⟨b, hb, c1, c2⟩ := k
  unfold serves
  simp only [Bool.and_eq_true, Bool.or_eq_true, beq_iff_eq, Bool.not_eq_true']
  rcases h.2 with e | e | e
  · exact ⟨x, b, .inl rfl, hb, ⟨c1, .inl rfl⟩, c2, .inl e.symm⟩
  · exact ⟨y, b, .inr rfl, hb, ⟨c1, .inr e⟩, c2, .inl rfl⟩
  · exact ⟨x, b, .inl rfl, hb, ⟨c1, .inl rfl⟩, c2, .inr e⟩
theorem filter_one {α : Type} (f : α → Bool) : ∀ L : List α, (L.filter f).length ≤ 1 ↔ L.Pairwise (fun a b => ¬ (f a = true ∧ f b = true))
  | [] => by simp
  | a :: L => by
    rw [List.pairwise_cons, List.filter_cons]
    by_cases c : f a = true
    · rw [if_pos c, List.length_cons]
      constructor
      · intro h
        have e : L.filter f = [] := List.eq_nil_of_length_eq_zero (by omega)
        rw [List.filter_eq_nil_iff] at e
        exact ⟨fun b hb k => e b hb k.2, (filter_one f L).1 (by rw [List.filter_eq_nil_iff.2 e]; simp)⟩
      · intro h
        have e : L.filter f = [] := List.filter_eq_nil_iff.2 fun b hb k => h.1 b hb ⟨c, k⟩
        rw [e]; simp
    · rw [if_neg c, filter_one f L]
      exact ⟨fun h => ⟨fun b _ k => c k.1, h⟩, fun h => h.2⟩
/-- the program's way and the page's -/
theorem single_iff {L : List E} (hs : ∀ e ∈ L, selfs e) : L.Pairwise (fun a b => meets a b = false) ↔ ∀ a ∈ L, ∀ b ∈ L, (L.filter fun e => serves e a.space b.page).length ≤ 1 := by
  constructor
  · intro h a _ b _
    rw [filter_one]
    refine h.imp fun {x y} hm k => ?_
    rw [both_serve k.1 k.2] at hm
    cases hm
  · intro h
    rw [List.pairwise_iff_getElem]
    intro i j hi hj lt
    cases c : meets L[i] L[j] with
    | false => rfl
    | true =>
      obtain ⟨a, b, ha, hb, s1, s2⟩ := meet_serve (hs _ (List.getElem_mem hi)) (hs _ (List.getElem_mem hj)) c
      have ma : a ∈ L := by rcases ha with rfl | rfl <;> exact List.getElem_mem _
      have mb : b ∈ L := by rcases hb with rfl | rfl <;> exact List.getElem_mem _
      have p := (filter_one (fun e => serves e a.space b.page) L).1 (h a ma b mb)
      rw [List.pairwise_iff_getElem] at p
      exact absurd ⟨s1, s2⟩ (p i j hi hj lt)
/-- what was filled has its own address -/
theorem fill_selfs {s va f l : Int} (h : fillOk f l = true) : selfs (fillE s va f l) := by
  unfold selfs fillE
  rw [if_pos h]
  have k := kept_level h
  split
  · rename_i c
    unfold covers size
    simp only [k.1 c, if_true, beq_iff_eq]
    exact down_down _ _ _ (by omega)
  · rename_i c
    unfold covers size
    have b : ¬ block f = true := fun d => c (k.2 d)
    simp only [b, if_false, beq_iff_eq]
    exact down_down _ _ _ (by omega)
end GrT
