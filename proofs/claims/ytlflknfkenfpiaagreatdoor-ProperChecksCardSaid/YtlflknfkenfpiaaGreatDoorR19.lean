/-
  Texts of one claim, merged.
-/
import Derived.Test.YtlflknfkenfpiaaGreatDoorR17
import Derived.RangeFuncLeaves
import Derived.OrdersIn
import Derived.LoopNIn
set_option linter.unusedSimpArgs false
set_option linter.unusedVariables false
namespace GrG
open Go Go.RowKit
theorem calls_fw {ro : Option Nat} {n : Nat} {P : Program} {f : FuncId} {args : Array Value} {w : World} {R : Ending → World → Prop} (h : CallsIn (fw none) n P f args w R) : CallsIn (fw ro) n P f args w R := h
def Ex.to : Ex → Exit
  | .normal => .normal
  | .ret => .ret
  | .exit id => .exit id
def Rs.In : Rs → Ex → T AV → Mem → Prop
  | .no, _, _, _ => False
  | .one x L M, x', L', M' => x' = x ∧ L' = L ∧ M' = M
  | .many l, x', L', M' => (x', L', M') ∈ l
structure Rs.All (r : Rs) (p : Ex → T AV → Mem → Prop) : Prop where
  ex : ∃ x L M, r.In x L M
  all : ∀ x L M, r.In x L M → p x L M
def R1.In : R1 → AV → Mem → Prop
  | .no, _, _ => False
  | .one v M, v', M' => v' = v ∧ M' = M
  | .many l, v', M' => (v', M') ∈ l
  | .dfr _ _, _, _ => False
structure R1.All (r : R1) (p : AV → Mem → Prop) : Prop where
  ex : ∃ v M, r.In v M
  all : ∀ v M, r.In v M → p v M
theorem Rs.All.mono {r : Rs} {p q : Ex → T AV → Mem → Prop} (h : r.All p) (k : ∀ x L M, p x L M → q x L M) : r.All q := ⟨h.ex, fun x L M e => k x L M (h.all x L M e)⟩
theorem R1.All.mono {r : R1} {p q : AV → Mem → Prop} (h : r.All p) (k : ∀ v M, p v M → q v M) : r.All q := ⟨h.ex, fun v M e => k v M (h.all v M e)⟩
theorem Rs.in_no {r : Rs} {x : Ex} {L : T AV} {M : Mem} (h : r.In x L M) : r ≠ .no := by
  rintro rfl
  exact h
theorem R1.in_no {r : R1} {v : AV} {M : Mem} (h : r.In v M) : r ≠ .no := by
  rintro rfl
  exact h
theorem Rs.All.is {r : Rs} {p : Ex → T AV → Mem → Prop} (h : r.All p) : r ≠ .no := by
  obtain ⟨x, L, M, h⟩ := h.ex
  exact Rs.in_no h
theorem R1.All.is {r : R1} {p : AV → Mem → Prop} (h : r.All p) : r ≠ .no := by
  obtain ⟨v, M, h⟩ := h.ex
  exact R1.in_no h
theorem Rs.All.one {x : Ex} {L : T AV} {M : Mem} {p : Ex → T AV → Mem → Prop} (h : p x L M) : (Rs.one x L M).All p := ⟨⟨_, _, _, rfl, rfl, rfl⟩, fun x' L' M' e => by obtain ⟨rfl, rfl, rfl⟩ := e; exact h⟩
theorem R1.All.one {v : AV} {M : Mem} {p : AV → Mem → Prop} (h : p v M) : (R1.one v M).All p := ⟨⟨_, _, rfl, rfl⟩, fun v' M' e => by obtain ⟨rfl, rfl⟩ := e; exact h⟩
theorem Rs.list_in {r : Rs} {l : List (Ex × T AV × Mem)} (h : r.list = some l) (x : Ex) (L : T AV) (M : Mem) : r.In x L M ↔ (x, L, M) ∈ l := by
  cases r <;> simp only [Rs.list, Option.some.injEq, reduceCtorEq] at h
  · subst h; simp [Rs.In]
  · subst h; simp [Rs.In]
theorem R1.list_in {r : R1} {l : List (AV × Mem)} (h : r.list = some l) (v : AV) (M : Mem) : r.In v M ↔ (v, M) ∈ l := by
  cases r <;> simp only [R1.list, Option.some.injEq, reduceCtorEq] at h
  · subst h; simp [R1.In]
  · subst h; simp [R1.In]
theorem Rs.ofO_in {o : Option (List (Ex × T AV × Mem))} (h : Rs.ofO o ≠ .no) : ∃ l, o = some l ∧ ∀ x L M, (Rs.ofO o).In x L M ↔ (x, L, M) ∈ l := by
  cases o with
  | none => exact absurd rfl h
  | some l =>
    refine ⟨l, rfl, fun x L M => ?_⟩
    match l with
    | [] => simp [Rs.ofO, Rs.In]
    | [p] => obtain ⟨a, b, c⟩ := p; simp [Rs.ofO, Rs.In]
    | p :: q :: l => simp [Rs.ofO, Rs.In]
theorem R1.ofO_in {o : Option (List (AV × Mem))} (h : R1.ofO o ≠ .no) : ∃ l, o = some l ∧ (∀ d M, R1.ofO o ≠ .dfr d M) ∧ ∀ v M, (R1.ofO o).In v M ↔ (v, M) ∈ l := by
  cases o with
  | none => exact absurd rfl h
  | some l =>
    refine ⟨l, rfl, ?_⟩
    match l with
    | [] => exact ⟨(fun d M h => by cases h), (fun v M => by simp [R1.ofO, R1.In])⟩
    | [p] => obtain ⟨a, b⟩ := p; exact ⟨(fun d M h => by cases h), (fun v M => by simp [R1.ofO, R1.In])⟩
    | p :: q :: l => exact ⟨(fun d M h => by cases h), (fun v M => by simp [R1.ofO, R1.In])⟩
theorem bindL_in {f : Ex → T AV → Mem → Rs} : ∀ {l m : List (Ex × T AV × Mem)}, bindL f l = some m → ∀ x L M, (x, L, M) ∈ l → (∃ x' L' M', (f x L M).In x' L' M') ∧ ∀ x' L' M', (f x L M).In x' L' M' → (x', L', M') ∈ m
  | [], m, h, x, L, M, hm => by cases hm
  | p :: l, m, h, x, L, M, hm => by
    simp only [bindL] at h
    split at h
    · next y a b e1 e2 =>
      simp only [Option.some.injEq] at h
      subst h
      rcases List.mem_cons.1 hm with rfl | hm
      · exact ⟨⟨y.1, y.2.1, y.2.2, (Rs.list_in e1 _ _ _).2 (List.mem_cons_self ..)⟩, fun x' L' M' q => List.mem_append_left _ ((Rs.list_in e1 _ _ _).1 q)⟩
      · obtain ⟨h1, h2⟩ := bindL_in e2 x L M hm
        exact ⟨h1, fun x' L' M' q => List.mem_append_right _ (h2 x' L' M' q)⟩
    · cases h
theorem bindL_of {f : Ex → T AV → Mem → Rs} : ∀ {l m : List (Ex × T AV × Mem)}, bindL f l = some m → ∀ x' L' M', (x', L', M') ∈ m → ∃ x L M, (x, L, M) ∈ l ∧ (f x L M).In x' L' M'
  | [], m, h, x', L', M', hm => by
    simp only [bindL, Option.some.injEq] at h
    subst h
    cases hm
  | p :: l, m, h, x', L', M', hm => by
    simp only [bindL] at h
    split at h
    · next y a b e1 e2 =>
      simp only [Option.some.injEq] at h
      subst h
      rcases List.mem_append.1 hm with hm | hm
      · exact ⟨p.1, p.2.1, p.2.2, List.mem_cons_self .., (Rs.list_in e1 _ _ _).2 hm⟩
      · obtain ⟨x, L, M, h1, h2⟩ := bindL_of e2 x' L' M' hm
        exact ⟨x, L, M, List.mem_cons_of_mem _ h1, h2⟩
    · cases h
theorem Rs.bind_in {r : Rs} {f : Ex → T AV → Mem → Rs} {x' : Ex} {L' : T AV} {M' : Mem} (h : (r.bind f).In x' L' M') : ∃ x L M, r.In x L M ∧ (f x L M).In x' L' M' := by
  cases r with
  | no => exact h.elim
  | one x L M => exact ⟨x, L, M, ⟨rfl, rfl, rfl⟩, h⟩
  | many l =>
    have h' : (Rs.ofO (bindL f l)).In x' L' M' := h
    obtain ⟨m, e, hm⟩ := Rs.ofO_in (Rs.in_no h')
    exact bindL_of e x' L' M' ((hm _ _ _).1 h')
theorem Rs.bind_all {r : Rs} {f : Ex → T AV → Mem → Rs} {p : Ex → T AV → Mem → Prop} (h : (r.bind f).All p) : r.All fun x L M => (f x L M).All p := by
  have hex : ∃ x L M, r.In x L M := by
    obtain ⟨x', L', M', h⟩ := h.ex
    obtain ⟨x, L, M, h1, _⟩ := Rs.bind_in h
    exact ⟨x, L, M, h1⟩
  cases r with
  | no => exact absurd rfl h.is
  | one x L M => exact .one h
  | many l =>
    obtain ⟨m, e, hm⟩ := Rs.ofO_in h.is
    exact ⟨hex, fun x L M hx => by
      obtain ⟨h1, h2⟩ := bindL_in e x L M hx
      exact ⟨h1, fun x' L' M' q => h.all x' L' M' ((hm _ _ _).2 (h2 _ _ _ q))⟩⟩
theorem bind1L_in {f : AV → Mem → Rs} : ∀ {l : List (AV × Mem)} {m : List (Ex × T AV × Mem)}, bind1L f l = some m → ∀ v M, (v, M) ∈ l → (∃ x' L' M', (f v M).In x' L' M') ∧ ∀ x' L' M', (f v M).In x' L' M' → (x', L', M') ∈ m
  | [], m, h, v, M, hm => by cases hm
  | p :: l, m, h, v, M, hm => by
    simp only [bind1L] at h
    split at h
    · next y a b e1 e2 =>
      simp only [Option.some.injEq] at h
      subst h
      rcases List.mem_cons.1 hm with rfl | hm
      · exact ⟨⟨y.1, y.2.1, y.2.2, (Rs.list_in e1 _ _ _).2 (List.mem_cons_self ..)⟩, fun x' L' M' q => List.mem_append_left _ ((Rs.list_in e1 _ _ _).1 q)⟩
      · obtain ⟨h1, h2⟩ := bind1L_in e2 v M hm
        exact ⟨h1, fun x' L' M' q => List.mem_append_right _ (h2 x' L' M' q)⟩
    · cases h
theorem bind1L_of {f : AV → Mem → Rs} : ∀ {l : List (AV × Mem)} {m : List (Ex × T AV × Mem)}, bind1L f l = some m → ∀ x' L' M', (x', L', M') ∈ m → ∃ v M, (v, M) ∈ l ∧ (f v M).In x' L' M'
  | [], m, h, x', L', M', hm => by
    simp only [bind1L, Option.some.injEq] at h
    subst h
    cases hm
  | p :: l, m, h, x', L', M', hm => by
    simp only [bind1L] at h
    split at h
    · next y a b e1 e2 =>
      simp only [Option.some.injEq] at h
      subst h
      rcases List.mem_append.1 hm with hm | hm
      · exact ⟨p.1, p.2, List.mem_cons_self .., (Rs.list_in e1 _ _ _).2 hm⟩
      · obtain ⟨v, M, h1, h2⟩ := bind1L_of e2 x' L' M' hm
        exact ⟨v, M, List.mem_cons_of_mem _ h1, h2⟩
    · cases h
theorem R1.bind_in {r : R1} {f : AV → Mem → Rs} {x' : Ex} {L' : T AV} {M' : Mem} (h : (r.bind f).In x' L' M') : ∃ v M, r.In v M ∧ (f v M).In x' L' M' := by
  cases r with
  | no => exact h.elim
  | one v M => exact ⟨v, M, ⟨rfl, rfl⟩, h⟩
  | many l =>
    have h' : (Rs.ofO (bind1L f l)).In x' L' M' := h
    obtain ⟨m, e, hm⟩ := Rs.ofO_in (Rs.in_no h')
    exact bind1L_of e x' L' M' ((hm _ _ _).1 h')
  | dfr d M => exact h.elim
theorem R1.bind_all {r : R1} {f : AV → Mem → Rs} {p : Ex → T AV → Mem → Prop} (h : (r.bind f).All p) : r.All fun v M => (f v M).All p := by
  have hex : ∃ v M, r.In v M := by
    obtain ⟨x', L', M', h⟩ := h.ex
    obtain ⟨v, M, h1, _⟩ := R1.bind_in h
    exact ⟨v, M, h1⟩
  cases r with
  | no => exact absurd rfl h.is
  | one v M => exact .one h
  | many l =>
    obtain ⟨m, e, hm⟩ := Rs.ofO_in h.is
    exact ⟨hex, fun v M hx => by
      obtain ⟨h1, h2⟩ := bind1L_in e v M hx
      exact ⟨h1, fun x' L' M' q => h.all x' L' M' ((hm _ _ _).2 (h2 _ _ _ q))⟩⟩
  | dfr d M => exact absurd rfl h.is
theorem bind2L_in {f : Ex → T AV → Mem → R1} : ∀ {l : List (Ex × T AV × Mem)} {m : List (AV × Mem)}, bind2L f l = some m → ∀ x L M, (x, L, M) ∈ l → (∃ v M', (f x L M).In v M') ∧ ∀ v M', (f x L M).In v M' → (v, M') ∈ m
  | [], m, h, x, L, M, hm => by cases hm
  | p :: l, m, h, x, L, M, hm => by
    simp only [bind2L] at h
    split at h
    · next y a b e1 e2 =>
      simp only [Option.some.injEq] at h
      subst h
      rcases List.mem_cons.1 hm with rfl | hm
      · exact ⟨⟨y.1, y.2, (R1.list_in e1 _ _).2 (List.mem_cons_self ..)⟩, fun v M' q => List.mem_append_left _ ((R1.list_in e1 _ _).1 q)⟩
      · obtain ⟨h1, h2⟩ := bind2L_in e2 x L M hm
        exact ⟨h1, fun v M' q => List.mem_append_right _ (h2 v M' q)⟩
    · cases h
theorem bind2L_of {f : Ex → T AV → Mem → R1} : ∀ {l : List (Ex × T AV × Mem)} {m : List (AV × Mem)}, bind2L f l = some m → ∀ v M', (v, M') ∈ m → ∃ x L M, (x, L, M) ∈ l ∧ (f x L M).In v M'
  | [], m, h, v, M', hm => by
    simp only [bind2L, Option.some.injEq] at h
    subst h
    cases hm
  | p :: l, m, h, v, M', hm => by
    simp only [bind2L] at h
    split at h
    · next y a b e1 e2 =>
      simp only [Option.some.injEq] at h
      subst h
      rcases List.mem_append.1 hm with hm | hm
      · exact ⟨p.1, p.2.1, p.2.2, List.mem_cons_self .., (R1.list_in e1 _ _).2 hm⟩
      · obtain ⟨x, L, M, h1, h2⟩ := bind2L_of e2 v M' hm
        exact ⟨x, L, M, List.mem_cons_of_mem _ h1, h2⟩
    · cases h
theorem Rs.bind1_in {r : Rs} {f : Ex → T AV → Mem → R1} {v : AV} {M' : Mem} (h : (r.bind1 f).In v M') : ∃ x L M, r.In x L M ∧ (f x L M).In v M' := by
  cases r with
  | no => exact h.elim
  | one x L M => exact ⟨x, L, M, ⟨rfl, rfl, rfl⟩, h⟩
  | many l =>
    have h' : (R1.ofO (bind2L f l)).In v M' := h
    obtain ⟨m, e, _, hm⟩ := R1.ofO_in (R1.in_no h')
    exact bind2L_of e v M' ((hm _ _).1 h')
theorem Rs.bind1_all {r : Rs} {f : Ex → T AV → Mem → R1} {p : AV → Mem → Prop} (h : (r.bind1 f).All p) : r.All fun x L M => (f x L M).All p := by
  have hex : ∃ x L M, r.In x L M := by
    obtain ⟨v, M', h⟩ := h.ex
    obtain ⟨x, L, M, h1, _⟩ := Rs.bind1_in h
    exact ⟨x, L, M, h1⟩
  cases r with
  | no => exact absurd rfl h.is
  | one x L M => exact .one h
  | many l =>
    obtain ⟨m, e, _, hm⟩ := R1.ofO_in h.is
    exact ⟨hex, fun x L M hx => by
      obtain ⟨h1, h2⟩ := bind2L_in e x L M hx
      exact ⟨h1, fun v M' q => h.all v M' ((hm _ _).2 (h2 _ _ q))⟩⟩
def loopW (F : Fence) (P : Program) (c : Code) (Q : Exit → Act → World → Prop) (a : Act) (w : World) : Prop :=
  ∀ (b : Frame) (k : List Item) (cs : List Frame), b.roundOf = F.round → F.fn b.fn → F.room (cs.length + 1 + 0) →
    ∃ e a' w', Q e a' w' ∧ ArrivesIn (Machine.fenced P F) P (lone (b.atR a (.code c :: .inLoop c :: k)) cs w) b k cs e a' w'
theorem loopW_loop {F : Fence} {P : Program} {c : Code} {Q : Exit → Act → World → Prop} {a : Act} {w : World} (h : loopW F P c Q a w) : (Code.loop c).wpIn F 0 P Q a w := by
  intro b k cs hro hb hr
  obtain ⟨e, a', w', hq, harr⟩ := h b k cs hro hb hr
  exact ⟨e, a', w', hq, .of_steps (.one (fenced_calm hb hr rfl) stepR_loop) harr⟩
theorem loopW_step {F : Fence} {P : Program} {c : Code} {Q : Exit → Act → World → Prop} {a : Act} {w : World} (h : c.wpIn F 0 P (Exit.then (loopW F P c Q) Q) a w) : loopW F P c Q a w := by
  intro b k cs hro hb hr
  obtain ⟨e, a₁, w₁, hq, harr⟩ := h b (.inLoop c :: k) cs hro hb hr
  cases e with
  | normal =>
    obtain ⟨e₂, a₂, w₂, hq₂, harr₂⟩ := hq b k cs hro hb hr
    exact ⟨e₂, a₂, w₂, hq₂, .of_steps (StepsIn.trans harr (.one (fenced_calm hb hr rfl) stepR_inLoop)) harr₂⟩
  | exit id => exact ⟨_, a₁, w₁, hq, .pass (x := .inLoop c) rfl (fun _ _ => .inl (by simp)) harr⟩
  | goto l => exact ⟨_, a₁, w₁, hq, .pass (x := .inLoop c) rfl (fun _ _ => .inl (by simp)) harr⟩
  | ret => exact ⟨_, a₁, w₁, hq, .pass (x := .inLoop c) rfl (fun _ _ => .inl (by simp)) harr⟩
  | panic ch => exact ⟨_, a₁, w₁, hq, .pass (x := .inLoop c) rfl (fun _ _ => .inl (by simp)) harr⟩
  | outgrown => exact ⟨_, a₁, w₁, hq, .pass (x := .inLoop c) rfl (fun _ _ => .inl (by simp)) harr⟩
def TaskWp (ro : Option Nat) (P : Program) (Q : Exit → Act → World → Prop) (a : Act) (w : World) : Task → Prop
  | .code c => c.wpIn (fw ro) 0 P Q a w
  | .loop c => loopW (fw ro) P c Q a w
structure SelfOk (P : Program) (B : World) (E : Env) (sf : Self) : Prop where
  gr : ∀ n t L M x L' M', (sf n t L M).In x L' M' → Gr M M' ∧ (L.get n = some .rd → L'.get n = some .rd)
  ok : ∀ (ro : Option Nat) n t L M cx hi s a Q, Is B E.ng cx M hi s → Loc s.σ L n a → (ro ≠ none → L.get n = some .rd) → (sf n t L M).All (fun x L' M' => LogOk cx M' ∧ M'.next ≤ hi ∧ ∀ s' a', Is B E.ng cx M' hi s' → To cx M.next hi s s' → Loc s'.σ L' n a' → Q x.to a' s'.W) → TaskWp ro P Q a s.W t
section
variable {P : Program} {B : World} {E : Env} {self : Self} {cx : Cx} {M M' : Mem} {hi n : Nat} {s : At} {L : T AV} {a : Act}
def resS (tmps : Array Value) : ResultVar → Sem Value
  | .tmp t => pure (tmps.getD t undef)
  | .cell p t => do loadVar t (← asAddr (tmps.getD p undef))
theorem results_eq (fn : Func) (tmps : Array Value) : results fn tmps = (do let vs ← fn.results.mapM (resS tmps); pure (if h : vs.size = 1 then vs[0] else .tuple vs)) := by
  unfold results
  have : ∀ r : ResultVar, (match r with | .tmp t => pure (tmps.getD t undef) | .cell p t => do loadVar t (← asAddr (tmps.getD p undef)) : Sem Value) = resS tmps r := fun r => by cases r <;> rfl
  rfl
theorem eres1_gr {r : ResultVar} {v : AV} (e : eres1 E L M r = some (v, M')) : Gr M M' ∧ M'.objs = M.objs ∧ M'.next = M.next := by
  cases r with
  | tmp t =>
    simp only [eres1] at e
    split at e
    · simp only [Option.some.injEq, Prod.mk.injEq] at e
      obtain ⟨_, rfl⟩ := e
      exact ⟨.refl _, rfl, rfl⟩
    · cases e
  | cell p t =>
    simp only [eres1] at e
    split at e
    · exact aload_logs e
    · cases e
theorem eres1_sound (hE : EnvOk P E) (hs : Is B E.ng cx M hi s) {tmps : Array Value} (hL : ∀ t x, L.get t = some x → VRel s.σ x (tmps.getD t undef)) {r : ResultVar} {v : AV} (e : eres1 E L M r = some (v, M')) (hl : LogOk cx M') :
    ∃ q, VRel s.σ v q ∧ (resS tmps r).run P s.W = .ok q s.W := by
  cases r with
  | tmp t =>
    simp only [eres1] at e
    split at e
    · next x ex =>
      simp only [Option.some.injEq, Prod.mk.injEq] at e
      obtain ⟨rfl, rfl⟩ := e
      exact ⟨_, hL t _ ex, rfl⟩
    · cases e
  | cell p t =>
    simp only [eres1] at e
    split at e
    · next w ty e1 e2 =>
      have hv := hL p w e1
      obtain ⟨u, h1, h2⟩ := hs.load (hE.tys _ _ e2) hv e hl
      have : ∃ i o, w = .ptr i o := by
        unfold aload at e
        split at e
        · exact ⟨_, _, rfl⟩
        · cases e
      obtain ⟨i, o, rfl⟩ := this
      obtain ⟨b, f, z, hq, h3⟩ := hv.ptr_inv
      refine ⟨u, h1, ?_⟩
      rw [hq] at h2
      simp only [Instr.loadAt, Instr.sureAddr, Sem.run_bind, run_pureS, Result.andThen_ok] at h2
      show ((asAddr (tmps.getD p undef)).bind _).run P s.W = _
      rw [hq]
      exact h2
    · cases e
theorem eresL_sound (hE : EnvOk P E) {tmps : Array Value} (hL : ∀ t x, L.get t = some x → VRel s.σ x (tmps.getD t undef)) : ∀ {l : List ResultVar} {M M' : Mem} {vs : List AV}, Is B E.ng cx M hi s → eresL E L M l = some (vs, M') → LogOk cx M' →
    (Gr M M' ∧ M'.objs = M.objs ∧ M'.next = M.next) ∧ ∃ qs, LRel s.σ vs qs ∧ (l.mapM (resS tmps)).run P s.W = .ok qs s.W
  | [], M, M', vs, hs, e, hl => by
    simp only [eresL, Option.some.injEq, Prod.mk.injEq] at e
    obtain ⟨rfl, rfl⟩ := e
    exact ⟨⟨.refl _, rfl, rfl⟩, [], .nil, rfl⟩
  | r :: l, M, M', vs, hs, e, hl => by
    simp only [eresL] at e
    split at e
    · next v M1 e1 =>
      split at e
      · next m M2 e2 =>
        simp only [Option.some.injEq, Prod.mk.injEq] at e
        obtain ⟨rfl, rfl⟩ := e
        obtain ⟨g1, g2, g3⟩ := eres1_gr e1
        obtain ⟨⟨k1, k2, k3⟩, qs, h3, h4⟩ := eresL_sound hE hL (hs.logs g2 g3) e2 hl
        obtain ⟨q, h1, h2⟩ := eres1_sound hE hs hL e1 (hl.back k1)
        refine ⟨⟨g1.trans k1, k2.trans g2, k3.trans g3⟩, q :: qs, .cons h1 h3, ?_⟩
        rw [List.mapM_cons, Sem.run_bind, h2, Result.andThen_ok, Sem.run_bind, h4, Result.andThen_ok]
        rfl
      · cases e
    · cases e
theorem eresL_gr : ∀ {l : List ResultVar} {M M' : Mem} {vs : List AV}, eresL E L M l = some (vs, M') → Gr M M'
  | [], M, M', vs, e => by
    simp only [eresL, Option.some.injEq, Prod.mk.injEq] at e
    obtain ⟨_, rfl⟩ := e
    exact .refl _
  | r :: l, M, M', vs, e => by
    simp only [eresL] at e
    split at e
    · next e1 =>
      split at e
      · next e2 =>
        simp only [Option.some.injEq, Prod.mk.injEq] at e
        obtain ⟨_, rfl⟩ := e
        exact (eres1_gr e1).1.trans (eresL_gr e2)
      · cases e
    · cases e
theorem eres_in {l : List ResultVar} {v : AV} (e : (eres E L M l).In v M') : ∃ vs, eresL E L M l = some (vs, M') ∧ (match vs with | [w] => v = w | _ => v = .tup vs) := by
  unfold eres at e
  split at e
  · next w M2 e2 =>
    obtain ⟨rfl, rfl⟩ := e
    exact ⟨_, e2, rfl⟩
  · next m M2 hne e2 =>
    obtain ⟨rfl, rfl⟩ := e
    refine ⟨m, e2, ?_⟩
    split
    · next w => exact absurd rfl (hne w)
    · rfl
  · exact e.elim
theorem eres_gr {l : List ResultVar} {v : AV} (e : (eres E L M l).In v M') : Gr M M' := by
  obtain ⟨vs, h, _⟩ := eres_in e
  exact eresL_gr h
theorem eres_sound (hE : EnvOk P E) (hs : Is B E.ng cx M hi s) {tmps : Array Value} (hL : ∀ t x, L.get t = some x → VRel s.σ x (tmps.getD t undef)) {fn : Func} {v : AV} (e : (eres E L M fn.results.toList).In v M') (hl : LogOk cx M') :
    Is B E.ng cx M' hi s ∧ M'.next = M.next ∧ ∃ q, VRel s.σ v q ∧ (results fn tmps).run P s.W = .ok q s.W := by
  obtain ⟨vs, h, hv⟩ := eres_in e
  obtain ⟨⟨_, k2, k3⟩, qs, h1, h2⟩ := eresL_sound hE hL hs h hl
  refine ⟨hs.logs k2 k3, k3, ?_⟩
  rw [results_eq, Array.mapM_eq_mapM_toList]
  match vs, h1, hv with
  | [w], .cons h3 .nil, hv =>
    subst hv
    exact ⟨_, h3, by rw [Sem.run_bind, Sem.run_map, h2]; rfl⟩
  | [], .nil, hv =>
    subst hv
    exact ⟨_, .tup .nil, by rw [Sem.run_bind, Sem.run_map, h2]; rfl⟩
  | w :: w' :: vs, .cons (v := q) h3 (.cons (v := q') h4 h5), hv =>
    subst hv
    exact ⟨_, .tup (.cons h3 (.cons h4 h5)), by rw [Sem.run_bind, Sem.run_map, h2]; rfl⟩
theorem loc_enter {σ : Sg} {l : List AV} {vs : List Value} (h : LRel σ l vs) (nt : Nat) : Loc σ (T.ofA l) (Nat.max l.length nt) { tmps := vs.toArray ++ Array.replicate (nt - vs.toArray.size) undef, defers := [] } := by
  have hl : l.length = vs.length := h.length
  have hm : Nat.max l.length nt = max l.length nt := rfl
  refine ⟨?_, fun t x e => ?_, ?_⟩
  · simp [hm]
    omega
  · obtain ⟨v, h1, h2⟩ := h.get (ofA_get e)
    have h1 : vs.toArray[t]? = some v := by simpa using h1
    have hlt := (Array.getElem?_eq_some_iff.1 h1).1
    rw [Array.getD_eq_getD_getElem?]
    simp only
    rw [Array.getElem?_append_left hlt, h1]
    exact h2
  · have : (T.ofA l).get (Nat.max l.length nt) = none := by
      cases e : (T.ofA l).get (Nat.max l.length nt) with
      | none => rfl
      | some x =>
        have := ofA_get e
        have hlt := (List.getElem?_eq_some_iff.1 this).1
        omega
    rw [this]
    rfl
end
end GrG
namespace GrG
open Go Go.RowKit
section
variable {P : Program} {B : World} {G : Nat} {E : Env} {self : Self} {cx : Cx} {M M' : Mem} {hi n : Nat} {s : At} {L : T AV} {a : Act}
theorem RelM.gone {σ : Sg} {F : Fm} {W U : World} (h : RelM B G σ F W) {i : Nat} {x : Ob} {b f z : Nat} (hF : F i = some x) (hs : σ i = some (b, f, z)) (hw : ∀ c, c ≠ b → U.heap[c]? = W.heap[c]?) (hb : Below B.heap.size B U) : RelM B G σ (F.upd i none) U := by
  have old : ∀ m y, F.upd i none m = some y → F m = some y ∧ m ≠ i := fun m y e => by
    by_cases q : m = i
    · subst q; rw [Fm.upd_self] at e; cases e
    · exact ⟨by rwa [Fm.upd_ne q] at e, q⟩
  refine ⟨fun j y e => ?_, fun j k y y' b1 f1 z1 b2 f2 z2 e1 e2 hn s1 s2 => ?_, fun j y b1 f1 z1 hG e s => ?_, hb⟩
  · obtain ⟨e, q⟩ := old j y e
    exact (h.rep j y e).keep (.refl σ) fun b1 f1 z1 s1 => hw b1 (h.sep j i y x b1 f1 z1 b f z e hF q s1 hs)
  · exact h.sep j k y y' b1 f1 z1 b2 f2 z2 (old j y e1).1 (old k y' e2).1 hn s1 s2
  · exact h.high j y b1 f1 z1 hG (old j y e).1 s
theorem Below.putObj {N : Nat} {w W : World} (h : Below N w W) {r : Nat} (hr : N ≤ r) (o : Obj) : Below N w (W.putObj r o) :=
  h.trans ⟨rfl, rfl, rfl, by simp [World.putObj], fun k hk => World.putObj_heap_other (by omega)⟩
theorem Is.setO (h : Is B G cx M hi s) {i : Nat} {x : Ob} {x' : Option Ob} {b f z : Nat} {o' : Obj} (e : M.ob i = some x) (hv : cx.vis i) (hw : cx.wok i) (hs : s.σ i = some (b, f, z)) (ho : ∀ y, x' = some y → OC s.σ f z y o') :
    ∃ s', s'.W = s.W.putObj b o' ∧ s'.σ = s.σ ∧ Is B G cx (M.wrote i x') hi s' ∧ To cx M.next hi s s' := by
  have hF := h.obj e hv
  have hi' := (ob_eq e).1
  have hb := h.rel.high i x b f z (h.lo i hw) hF hs
  have hlt := (h.rel.rep i x hF).lt hs
  have hU : RelM B G s.σ (s.F.upd i x') (s.W.putObj b o') := by
    cases x' with
    | none => exact h.rel.gone hF hs (fun c hc => World.putObj_heap_other hc) (Below.putObj h.rel.base hb o')
    | some y => exact h.rel.chg hF hs (fun c hc => World.putObj_heap_other hc) (World.putObj_heap_same hlt) (ho y rfl) (Below.putObj h.rel.base hb o')
  obtain ⟨h1, h2⟩ := h.put hi' hw hU
  exact ⟨⟨s.σ, s.F.upd i x', s.W.putObj b o'⟩, rfl, rfl, h1, h2⟩
theorem evDefers_gr (hS : SelfOk P B E self) : ∀ {ds : List AV} {M M' : Mem}, evDefers E self ds M = some M' → Gr M M'
  | [], M, M', e => by
    simp only [evDefers, Option.some.injEq] at e
    subst e
    exact .refl _
  | d :: ds, M, M', e => by
    simp only [evDefers] at e
    split at e
    · split at e
      · split at e
        · rw [fN_eq] at e
          split at e
          · cases e
          · next hx =>
            split at e
            · next M3 _ er =>
              have h1 := (hS.gr _ _ _ _ _ _ _ (show Rs.In (self _ _ _ _) _ _ _ by rw [hx]; exact ⟨rfl, rfl, rfl⟩)).1
              have h2 := eres_gr (show R1.In (eres E _ _ _) _ _ by rw [er]; exact ⟨rfl, rfl⟩)
              exact h1.trans (h2.trans (evDefers_gr hS e))
            · cases e
          · cases e
        · cases e
      · cases e
    · split at e
      · next eo => exact (Gr.wrote (.inr rfl)).trans (evDefers_gr hS e)
      · cases e
    · cases e
theorem evDefers_ok (hE : EnvOk P E) (hS : SelfOk P B E self) {fn : Func} {tmps : Array Value} {R : Ending → World → Prop} : ∀ {ds : List AV} {M M' : Mem} {ws : List Deferred} {s : At}, evDefers E self ds M = some M' → LogOk cx M' → M'.next ≤ hi → Is B E.ng cx M hi s → DRel s.σ ds ws →
    (∀ s', Is B E.ng cx M' hi s' → To cx M.next hi s s' → LeavesInM (fw none) 0 P fn tmps R [] .returning s'.W) → LeavesInM (fw none) 0 P fn tmps R ws .returning s.W
  | [], M, M', ws, s, e, hl, hh, hs, hd, hk => by
    simp only [evDefers, Option.some.injEq] at e
    subst e
    cases hd
    exact hk s hs .refl
  | d :: ds, M, M', ws, s, e, hl, hh, hs, hd, hk => by
    simp only [evDefers] at e
    split at e
    · next g caps l =>
      cases hd with
      | fn hc ha hd =>
        next cs vs ws =>
        split at e
        · next fn' ef =>
          split at e
          · next c hb =>
            rw [fN_eq] at e
            split at e
            · cases e
            · next x L2 M2 hne hx =>
              split at e
              · next v M3 en er =>
                obtain ⟨k1, k2, k3⟩ := hE.fns _ _ ef
                have g3 := evDefers_gr hS e
                have l3 := hl.back g3
                have n3 := Nat.le_trans g3.next hh
                have er' : (eres E L2 M2 fn'.results.toList).In v M3 := by rw [er]; exact ⟨rfl, rfl⟩
                have g2 := eres_gr er'
                have g1 := (hS.gr _ _ _ _ _ _ _ (show Rs.In (self _ _ _ _) _ _ _ by rw [hx]; exact ⟨rfl, rfl, rfl⟩)).1
                have l2 := l3.back g2
                have hav := ha.app hc
                refine ⟨(by simp), .inr ⟨(fun h => by cases h), _, _, g, (vs ++ cs).toArray, rfl, ?_, fun _ _ => trivial, ?_⟩⟩
                · simp only [invoke, callFunc, program, Sem.run_bind, Sem.run, Result.andThen_ok, k1, k2, k3, Bool.false_eq_true, if_false]
                  simp
                · have hw : c.wpIn (fw none) 0 P (bodyPost P fn' fun e W' => ∃ s', (∃ q, e = .returned q) ∧ s'.W = W' ∧ Is B E.ng cx M3 hi s' ∧ To cx M.next hi s s') { tmps := (vs ++ cs).toArray ++ Array.replicate (fn'.ntmps - (vs ++ cs).toArray.size) undef, defers := [] } s.W := by
                    refine hS.ok none _ (.code c) (T.ofA (l ++ caps)) M cx hi s _ _ hs (loc_enter hav fn'.ntmps) (fun h => absurd rfl h) ?_
                    rw [hx]
                    refine .one ?_
                    refine ⟨l2, Nat.le_trans g2.next n3, fun s' a' q1 q2 q3 => ?_⟩
                    have hdf := q3.dfr
                    rw [en] at hdf
                    obtain ⟨i3, e3, q, r1, r2⟩ := eres_sound hE q1 q3.val er' l3
                    have fin : a'.defers = [] ∧ ∃ v, (results fn' a'.tmps).run P s'.W = .ok v s'.W ∧ ∃ s'', (∃ q, (Ending.returned v) = .returned q) ∧ s''.W = s'.W ∧ Is B E.ng cx M3 hi s'' ∧ To cx M.next hi s s'' := ⟨hdf, q, r2, s', ⟨q, rfl⟩, rfl, i3, q2⟩
                    cases x with
                    | normal => exact fin
                    | ret => exact fin
                    | exit id => exact (hne id rfl).elim
                  refine (callsDIn_of_wp (u := .returning) k1 hb trivial hw).mono fun e' u' w' ⟨hu, s', ⟨q, h1⟩, h2, h3, h4⟩ => ?_
                  subst hu
                  subst h2
                  subst h1
                  exact evDefers_ok hE hS e hl hh h3 (hd.mono h4.le) fun s'' p1 p2 => hk s'' p1 (h4.trans p2 (Nat.le_trans g1.next g2.next))
              · cases e
            · cases e
          · cases e
        · cases e
    · next r =>
      cases hd with
      | mark hm hd =>
        next b ws =>
        split at e
        · next eo =>
          have g1 := evDefers_gr hS e
          have hv : cx.vis r := hl.rd r (g1.rd r (List.mem_cons_self ..))
          have hw : cx.wok r := hl.wr r (g1.wr r (List.mem_cons_self ..))
          obtain ⟨b', f, z, o, h1, h2, h3, h4⟩ := hs.rel.rep r _ (hs.obj eo hv)
          obtain ⟨f', z', h5⟩ := hm
          rw [h1] at h5
          cases h5
          subst h4
          obtain ⟨s', p1, p2, p3, p4⟩ := hs.setO (x' := none) (o' := .deferred none) eo hv hw h1 (fun y h => by cases h)
          refine ⟨(by simp), .inl ⟨_, s'.W, rfl, ?_, ?_⟩⟩
          · rw [p1]
            exact run_takeDeferred h2
          · exact evDefers_ok hE hS e hl hh p3 (by rw [p2]; exact hd) fun s'' q1 q2 => hk s'' q1 (p4.trans q2 (Nat.le_refl _))
        · cases e
    · cases e
theorem evLeave_one {fn : Func} {x : Ex} (h : evLeave E self n fn x L M ≠ .no) : ∃ v M', evLeave E self n fn x L M = .one v M' := by
  have he : ∀ L M, eres E L M fn.results.toList ≠ .no → ∃ v M', eres E L M fn.results.toList = .one v M' := fun L M h => by
    unfold eres at *
    split at h <;> first | exact ⟨_, _, rfl⟩ | exact absurd rfl h
  unfold evLeave at *
  split at h
  · exact absurd rfl h
  · split at h
    · exact he _ _ h
    · split at h
      · exact he _ _ h
      · exact absurd rfl h
    · exact absurd rfl h
theorem evLeave_gr (hS : SelfOk P B E self) {fn : Func} {x : Ex} {v : AV} (h : (evLeave E self n fn x L M).In v M') : Gr M M' := by
  unfold evLeave at h
  split at h
  · exact h.elim
  · split at h
    · exact eres_gr h
    · split at h
      · next e => exact (evDefers_gr hS e).trans (eres_gr h)
      · exact h.elim
    · exact h.elim
theorem evLeave_ok (hE : EnvOk P E) (hS : SelfOk P B E self) {fn : Func} {x : Ex} {v : AV} {R : Ending → World → Prop} (hs : Is B E.ng cx M hi s) (hL : Loc s.σ L n a) (h : (evLeave E self n fn x L M).In v M') (hl : LogOk cx M') (hh : M'.next ≤ hi)
    (hk : ∀ s' q, Is B E.ng cx M' hi s' → To cx M.next hi s s' → VRel s'.σ v q → R (.returned q) s'.W) : bodyPostM (fw none) 0 P fn R x.to a s.W := by
  unfold evLeave at h
  split at h
  · exact h.elim
  · next hx =>
    have main : LeavesInM (fw none) 0 P fn a.tmps R a.defers .returning s.W := by
      split at h
      · next en =>
        have hd := hL.dfr
        rw [en] at hd
        obtain ⟨i3, e3, q, r1, r2⟩ := eres_sound hE hs hL.val h hl
        have hd : a.defers = [] := hd
        rw [hd]
        exact ⟨q, r2, hk s q i3 .refl r1⟩
      · next ds en =>
        split at h
        · next M1 e =>
          have hd := hL.dfr
          rw [en] at hd
          have g2 := eres_gr h
          refine evDefers_ok hE hS e (hl.back g2) (Nat.le_trans g2.next hh) hs hd fun s' q1 q2 => ?_
          obtain ⟨i3, e3, q, r1, r2⟩ := eres_sound hE q1 (fun t y ht => (hL.val t y ht).mono q2.le) h hl
          exact ⟨q, r2, hk s' q i3 q2 r1⟩
        · exact h.elim
      · exact h.elim
    cases x with
    | normal => exact main
    | ret => exact main
    | exit id => exact (hx id rfl).elim
noncomputable def body1 (E : Env) (self : Self) (n : Nat) (fn : Func) (c : Code) (args : List AV) (M : Mem) : R1 := (self n (.code c) (T.ofA args) M).bind1 (evLeave E self n fn)
theorem body1_gr (hS : SelfOk P B E self) {fn : Func} {c : Code} {args : List AV} {v : AV} (h : (body1 E self n fn c args M).In v M') : Gr M M' := by
  obtain ⟨x, L, M1, h1, h2⟩ := Rs.bind1_in h
  exact (hS.gr _ _ _ _ _ _ _ h1).1.trans (evLeave_gr hS h2)
theorem body1_ok (hE : EnvOk P E) (hS : SelfOk P B E self) {f : Nat} {fn : Func} {c : Code} {args : List AV} {vs : List Value} (k1 : P.funcs[f]? = some fn) (hb : fn.body = some c) (hs : Is B E.ng cx M hi s) (hv : LRel s.σ args vs) {p : AV → Mem → Prop}
    (h : (body1 E self (Nat.max args.length fn.ntmps) fn c args M).All fun v M' => LogOk cx M' ∧ M'.next ≤ hi ∧ p v M') : CallsIn (fw none) 0 P f vs.toArray s.W (Ret B E.ng cx M hi s p) := by
  refine callsIn_of_wp_marks k1 hb trivial ?_
  refine hS.ok none _ (.code c) (T.ofA args) M cx hi s _ _ hs (loc_enter hv fn.ntmps) (fun h => absurd rfl h) ?_
  have ha := Rs.bind1_all h
  refine ⟨ha.ex, fun x L1 M1 hin => ?_⟩
  have hx := ha.all x L1 M1 hin
  obtain ⟨v, M', e⟩ := evLeave_one hx.is
  have hin2 : (evLeave E self (Nat.max args.length fn.ntmps) fn x L1 M1).In v M' := by rw [e]; exact ⟨rfl, rfl⟩
  obtain ⟨hl, hh, hp⟩ := hx.all v M' hin2
  have g := evLeave_gr hS hin2
  have g0 := (hS.gr _ _ _ _ _ _ _ hin).1
  refine ⟨hl.back g, Nat.le_trans g.next hh, fun s' a' q1 q2 q3 => ?_⟩
  exact evLeave_ok hE hS q1 q3 hin2 hl hh fun s'' q r1 r2 r3 => ⟨v, M', s'', hp, rfl, r3, r1, q2.trans r2 g0.next⟩
end
end GrG
