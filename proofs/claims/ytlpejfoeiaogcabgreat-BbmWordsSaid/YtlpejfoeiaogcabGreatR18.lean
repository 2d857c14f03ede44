/-
  A MACHINE FOR CLOSED CALLS (second form), 18: results, calls. No program in sight.
-/
import Derived.Test.YtlpejfoeiaogcabGreatR17
import Derived.RangeFuncLeaves
import Derived.OrdersIn
import Derived.LoopNIn
set_option linter.unusedSimpArgs false
set_option linter.unusedVariables false
namespace GrG
open Go Go.RowKit
theorem fw_room (ro : Option Nat) (n : Nat) : (fw ro).room n := fun _ h => by cases h
theorem calls_fw {ro : Option Nat} {n : Nat} {P : Program} {f : FuncId} {args : Array Value} {w : World} {R : Ending → World → Prop} (h : CallsIn (fw none) n P f args w R) : CallsIn (fw ro) n P f args w R := h
def Ex.to : Ex → Exit
  | .normal => .normal
  | .ret => .ret
  | .exit id => .exit id
/-! Results. -/
def Rs.In : Rs → Ex → T AV → Mem → Prop
  | .no, _, _, _ => False
  | .one x L M, x', L', M' => x' = x ∧ L' = L ∧ M' = M
  | .many l, x', L', M' => (x', L', M') ∈ l
structure Rs.All (r : Rs) (p : Ex → T AV → Mem → Prop) : Prop where
  ex : ∃ x L M, r.In x L M
  all : ∀ x L M, r.In x L M → p x L M
def R1.In : R1 → AV → Mem → Prop
  | .no, _, _ => False
  | .one v M, v', M' => v' = v ∧ M' = M
  | .many l, v', M' => (v', M') ∈ l
  | .dfr _ _, _, _ => False
structure R1.All (r : R1) (p : AV → Mem → Prop) : Prop where
  ex : ∃ v M, r.In v M
  all : ∀ v M, r.In v M → p v M
theorem Rs.All.mono {r : Rs} {p q : Ex → T AV → Mem → Prop} (h : r.All p) (k : ∀ x L M, p x L M → q x L M) : r.All q := ⟨h.ex, fun x L M e => k x L M (h.all x L M e)⟩
theorem R1.All.mono {r : R1} {p q : AV → Mem → Prop} (h : r.All p) (k : ∀ v M, p v M → q v M) : r.All q := ⟨h.ex, fun v M e => k v M (h.all v M e)⟩
theorem Rs.in_no {r : Rs} {x : Ex} {L : T AV} {M : Mem} (h : r.In x L M) : r ≠ .no := by
  rintro rfl
  exact h
theorem R1.in_no {r : R1} {v : AV} {M : Mem} (h : r.In v M) : r ≠ .no := by
  rintro rfl
  exact h
theorem Rs.All.is {r : Rs} {p : Ex → T AV → Mem → Prop} (h : r.All p) : r ≠ .no := by
  obtain ⟨x, L, M, h⟩ := h.ex
  exact Rs.in_no h
theorem R1.All.is {r : R1} {p : AV → Mem → Prop} (h : r.All p) : r ≠ .no := by
  obtain ⟨v, M, h⟩ := h.ex
  exact R1.in_no h
theorem R1.All.nd {r : R1} {p : AV → Mem → Prop} (h : r.All p) (d : AV) (M : Mem) : r ≠ .dfr d M := by
  obtain ⟨v, M', h⟩ := h.ex
  rintro rfl
  exact h
theorem Rs.All.one {x : Ex} {L : T AV} {M : Mem} {p : Ex → T AV → Mem → Prop} (h : p x L M) : (Rs.one x L M).All p := ⟨⟨_, _, _, rfl, rfl, rfl⟩, fun x' L' M' e => by obtain ⟨rfl, rfl, rfl⟩ := e; exact h⟩
theorem R1.All.one {v : AV} {M : Mem} {p : AV → Mem → Prop} (h : p v M) : (R1.one v M).All p := ⟨⟨_, _, rfl, rfl⟩, fun v' M' e => by obtain ⟨rfl, rfl⟩ := e; exact h⟩
theorem Rs.list_in {r : Rs} {l : List (Ex × T AV × Mem)} (h : r.list = some l) (x : Ex) (L : T AV) (M : Mem) : r.In x L M ↔ (x, L, M) ∈ l := by
  cases r <;> simp only [Rs.list, Option.some.injEq, reduceCtorEq] at h
  · subst h; simp [Rs.In]
  · subst h; simp [Rs.In]
theorem R1.list_in {r : R1} {l : List (AV × Mem)} (h : r.list = some l) (v : AV) (M : Mem) : r.In v M ↔ (v, M) ∈ l := by
  cases r <;> simp only [R1.list, Option.some.injEq, reduceCtorEq] at h
  · subst h; simp [R1.In]
  · subst h; simp [R1.In]
theorem Rs.ofO_in {o : Option (List (Ex × T AV × Mem))} (h : Rs.ofO o ≠ .no) : ∃ l, o = some l ∧ ∀ x L M, (Rs.ofO o).In x L M ↔ (x, L, M) ∈ l := by
  cases o with
  | none => exact absurd rfl h
  | some l =>
    refine ⟨l, rfl, fun x L M => ?_⟩
    match l with
    | [] => simp [Rs.ofO, Rs.In]
    | [p] => obtain ⟨a, b, c⟩ := p; simp [Rs.ofO, Rs.In]
    | p :: q :: l => simp [Rs.ofO, Rs.In]
theorem R1.ofO_in {o : Option (List (AV × Mem))} (h : R1.ofO o ≠ .no) : ∃ l, o = some l ∧ (∀ d M, R1.ofO o ≠ .dfr d M) ∧ ∀ v M, (R1.ofO o).In v M ↔ (v, M) ∈ l := by
  cases o with
  | none => exact absurd rfl h
  | some l =>
    refine ⟨l, rfl, ?_⟩
    match l with
    | [] => exact ⟨(fun d M h => by cases h), (fun v M => by simp [R1.ofO, R1.In])⟩
    | [p] => obtain ⟨a, b⟩ := p; exact ⟨(fun d M h => by cases h), (fun v M => by simp [R1.ofO, R1.In])⟩
    | p :: q :: l => exact ⟨(fun d M h => by cases h), (fun v M => by simp [R1.ofO, R1.In])⟩
theorem bindL_in {f : Ex → T AV → Mem → Rs} : ∀ {l m : List (Ex × T AV × Mem)}, bindL f l = some m → ∀ x L M, (x, L, M) ∈ l → (∃ x' L' M', (f x L M).In x' L' M') ∧ ∀ x' L' M', (f x L M).In x' L' M' → (x', L', M') ∈ m
  | [], m, h, x, L, M, hm => by cases hm
  | p :: l, m, h, x, L, M, hm => by
    simp only [bindL] at h
    split at h
    · next y a b e1 e2 =>
      simp only [Option.some.injEq] at h
      subst h
      rcases List.mem_cons.1 hm with rfl | hm
      · exact ⟨⟨y.1, y.2.1, y.2.2, (Rs.list_in e1 _ _ _).2 (List.mem_cons_self ..)⟩, fun x' L' M' q => List.mem_append_left _ ((Rs.list_in e1 _ _ _).1 q)⟩
      · obtain ⟨h1, h2⟩ := bindL_in e2 x L M hm
        exact ⟨h1, fun x' L' M' q => List.mem_append_right _ (h2 x' L' M' q)⟩
    · cases h
theorem bindL_of {f : Ex → T AV → Mem → Rs} : ∀ {l m : List (Ex × T AV × Mem)}, bindL f l = some m → ∀ x' L' M', (x', L', M') ∈ m → ∃ x L M, (x, L, M) ∈ l ∧ (f x L M).In x' L' M'
  | [], m, h, x', L', M', hm => by
    simp only [bindL, Option.some.injEq] at h
    subst h
    cases hm
  | p :: l, m, h, x', L', M', hm => by
    simp only [bindL] at h
    split at h
    · next y a b e1 e2 =>
      simp only [Option.some.injEq] at h
      subst h
      rcases List.mem_append.1 hm with hm | hm
      · exact ⟨p.1, p.2.1, p.2.2, List.mem_cons_self .., (Rs.list_in e1 _ _ _).2 hm⟩
      · obtain ⟨x, L, M, h1, h2⟩ := bindL_of e2 x' L' M' hm
        exact ⟨x, L, M, List.mem_cons_of_mem _ h1, h2⟩
    · cases h
theorem Rs.bind_in {r : Rs} {f : Ex → T AV → Mem → Rs} {x' : Ex} {L' : T AV} {M' : Mem} (h : (r.bind f).In x' L' M') : ∃ x L M, r.In x L M ∧ (f x L M).In x' L' M' := by
  cases r with
  | no => exact h.elim
  | one x L M => exact ⟨x, L, M, ⟨rfl, rfl, rfl⟩, h⟩
  | many l =>
    have h' : (Rs.ofO (bindL f l)).In x' L' M' := h
    obtain ⟨m, e, hm⟩ := Rs.ofO_in (Rs.in_no h')
    exact bindL_of e x' L' M' ((hm _ _ _).1 h')
theorem Rs.bind_all {r : Rs} {f : Ex → T AV → Mem → Rs} {p : Ex → T AV → Mem → Prop} (h : (r.bind f).All p) : r.All fun x L M => (f x L M).All p := by
  have hex : ∃ x L M, r.In x L M := by
    obtain ⟨x', L', M', h⟩ := h.ex
    obtain ⟨x, L, M, h1, _⟩ := Rs.bind_in h
    exact ⟨x, L, M, h1⟩
  cases r with
  | no => exact absurd rfl h.is
  | one x L M => exact .one h
  | many l =>
    obtain ⟨m, e, hm⟩ := Rs.ofO_in h.is
    exact ⟨hex, fun x L M hx => by
      obtain ⟨h1, h2⟩ := bindL_in e x L M hx
      exact ⟨h1, fun x' L' M' q => h.all x' L' M' ((hm _ _ _).2 (h2 _ _ _ q))⟩⟩
theorem bind1L_in {f : AV → Mem → Rs} : ∀ {l : List (AV × Mem)} {m : List (Ex × T AV × Mem)}, bind1L f l = some m → ∀ v M, (v, M) ∈ l → (∃ x' L' M', (f v M).In x' L' M') ∧ ∀ x' L' M', (f v M).In x' L' M' → (x', L', M') ∈ m
  | [], m, h, v, M, hm => by cases hm
  | p :: l, m, h, v, M, hm => by
    simp only [bind1L] at h
    split at h
    · next y a b e1 e2 =>
      simp only [Option.some.injEq] at h
      subst h
      rcases List.mem_cons.1 hm with rfl | hm
      · exact ⟨⟨y.1, y.2.1, y.2.2, (Rs.list_in e1 _ _ _).2 (List.mem_cons_self ..)⟩, fun x' L' M' q => List.mem_append_left _ ((Rs.list_in e1 _ _ _).1 q)⟩
      · obtain ⟨h1, h2⟩ := bind1L_in e2 v M hm
        exact ⟨h1, fun x' L' M' q => List.mem_append_right _ (h2 x' L' M' q)⟩
    · cases h
theorem bind1L_of {f : AV → Mem → Rs} : ∀ {l : List (AV × Mem)} {m : List (Ex × T AV × Mem)}, bind1L f l = some m → ∀ x' L' M', (x', L', M') ∈ m → ∃ v M, (v, M) ∈ l ∧ (f v M).In x' L' M'
  | [], m, h, x', L', M', hm => by
    simp only [bind1L, Option.some.injEq] at h
    subst h
    cases hm
  | p :: l, m, h, x', L', M', hm => by
    simp only [bind1L] at h
    split at h
    · next y a b e1 e2 =>
      simp only [Option.some.injEq] at h
      subst h
      rcases List.mem_append.1 hm with hm | hm
      · exact ⟨p.1, p.2, List.mem_cons_self .., (Rs.list_in e1 _ _ _).2 hm⟩
      · obtain ⟨v, M, h1, h2⟩ := bind1L_of e2 x' L' M' hm
        exact ⟨v, M, List.mem_cons_of_mem _ h1, h2⟩
    · cases h
theorem R1.bind_in {r : R1} {f : AV → Mem → Rs} {x' : Ex} {L' : T AV} {M' : Mem} (h : (r.bind f).In x' L' M') : ∃ v M, r.In v M ∧ (f v M).In x' L' M' := by
  cases r with
  | no => exact h.elim
  | one v M => exact ⟨v, M, ⟨rfl, rfl⟩, h⟩
  | many l =>
    have h' : (Rs.ofO (bind1L f l)).In x' L' M' := h
    obtain ⟨m, e, hm⟩ := Rs.ofO_in (Rs.in_no h')
    exact bind1L_of e x' L' M' ((hm _ _ _).1 h')
  | dfr d M => exact h.elim
theorem R1.bind_all {r : R1} {f : AV → Mem → Rs} {p : Ex → T AV → Mem → Prop} (h : (r.bind f).All p) : r.All fun v M => (f v M).All p := by
  have hex : ∃ v M, r.In v M := by
    obtain ⟨x', L', M', h⟩ := h.ex
    obtain ⟨v, M, h1, _⟩ := R1.bind_in h
    exact ⟨v, M, h1⟩
  cases r with
  | no => exact absurd rfl h.is
  | one v M => exact .one h
  | many l =>
    obtain ⟨m, e, hm⟩ := Rs.ofO_in h.is
    exact ⟨hex, fun v M hx => by
      obtain ⟨h1, h2⟩ := bind1L_in e v M hx
      exact ⟨h1, fun x' L' M' q => h.all x' L' M' ((hm _ _ _).2 (h2 _ _ _ q))⟩⟩
  | dfr d M => exact absurd rfl h.is
theorem bind2L_in {f : Ex → T AV → Mem → R1} : ∀ {l : List (Ex × T AV × Mem)} {m : List (AV × Mem)}, bind2L f l = some m → ∀ x L M, (x, L, M) ∈ l → (∃ v M', (f x L M).In v M') ∧ ∀ v M', (f x L M).In v M' → (v, M') ∈ m
  | [], m, h, x, L, M, hm => by cases hm
  | p :: l, m, h, x, L, M, hm => by
    simp only [bind2L] at h
    split at h
    · next y a b e1 e2 =>
      simp only [Option.some.injEq] at h
      subst h
      rcases List.mem_cons.1 hm with rfl | hm
      · exact ⟨⟨y.1, y.2, (R1.list_in e1 _ _).2 (List.mem_cons_self ..)⟩, fun v M' q => List.mem_append_left _ ((R1.list_in e1 _ _).1 q)⟩
      · obtain ⟨h1, h2⟩ := bind2L_in e2 x L M hm
        exact ⟨h1, fun v M' q => List.mem_append_right _ (h2 v M' q)⟩
    · cases h
theorem bind2L_of {f : Ex → T AV → Mem → R1} : ∀ {l : List (Ex × T AV × Mem)} {m : List (AV × Mem)}, bind2L f l = some m → ∀ v M', (v, M') ∈ m → ∃ x L M, (x, L, M) ∈ l ∧ (f x L M).In v M'
  | [], m, h, v, M', hm => by
    simp only [bind2L, Option.some.injEq] at h
    subst h
    cases hm
  | p :: l, m, h, v, M', hm => by
    simp only [bind2L] at h
    split at h
    · next y a b e1 e2 =>
      simp only [Option.some.injEq] at h
      subst h
      rcases List.mem_append.1 hm with hm | hm
      · exact ⟨p.1, p.2.1, p.2.2, List.mem_cons_self .., (R1.list_in e1 _ _).2 hm⟩
      · obtain ⟨x, L, M, h1, h2⟩ := bind2L_of e2 v M' hm
        exact ⟨x, L, M, List.mem_cons_of_mem _ h1, h2⟩
    · cases h
theorem Rs.bind1_in {r : Rs} {f : Ex → T AV → Mem → R1} {v : AV} {M' : Mem} (h : (r.bind1 f).In v M') : ∃ x L M, r.In x L M ∧ (f x L M).In v M' := by
  cases r with
  | no => exact h.elim
  | one x L M => exact ⟨x, L, M, ⟨rfl, rfl, rfl⟩, h⟩
  | many l =>
    have h' : (R1.ofO (bind2L f l)).In v M' := h
    obtain ⟨m, e, _, hm⟩ := R1.ofO_in (R1.in_no h')
    exact bind2L_of e v M' ((hm _ _).1 h')
theorem Rs.bind1_all {r : Rs} {f : Ex → T AV → Mem → R1} {p : AV → Mem → Prop} (h : (r.bind1 f).All p) : r.All fun x L M => (f x L M).All p := by
  have hex : ∃ x L M, r.In x L M := by
    obtain ⟨v, M', h⟩ := h.ex
    obtain ⟨x, L, M, h1, _⟩ := Rs.bind1_in h
    exact ⟨x, L, M, h1⟩
  cases r with
  | no => exact absurd rfl h.is
  | one x L M => exact .one h
  | many l =>
    obtain ⟨m, e, _, hm⟩ := R1.ofO_in h.is
    exact ⟨hex, fun x L M hx => by
      obtain ⟨h1, h2⟩ := bind2L_in e x L M hx
      exact ⟨h1, fun v M' q => h.all v M' ((hm _ _).2 (h2 _ _ q))⟩⟩
/-! What is asked of the code within. -/
def loopW (F : Fence) (P : Program) (c : Code) (Q : Exit → Act → World → Prop) (a : Act) (w : World) : Prop :=
  ∀ (b : Frame) (k : List Item) (cs : List Frame), b.roundOf = F.round → F.fn b.fn → F.room (cs.length + 1 + 0) →
    ∃ e a' w', Q e a' w' ∧ ArrivesIn (Machine.fenced P F) P (lone (b.atR a (.code c :: .inLoop c :: k)) cs w) b k cs e a' w'
theorem loopW_loop {F : Fence} {P : Program} {c : Code} {Q : Exit → Act → World → Prop} {a : Act} {w : World} (h : loopW F P c Q a w) : (Code.loop c).wpIn F 0 P Q a w := by
  intro b k cs hro hb hr
  obtain ⟨e, a', w', hq, harr⟩ := h b k cs hro hb hr
  exact ⟨e, a', w', hq, .of_steps (.one (fenced_calm hb hr rfl) stepR_loop) harr⟩
theorem loopW_step {F : Fence} {P : Program} {c : Code} {Q : Exit → Act → World → Prop} {a : Act} {w : World} (h : c.wpIn F 0 P (Exit.then (loopW F P c Q) Q) a w) : loopW F P c Q a w := by
  intro b k cs hro hb hr
  obtain ⟨e, a₁, w₁, hq, harr⟩ := h b (.inLoop c :: k) cs hro hb hr
  cases e with
  | normal =>
    obtain ⟨e₂, a₂, w₂, hq₂, harr₂⟩ := hq b k cs hro hb hr
    exact ⟨e₂, a₂, w₂, hq₂, .of_steps (StepsIn.trans harr (.one (fenced_calm hb hr rfl) stepR_inLoop)) harr₂⟩
  | exit id => exact ⟨_, a₁, w₁, hq, .pass (x := .inLoop c) rfl (fun _ _ => .inl (by simp)) harr⟩
  | goto l => exact ⟨_, a₁, w₁, hq, .pass (x := .inLoop c) rfl (fun _ _ => .inl (by simp)) harr⟩
  | ret => exact ⟨_, a₁, w₁, hq, .pass (x := .inLoop c) rfl (fun _ _ => .inl (by simp)) harr⟩
  | panic ch => exact ⟨_, a₁, w₁, hq, .pass (x := .inLoop c) rfl (fun _ _ => .inl (by simp)) harr⟩
  | outgrown => exact ⟨_, a₁, w₁, hq, .pass (x := .inLoop c) rfl (fun _ _ => .inl (by simp)) harr⟩
def TaskWp (ro : Option Nat) (P : Program) (Q : Exit → Act → World → Prop) (a : Act) (w : World) : Task → Prop
  | .code c => c.wpIn (fw ro) 0 P Q a w
  | .loop c => loopW (fw ro) P c Q a w
structure SelfOk (P : Program) (B : World) (E : Env) (sf : Self) : Prop where
  gr : ∀ n t L M x L' M', (sf n t L M).In x L' M' → Gr M M' ∧ (L.get n = some .rd → L'.get n = some .rd)
  ok : ∀ (ro : Option Nat) n t L M cx hi s a Q, Is B E.ng cx M hi s → Loc s.σ L n a → (ro ≠ none → L.get n = some .rd) → (sf n t L M).All (fun x L' M' => LogOk cx M' ∧ M'.next ≤ hi ∧ ∀ s' a', Is B E.ng cx M' hi s' → To cx M.next hi s s' → Loc s'.σ L' n a' → Q x.to a' s'.W) → TaskWp ro P Q a s.W t
section
variable {P : Program} {B : World} {E : Env} {self : Self} {cx : Cx} {M M' : Mem} {hi n : Nat} {s : At} {L : T AV} {a : Act}
/-! Results of a function. -/
def resS (tmps : Array Value) : ResultVar → Sem Value
  | .tmp t => pure (tmps.getD t undef)
  | .cell p t => do loadVar t (← asAddr (tmps.getD p undef))
theorem results_eq (fn : Func) (tmps : Array Value) : results fn tmps = (do let vs ← fn.results.mapM (resS tmps); pure (if h : vs.size = 1 then vs[0] else .tuple vs)) := by
  unfold results
  have : ∀ r : ResultVar, (match r with | .tmp t => pure (tmps.getD t undef) | .cell p t => do loadVar t (← asAddr (tmps.getD p undef)) : Sem Value) = resS tmps r := fun r => by cases r <;> rfl
  rfl
theorem eres1_gr {r : ResultVar} {v : AV} (e : eres1 E L M r = some (v, M')) : Gr M M' ∧ M'.objs = M.objs ∧ M'.next = M.next := by
  cases r with
  | tmp t =>
    simp only [eres1] at e
    split at e
    · simp only [Option.some.injEq, Prod.mk.injEq] at e
      obtain ⟨_, rfl⟩ := e
      exact ⟨.refl _, rfl, rfl⟩
    · cases e
  | cell p t =>
    simp only [eres1] at e
    split at e
    · exact aload_logs e
    · cases e
theorem eres1_sound (hE : EnvOk P E) (hs : Is B E.ng cx M hi s) {tmps : Array Value} (hL : ∀ t x, L.get t = some x → VRel s.σ x (tmps.getD t undef)) {r : ResultVar} {v : AV} (e : eres1 E L M r = some (v, M')) (hl : LogOk cx M') :
    ∃ q, VRel s.σ v q ∧ (resS tmps r).run P s.W = .ok q s.W := by
  cases r with
  | tmp t =>
    simp only [eres1] at e
    split at e
    · next x ex =>
      simp only [Option.some.injEq, Prod.mk.injEq] at e
      obtain ⟨rfl, rfl⟩ := e
      exact ⟨_, hL t _ ex, rfl⟩
    · cases e
  | cell p t =>
    simp only [eres1] at e
    split at e
    · next w ty e1 e2 =>
      have hv := hL p w e1
      obtain ⟨u, h1, h2⟩ := hs.load (hE.tys _ _ e2) hv e hl
      have : ∃ i o, w = .ptr i o := by
        unfold aload at e
        split at e
        · exact ⟨_, _, rfl⟩
        · cases e
      obtain ⟨i, o, rfl⟩ := this
      obtain ⟨b, f, z, hq, h3⟩ := hv.ptr_inv
      refine ⟨u, h1, ?_⟩
      rw [hq] at h2
      simp only [Instr.loadAt, Instr.sureAddr, Sem.run_bind, run_pureS, Result.andThen_ok] at h2
      show ((asAddr (tmps.getD p undef)).bind _).run P s.W = _
      rw [hq]
      exact h2
    · cases e
theorem eresL_sound (hE : EnvOk P E) {tmps : Array Value} (hL : ∀ t x, L.get t = some x → VRel s.σ x (tmps.getD t undef)) : ∀ {l : List ResultVar} {M M' : Mem} {vs : List AV}, Is B E.ng cx M hi s → eresL E L M l = some (vs, M') → LogOk cx M' →
    (Gr M M' ∧ M'.objs = M.objs ∧ M'.next = M.next) ∧ ∃ qs, LRel s.σ vs qs ∧ (l.mapM (resS tmps)).run P s.W = .ok qs s.W
  | [], M, M', vs, hs, e, hl => by
    simp only [eresL, Option.some.injEq, Prod.mk.injEq] at e
    obtain ⟨rfl, rfl⟩ := e
    exact ⟨⟨.refl _, rfl, rfl⟩, [], .nil, rfl⟩
  | r :: l, M, M', vs, hs, e, hl => by
    simp only [eresL] at e
    split at e
    · next v M1 e1 =>
      split at e
      · next m M2 e2 =>
        simp only [Option.some.injEq, Prod.mk.injEq] at e
        obtain ⟨rfl, rfl⟩ := e
        obtain ⟨g1, g2, g3⟩ := eres1_gr e1
        obtain ⟨⟨k1, k2, k3⟩, qs, h3, h4⟩ := eresL_sound hE hL (hs.logs g2 g3) e2 hl
        obtain ⟨q, h1, h2⟩ := eres1_sound hE hs hL e1 (hl.back k1)
        refine ⟨⟨g1.trans k1, k2.trans g2, k3.trans g3⟩, q :: qs, .cons h1 h3, ?_⟩
        rw [List.mapM_cons, Sem.run_bind, h2, Result.andThen_ok, Sem.run_bind, h4, Result.andThen_ok]
        rfl
      · cases e
    · cases e
theorem eresL_gr : ∀ {l : List ResultVar} {M M' : Mem} {vs : List AV}, eresL E L M l = some (vs, M') → Gr M M'
  | [], M, M', vs, e => by
    simp only [eresL, Option.some.injEq, Prod.mk.injEq] at e
    obtain ⟨_, rfl⟩ := e
    exact .refl _
  | r :: l, M, M', vs, e => by
    simp only [eresL] at e
    split at e
    · next e1 =>
      split at e
      · next e2 =>
        simp only [Option.some.injEq, Prod.mk.injEq] at e
        obtain ⟨_, rfl⟩ := e
        exact (eres1_gr e1).1.trans (eresL_gr e2)
      · cases e
    · cases e
theorem eres_in {l : List ResultVar} {v : AV} (e : (eres E L M l).In v M') : ∃ vs, eresL E L M l = some (vs, M') ∧ (match vs with | [w] => v = w | _ => v = .tup vs) := by
  unfold eres at e
  split at e
  · next w M2 e2 =>
    obtain ⟨rfl, rfl⟩ := e
    exact ⟨_, e2, rfl⟩
  · next m M2 hne e2 =>
    obtain ⟨rfl, rfl⟩ := e
    refine ⟨m, e2, ?_⟩
    split
    · next w => exact absurd rfl (hne w)
    · rfl
  · exact e.elim
theorem eres_gr {l : List ResultVar} {v : AV} (e : (eres E L M l).In v M') : Gr M M' := by
  obtain ⟨vs, h, _⟩ := eres_in e
  exact eresL_gr h
theorem eres_sound (hE : EnvOk P E) (hs : Is B E.ng cx M hi s) {tmps : Array Value} (hL : ∀ t x, L.get t = some x → VRel s.σ x (tmps.getD t undef)) {fn : Func} {v : AV} (e : (eres E L M fn.results.toList).In v M') (hl : LogOk cx M') :
    Is B E.ng cx M' hi s ∧ M'.next = M.next ∧ ∃ q, VRel s.σ v q ∧ (results fn tmps).run P s.W = .ok q s.W := by
  obtain ⟨vs, h, hv⟩ := eres_in e
  obtain ⟨⟨_, k2, k3⟩, qs, h1, h2⟩ := eresL_sound hE hL hs h hl
  refine ⟨hs.logs k2 k3, k3, ?_⟩
  rw [results_eq, Array.mapM_eq_mapM_toList]
  match vs, h1, hv with
  | [w], .cons h3 .nil, hv =>
    subst hv
    exact ⟨_, h3, by rw [Sem.run_bind, Sem.run_map, h2]; rfl⟩
  | [], .nil, hv =>
    subst hv
    exact ⟨_, .tup .nil, by rw [Sem.run_bind, Sem.run_map, h2]; rfl⟩
  | w :: w' :: vs, .cons (v := q) h3 (.cons (v := q') h4 h5), hv =>
    subst hv
    exact ⟨_, .tup (.cons h3 (.cons h4 h5)), by rw [Sem.run_bind, Sem.run_map, h2]; rfl⟩
theorem loc_enter {σ : Sg} {l : List AV} {vs : List Value} (h : LRel σ l vs) (nt : Nat) : Loc σ (T.ofA l) (Nat.max l.length nt) { tmps := vs.toArray ++ Array.replicate (nt - vs.toArray.size) undef, defers := [] } := by
  have hl : l.length = vs.length := h.length
  have hm : Nat.max l.length nt = max l.length nt := rfl
  refine ⟨?_, fun t x e => ?_, ?_⟩
  · simp [hm]
    omega
  · obtain ⟨v, h1, h2⟩ := h.get (ofA_get e)
    have h1 : vs.toArray[t]? = some v := by simpa using h1
    have hlt := (Array.getElem?_eq_some_iff.1 h1).1
    rw [Array.getD_eq_getD_getElem?]
    simp only
    rw [Array.getElem?_append_left hlt, h1]
    exact h2
  · have : (T.ofA l).get (Nat.max l.length nt) = none := by
      cases e : (T.ofA l).get (Nat.max l.length nt) with
      | none => rfl
      | some x =>
        have := ofA_get e
        have hlt := (List.getElem?_eq_some_iff.1 this).1
        omega
    rw [this]
    rfl
end
end GrG
