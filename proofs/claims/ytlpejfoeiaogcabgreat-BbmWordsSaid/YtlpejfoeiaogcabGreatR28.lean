/-
  A MACHINE FOR CLOSED CALLS (second form), 28: a closed call, whole. No program in sight.
-/
import Derived.Test.YtlpejfoeiaogcabGreatR27
set_option linter.unusedSimpArgs false
set_option linter.unusedVariables false
namespace GrG
open Go Go.RowKit
theorem bodied_ok {P : Program} {f : Nat} {fn : Func} (h : bodied P f = some fn) : P.funcs[f]? = some fn ∧ (fn.name == "runtime.NumGoroutine") = false ∧ fn.body.isNone = false := by
  unfold bodied at h
  split at h
  · next fn' e =>
    split at h
    · next c eb =>
      split at h
      · cases h
      · next en =>
        cases h
        exact ⟨e, en, by rw [eb]; rfl⟩
    · cases h
  · cases h
theorem assoc_mem {α : Type} {n : Nat} {a : α} : ∀ {l : List (Nat × α)}, assoc l n = some a → (n, a) ∈ l
  | [], h => by cases h
  | p :: l, h => by
    unfold assoc at h
    split at h
    · next e =>
      cases h
      have := beq_t e
      subst this
      exact List.mem_cons_self ..
    · exact List.mem_cons_of_mem _ (assoc_mem h)
theorem envOf_ok {P : Program} {exts : List (Nat × Xk)} {jn : List (Nat × Bool)} {ng : Nat} (hm : P.follows .mixedOrders = true) (hx : ∀ p ∈ exts, XOk P ng p.1 p.2) : EnvOk P (envOf P exts jn ng) :=
  ⟨fun f x h => hx (f, x) (assoc_mem h), fun f fn h => bodied_ok h, fun t i h => h, hm, fun n e h => by rw [show (envOf P exts jn ng).orc = .leaf from rfl, T.get_leaf] at h; cases h⟩
/-- all may be seen, what is new may be written -/
def cxTop (G : Nat) : Cx where
  vis := fun _ => True
  wok := fun i => G ≤ i
  lo := G
  own := fun _ h => h
  seen := fun _ _ => trivial
def geAll (G : Nat) : List Nat → Bool
  | [] => true
  | a :: l => match Nat.ble G a with
    | true => geAll G l
    | false => false
theorem geAll_t {G i : Nat} : ∀ {l : List Nat}, geAll G l = true → i ∈ l → G ≤ i
  | [], _, h => by cases h
  | a :: l, h, k => by
    unfold geAll at h
    split at h
    · next e =>
      rcases List.mem_cons.1 k with rfl | k
      · exact ble_t e
      · exact geAll_t h k
    · cases h
/-- the answer of a closed call, if nothing that was there is written -/
noncomputable def answer (E : Env) (k f : Nat) (args : List AV) (M : Mem) : Option AV := match run E k f args M with
  | .one v M' => match geAll E.ng M'.wr with
    | true => some v
    | false => none
  | _ => none
/-- THE MACHINE'S WORD: what is reckoned is what the call comes to; what was there is as it was -/
theorem answer_ok {P : Program} {E : Env} (hE : EnvOk P E) {k f : Nat} {args : List AV} {vs : List Value} {M : Mem} {v : AV} {W : World} {σ : Sg} {F : Fm} (h : answer E k f args M = some v)
    (hs : ∀ hi, M.next ≤ hi → Is W E.ng (cxTop E.ng) M hi ⟨σ, F, W⟩) (hv : LRel σ args vs) : Calls P f vs.toArray W fun e W' => ∃ q σ', e = .returned q ∧ σ.le σ' ∧ VRel σ' v q ∧ Below W.heap.size W W' := by
  unfold answer at h
  split at h
  · next v' M' er =>
    split at h
    · next hg =>
      cases h
      have hS := ev_ok (B := W) hE k
      have hin : (evCallF E (ev E k) f args M).In v M' := by
        have : run E k f args M = evCallF E (ev E k) f args M := rfl
        rw [← this, er]
        exact ⟨rfl, rfl⟩
      have hgr := evCallF_gr hS hin
      have hall : (evCallF E (ev E k) f args M).All fun v1 M1 => LogOk (cxTop E.ng) M1 ∧ M1.next ≤ M'.next ∧ v1 = v := by
        have : run E k f args M = evCallF E (ev E k) f args M := rfl
        rw [← this, er]
        exact .one ⟨⟨fun _ _ => trivial, fun i hi => geAll_t hg hi⟩, Nat.le_refl _, rfl⟩
      obtain ⟨fn, _, hc⟩ := evCallF_ok hE hS (hs M'.next hgr.next) hv hall
      refine (callsIn_wide.1 hc).mono fun e W' hR => ?_
      cases e with
      | returned q =>
        obtain ⟨v1, M1, s', rfl, rfl, q1, q2, q3⟩ := hR
        exact ⟨q, s'.σ, rfl, q3.le, q1, q2.rel.base⟩
      | panicked c => exact hR.elim
      | outgrown => exact hR.elim
    · cases h
  · cases h
end GrG
