/-
  REGIONS INSIDE A FENCE, none of whose operations enters a function: as outside.
-/
import Derived.Test.YtnpgpbcpgniloaaBy
set_option linter.unusedSimpArgs false
set_option linter.unusedVariables false
namespace Go.Proofs.Ytnpgpbcpgniloaa
open Go.RowKit

def NP (Q : Exit → Act → World → Prop) : Exit → Act → World → Prop
  | .normal, a, w => Q .normal a w
  | _, _, _ => False
def Plain : Result Next → Prop
  | .ok (.value _) _ => True
  | .ok .skip _ => True
  | .halt _ _ => True
  | _ => False
structure Tame (P : Program) (o : Oper) : Prop where
  nd : ∀ c, o.op ≠ .defer c
  ab : ∀ w ρ f, o.about P w ρ ≠ some f
  pl : ∀ w ρ, Plain ((execOp ρ o).run P w)
theorem Plain.val {P : Program} (s : Sem Value) (w : World) : Plain ((s >>= fun v => (pure (Next.value v) : Sem Next)).run P w) := by
  rw [Sem.run_bind]
  generalize s.run P w = r
  cases r with
  | ok v w' => trivial
  | halt x w' => trivial
theorem Plain.unit {P : Program} (s : Sem Unit) (w : World) : Plain ((s >>= fun _ => (pure Next.skip : Sem Next)).run P w) := by
  rw [Sem.run_bind]
  generalize s.run P w = r
  cases r with
  | ok v w' => trivial
  | halt x w' => trivial
theorem Tame.val {P : Program} {o : Oper} (s : (Operand → Value) → Sem Value) (h : ∀ ρ, execOp ρ o = (s ρ >>= fun v => (pure (Next.value v) : Sem Next))) (hc : ∀ c, o.op ≠ .call c) (hd : ∀ c, o.op ≠ .defer c) : Tame P o :=
  ⟨hd, fun w ρ f => by
    unfold Oper.about
    split
    · rename_i c e; exact absurd e (hc c)
    · simp, fun w ρ => by rw [h ρ]; exact Plain.val _ _⟩
theorem Tame.unit {P : Program} {o : Oper} (s : (Operand → Value) → Sem Unit) (h : ∀ ρ, execOp ρ o = (s ρ >>= fun _ => (pure Next.skip : Sem Next))) (hc : ∀ c, o.op ≠ .call c) (hd : ∀ c, o.op ≠ .defer c) : Tame P o :=
  ⟨hd, fun w ρ f => by
    unfold Oper.about
    split
    · rename_i c e; exact absurd e (hc c)
    · simp, fun w ρ => by rw [h ρ]; exact Plain.unit _ _⟩
theorem Tame.mv {P : Program} {o : Oper} (x : Operand) (h : o.op = .move x) : Tame P o :=
  ⟨fun c e => (by rw [h] at e; cases e), fun w ρ f => (by unfold Oper.about; rw [h]; simp), fun w ρ => (by unfold execOp; rw [h]; exact trivial)⟩
theorem Tame.append {P : Program} {o : Oper} (s x : Operand) (t : TypeId) (h : o.op = .call { callee := .builtin .append, args := #[s, x], argTypes := #[t, t] }) : Tame P o :=
  ⟨fun c e => (by rw [h] at e; cases e), fun w ρ f => by
    unfold Oper.about
    rw [h]
    simp [resolve, Target.leads], fun w ρ => by
    simp only [execOp, h]
    simp [resolve, invoke, builtin]
    generalize (Builtin.append_ _ _ _).run P w = r
    cases r with
    | ok v w' => trivial
    | halt y w' => trivial⟩

section
variable {F : Fence} {n : Nat} {P : Program} {ops : Array Oper} {md : Region.Mode} {Q : Exit → Act → World → Prop}
theorem wpIn_of_tame {o : Oper} {a : Act} {w : World} {K K' : Act → World → Prop} (T : Tame P o) (hK : ∀ a w, K a w → K' a w) (h : o.wp P a w K (NP Q)) : o.wpIn F n P a w K' Q := by
  refine ⟨fun f e => absurd e (T.ab w _ f), ?_⟩
  rw [Oper.semAt_plain F _ _ T.nd]
  have hp := T.pl w a.eval
  unfold Oper.wp at h
  generalize (execOp a.eval o).run P w = r at *
  cases r with
  | ok x w' => cases x <;> first | exact hK _ _ h | exact hp.elim
  | halt x w' => cases x <;> exact (show False from h).elim
theorem wpOpIn_of_tame {i : Nat} {a : Act} {w : World} {K K' : Act → World → Prop} (T : ∀ o, ops[i]? = some o → Tame P o) (hK : ∀ a w, K a w → K' a w) (h : wpOp P ops (NP Q) i K a w) : wpOpIn F n P ops Q i K' a w := by
  unfold wpOp at h
  unfold wpOpIn
  cases e : ops[i]? with
  | none => simp only [e] at h ⊢; exact hK _ _ h
  | some o =>
    simp only [e] at h ⊢
    split
    · rename_i hw
      rw [if_pos hw] at h
      rcases h with h | ⟨_, _, _, h⟩
      · exact wpIn_of_tame (T o e) hK h
      · exact (show False from h).elim
    · rename_i hw
      rw [if_neg hw] at h
      exact ⟨fun f e2 => absurd e2 ((T o e).ab w _ f), hK _ _ h⟩
theorem wpAnyIn_of_tame (T : ∀ (i : Nat) (o : Oper), ops[i]? = some o → Tame P o) : ∀ (fuel : Nat) (listed : Array Bool) (a : Act) (w : World), wpAny P md ops (NP Q) fuel listed a w → wpAnyIn F n P md ops Q fuel listed a w
  | 0, _, _, _, h => h
  | fuel + 1, _, _, _, h => ⟨h.1, fun i hi => wpOpIn_of_tame (T i) (fun a' w' h' => wpAnyIn_of_tame T fuel _ a' w' h') (h.2 i hi)⟩
end
theorem wpIn_region_tame {F : Fence} {n : Nat} {P : Program} {id : Nat} {l : List Oper} {Q : Exit → Act → World → Prop} {a : Act} {w : World} (hm : P.follows .mixedOrders = true) (T : ∀ o ∈ l, Tame P o)
    (h : wpAny P .any l.toArray (NP Q) l.length (Array.replicate l.length false) a w.drew) : (Code.region id l.toArray true).wpIn F n P Q a w := by
  refine wpIn_region_any hm ?_
  simp only [List.size_toArray]
  exact wpAnyIn_of_tame (fun i o ho => T o (by simp at ho; exact List.mem_of_getElem? ho)) _ _ _ _ h
end Go.Proofs.Ytnpgpbcpgniloaa
