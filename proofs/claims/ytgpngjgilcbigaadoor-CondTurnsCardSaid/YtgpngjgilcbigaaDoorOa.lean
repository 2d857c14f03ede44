/-
  PLAIN LAYER 11: conditions ts trees: count, right, holds, small. No program in sight.
-/
import Derived.Test.YtgpngjgilcbigaaDoorRows
set_option linter.unusedSimpArgs false
set_option linter.unusedVariables false
namespace GrC
open Go
inductive Cnd where
  | node (k co r ad va : Int) (args : List Cnd)
def Cnd.k : Cnd → Int | .node k _ _ _ _ _ => k
def Cnd.co : Cnd → Int | .node _ co _ _ _ _ => co
def Cnd.r : Cnd → Int | .node _ _ r _ _ _ => r
def Cnd.ad : Cnd → Int | .node _ _ _ ad _ _ => ad
def Cnd.va : Cnd → Int | .node _ _ _ _ va _ => va
def Cnd.args : Cnd → List Cnd | .node _ _ _ _ _ ts => ts
mutual
def Cnd.cnt : Cnd → Nat
  | .node _ _ _ _ _ ts => 1 + cntL ts
def cntL : List Cnd → Nat
  | [] => 0
  | a :: ts => a.cnt + cntL ts
end
/-- how many arguments a kind has; -1: it is none -/
def arity (k : Int) : Int := if k = 1 ∨ k = 2 ∨ k = 3 ∨ k = 7 then 0 else if k = 6 then 1 else if k = 4 ∨ k = 5 then 2 else -1
mutual
def Cnd.right (cores : Int) : Cnd → Nat
  | .node k co r _ _ ts => if (ts.length : Int) ≠ arity k ∨ (k = 1 ∧ (r < 0 ∨ 31 ≤ r)) then 1 else if (k = 1 ∨ k = 3) ∧ (co < 0 ∨ cores ≤ co) then 131 else rightL cores ts
def rightL (cores : Int) : List Cnd → Nat
  | [] => 0
  | a :: ts => if a.right cores ≠ 0 then a.right cores else rightL cores ts
end
def Cnd.rightly (cores : Int) (c : Cnd) : Nat := if 64 < c.cnt then 120 else c.right cores
mutual
def Cnd.small : Nat → Cnd → Bool
  | 0, _ => false
  | d + 1, .node _ _ _ _ _ ts => decide (ts.length ≤ 6) && smallL d ts
def smallL : Nat → List Cnd → Bool
  | _, [] => true
  | d, a :: ts => a.small d && smallL d ts
end
/-- an outcome: cores' registers, how many faults, cells -/
structure Out where
  regs : List (List Int)
  flts : List Nat
  cells : List (Int × Int)
def cellOf (L : List (Int × Int)) (a : Int) : Int := ((L.reverse.find? fun p => decide (p.1 = a)).map Prod.snd).getD 0
def leafB (o : Out) (k co r ad va : Int) : Bool :=
  if k = 1 then decide (0 ≤ co ∧ 0 ≤ r ∧ (o.regs[co.toNat]?.bind fun l => l[r.toNat]?) = some va)
  else if k = 2 then decide (cellOf o.cells ad = va)
  else if k = 3 then decide (0 ≤ co ∧ (o.flts[co.toNat]?.map fun n => (n : Int)) = some va)
  else decide (k = 7)
mutual
def Cnd.holds (o : Out) : Cnd → Bool
  | .node k co r ad va ts =>
    if k = 6 then decide (ts.length = 1) && !anyL o ts
    else if k = 4 then decide (ts.length = 2) && allL o ts
    else if k = 5 then decide (ts.length = 2) && anyL o ts
    else leafB o k co r ad va
def allL (o : Out) : List Cnd → Bool
  | [] => true
  | a :: ts => a.holds o && allL o ts
def anyL (o : Out) : List Cnd → Bool
  | [] => false
  | a :: ts => a.holds o || anyL o ts
end
theorem cnt_pos (c : Cnd) : 1 ≤ c.cnt := by
  cases c
  rw [Cnd.cnt]
  omega
theorem arity_eq (k : Int) (n : Nat) : ((n : Int) = arity k) = (((k = 1 ∨ k = 2 ∨ k = 3 ∨ k = 7) ∧ n = 0) ∨ (k = 6 ∧ n = 1) ∨ ((k = 4 ∨ k = 5) ∧ n = 2)) := by
  unfold arity
  apply propext
  split
  · constructor
    · intro h; exact .inl ⟨by assumption, by omega⟩
    · rintro (⟨_, rfl⟩ | ⟨rfl, _⟩ | ⟨h, _⟩) <;> omega
  · split
    · constructor
      · intro h; exact .inr (.inl ⟨by assumption, by omega⟩)
      · rintro (⟨_, rfl⟩ | ⟨rfl, rfl⟩ | ⟨h, _⟩) <;> omega
    · split
      · constructor
        · intro h; exact .inr (.inr ⟨by assumption, by omega⟩)
        · rintro (⟨h, rfl⟩ | ⟨rfl, _⟩ | ⟨h, rfl⟩) <;> omega
      · constructor
        · intro h; omega
        · rintro (⟨h, rfl⟩ | ⟨rfl, _⟩ | ⟨h, _⟩) <;> omega
end GrC
