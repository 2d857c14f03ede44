/-
  granulelaw12.awake is true, in any world whose tables are as the text says.
-/
import Derived.Test.YtlpejfoeiaogcaaGreatDoorR31
import Derived.Test.YtlpejfoeiaogcaaGreatDoorR32
set_option linter.unusedSimpArgs false
set_option linter.unusedVariables false
namespace GrG
open Go Go.RowKit Go.Proofs
/-- the tables, by their variables -/
def lits : List (Nat × List AV) := [(10, lt0), (11, lt1), (9, lt2), (7, lt3), (8, lt4), (5, lt5), (1, lt6), (2, lt7), (3, lt8), (4, lt9)]
noncomputable def rowsM (x : AV) : List (Nat × List AV) := lits ++ [(0, [x])]
theorem theM_eq (x : AV) : theM x = ⟨rowsOf (rowsM x) .leaf, 12, [], []⟩ := rfl
theorem awake_row {W : World} {x : AV} (hT : ∀ p ∈ lits, RowAt W p.1 p.2) (hm : RowAt W 0 [x]) (hx : isTrue (answer theE 100000 4 [] (theM x)) = true) :
    Calls Tryz.prog 4 #[] W fun e W' => e = .returned (.bool true) ∧ Below W.heap.size W W' := by
  obtain ⟨σ, h⟩ := is_rows (G := 12) (R := rowsM x) (W := W) (fun p hp => by
    rcases List.mem_append.1 hp with hp | hp
    · have : lits.all (fun p => decide (p.1 < 12)) = true := by decide
      exact of_decide_eq_true (List.all_eq_true.1 this p hp)
    · rcases List.mem_singleton.1 hp with rfl
      exact (by decide : 0 < 12)) (fun p hp => by
    rcases List.mem_append.1 hp with hp | hp
    · exact hT p hp
    · rcases List.mem_singleton.1 hp with rfl
      exact hm)
  exact awake_of hx (fun hi hh => by
    rw [theM_eq]
    exact h hi hh)
/-- whatever bytealg.MaxLen is -/
theorem awake_any {W : World} (hT : ∀ p ∈ lits, RowAt W p.1 p.2) {cs : Array Value} {t : Nat} {m : Int} (hg : W.heap[0]? = some (.cells cs t (0, 0))) (hm : cs[0]? = some (.int .i64 m)) :
    Calls Tryz.prog 4 #[] W fun e W' => e = .returned (.bool true) ∧ Below W.heap.size W W' := by
  have row : ∀ x : AV, (∀ σ, VRel σ x (.int .i64 m)) → RowAt W 0 [x] := fun x hx => ⟨cs, t, hg, fun σ j a hj => by
    cases j with
    | zero =>
      cases hj
      exact ⟨_, hm, hx σ⟩
    | succ j => cases hj⟩
  by_cases h : m < 2
  · exact awake_row hT (row (.les 2) fun σ => .les (by simpa using h)) awake_les
  · obtain ⟨k, rfl⟩ : ∃ k : Nat, m = Int.ofNat k := ⟨m.toNat, by simp; omega⟩
    exact awake_row hT (row (.atl 2) fun σ => .atl (by simp at h; omega)) awake_atl
end GrG
