/-
  Texts of one claim, merged.
-/
import Derived.Test.YtlflknfkenfpiaaGreatDoorQ1a
import Derived.Test.YtlflknfkenfpiaaGreatDoorQ1b
import Derived.Test.YtlflknfkenfpiaaGreatDoorQ1c
set_option linter.unusedSimpArgs false
set_option linter.unusedVariables false
namespace GrG
open Go Go.RowKit Go.Proofs
theorem theE_ok : EnvOk Tryz.prog theE := envOf_ok (by kernel_rfl) fun p hp => by
  simp only [List.mem_cons, List.not_mem_nil, or_false] at hp
  rcases hp with rfl | rfl | rfl | rfl
  · exact xok_indexByte (fn := Tryz.f184) (by kernel_rfl) (by kernel_rfl) (by kernel_rfl) (by kernel_rfl) (by kernel_rfl)
  · exact xok_index (fn := Tryz.f158) (by kernel_rfl) (by kernel_rfl) (by kernel_rfl) (by kernel_rfl) (by kernel_rfl) (by decide) (by kernel_rfl)
  · exact xok_add64 (fn := Tryz.f181) (by kernel_rfl) (by kernel_rfl) (by kernel_rfl) (by kernel_rfl) (by kernel_rfl)
  · exact xok_same (fn := Tryz.f115) (by kernel_rfl) (by kernel_rfl) (by kernel_rfl) (by kernel_rfl) (by kernel_rfl)
theorem envOk0 : EnvOk Tryz.prog env0 := EnvOk.more theE_ok (l := []) fun p hp => by cases hp
theorem ok0 {x : AV} (hx : x = .atl 2 ∨ x = .les 2) : EntOk Tryz.prog theE.ng 14 (ent0 x) := by
  rcases hx with rfl | rfl
  · exact entOk_of envOk0 run0A
  · exact entOk_of envOk0 run0B
theorem envOk1 : EnvOk Tryz.prog env1 := EnvOk.more theE_ok (l := []) fun p hp => by cases hp
theorem ok1 : EntOk Tryz.prog theE.ng 720 ent1 := entOk_of envOk1 run1
theorem envOkTop {x : AV} (hx : x = .atl 2 ∨ x = .les 2) : EnvOk Tryz.prog (envTop x) := EnvOk.more theE_ok fun p hp => by
  simp only [List.mem_cons, List.not_mem_nil, or_false] at hp
  rcases hp with rfl | rfl
  · exact ok0 hx
  · exact ok1
theorem awake_row {W : World} {x : AV} (hx : x = .atl 2 ∨ x = .les 2) (hT : ∀ p ∈ lits, RowAt W p.1 p.2) (hm : RowAt W 7 [x]) :
    Calls Tryz.prog 4 #[] W fun e W' => e = .returned (.bool true) ∧ Below W.heap.size W W' := by
  obtain ⟨σ, h⟩ := is_rows (G := 12) (R := rowsM x) (W := W) (fun p hp => by
    rcases List.mem_append.1 hp with hp | hp
    · have : lits.all (fun p => decide (p.1 < 12)) = true := by decide
      exact of_decide_eq_true (List.all_eq_true.1 this p hp)
    · rcases List.mem_singleton.1 hp with rfl
      exact (by decide : 7 < 12)) (fun p hp => by
    rcases List.mem_append.1 hp with hp | hp
    · exact hT p hp
    · rcases List.mem_singleton.1 hp with rfl
      exact hm)
  have ha : isTrue (answer (envTop x) 100000 4 [] (theM x)) = true := by
    rcases hx with rfl | rfl
    · exact runTopA
    · exact runTopB
  exact (answer_ok (envOkTop hx) (isTrue_eq ha) (fun hi hh => h hi hh) .nil).mono fun e W' ⟨q, σ', h1, _, h2, h3⟩ => ⟨by
    cases h2
    exact h1, h3⟩
theorem awake_any {W : World} (hT : ∀ p ∈ lits, RowAt W p.1 p.2) {cs : Array Value} {t : Nat} {m : Int} (hg : W.heap[7]? = some (.cells cs t (0, 0))) (hm : cs[0]? = some (.int .i64 m)) :
    Calls Tryz.prog 4 #[] W fun e W' => e = .returned (.bool true) ∧ Below W.heap.size W W' := by
  have row : ∀ x : AV, (∀ σ, VRel σ x (.int .i64 m)) → RowAt W 7 [x] := fun x hx => ⟨cs, t, hg, fun σ j a hj => by
    cases j with
    | zero =>
      cases hj
      exact ⟨_, hm, hx σ⟩
    | succ j => cases hj⟩
  by_cases h : m < 2
  · exact awake_row (.inr rfl) hT (row (.les 2) fun σ => .les (by simpa using h))
  · obtain ⟨k, rfl⟩ : ∃ k : Nat, m = Int.ofNat k := ⟨m.toNat, by simp; omega⟩
    exact awake_row (.inl rfl) hT (row (.atl 2) fun σ => .atl (by simp at h; omega))
end GrG
