/-
  granulelaw22: awake() is true in any world.
-/
import Derived.Test.YtlpejfoeiaogcabGreatP1
import Derived.Test.YtlpejfoeiaogcabGreatP2
import Derived.Test.YtlpejfoeiaogcabGreatP3
import Derived.Test.YtlpejfoeiaogcabGreatP4
import Derived.Test.YtlpejfoeiaogcabGreatP5
set_option linter.unusedSimpArgs false
set_option linter.unusedVariables false
namespace GrG
open Go Go.RowKit Go.Proofs
theorem envOk0 : EnvOk Tryz.prog env0 := EnvOk.more theE_ok (l := []) fun p hp => by cases hp
theorem ok0 : EntOk Tryz.prog theE.ng 139 ent0 := entOk_of envOk0 run0
theorem envOk1 : EnvOk Tryz.prog env1 := EnvOk.more theE_ok (l := []) fun p hp => by cases hp
theorem ok1 : EntOk Tryz.prog theE.ng 624 ent1 := entOk_of envOk1 run1
theorem envOk2 : EnvOk Tryz.prog env2 := EnvOk.more theE_ok fun p hp => by
  simp only [List.mem_cons, List.not_mem_nil, or_false] at hp
  rcases hp with rfl | rfl
  · exact ok0
  · exact ok1
theorem ok2 : EntOk Tryz.prog theE.ng 15 ent2 := entOk_of envOk2 run2
theorem envOk3 : EnvOk Tryz.prog env3 := EnvOk.more theE_ok (l := []) fun p hp => by cases hp
theorem ok3 : EntOk Tryz.prog theE.ng 1411 ent3 := entOk_of envOk3 run3
theorem envOk4 : EnvOk Tryz.prog env4 := EnvOk.more theE_ok (l := []) fun p hp => by cases hp
theorem ok4 : EntOk Tryz.prog theE.ng 1944 ent4 := entOk_of envOk4 run4
theorem envOk5 : EnvOk Tryz.prog env5 := EnvOk.more theE_ok fun p hp => by
  simp only [List.mem_cons, List.not_mem_nil, or_false] at hp
  rcases hp with rfl | rfl
  · exact ok3
  · exact ok4
theorem ok5 : EntOk Tryz.prog theE.ng 1403 ent5 := entOk_of envOk5 run5
theorem envOk6 : EnvOk Tryz.prog env6 := EnvOk.more theE_ok (l := []) fun p hp => by cases hp
theorem ok6 : EntOk Tryz.prog theE.ng 2495 ent6 := entOk_of envOk6 run6
theorem envOk7 : EnvOk Tryz.prog env7 := EnvOk.more theE_ok (l := []) fun p hp => by cases hp
theorem ok7 : EntOk Tryz.prog theE.ng 2980 ent7 := entOk_of envOk7 run7
theorem envOk8 : EnvOk Tryz.prog env8 := EnvOk.more theE_ok fun p hp => by
  simp only [List.mem_cons, List.not_mem_nil, or_false] at hp
  rcases hp with rfl | rfl | rfl
  · exact ok5
  · exact ok6
  · exact ok7
theorem ok8 : EntOk Tryz.prog theE.ng 1180 ent8 := entOk_of envOk8 run8
theorem envOk9 : EnvOk Tryz.prog env9 := EnvOk.more theE_ok (l := []) fun p hp => by cases hp
theorem ok9 : EntOk Tryz.prog theE.ng 3641 ent9 := entOk_of envOk9 run9
theorem envOk10 : EnvOk Tryz.prog env10 := EnvOk.more theE_ok (l := []) fun p hp => by cases hp
theorem ok10 : EntOk Tryz.prog theE.ng 4126 ent10 := entOk_of envOk10 run10
theorem envOk11 : EnvOk Tryz.prog env11 := EnvOk.more theE_ok fun p hp => by
  simp only [List.mem_cons, List.not_mem_nil, or_false] at hp
  rcases hp with rfl | rfl
  · exact ok9
  · exact ok10
theorem ok11 : EntOk Tryz.prog theE.ng 3517 ent11 := entOk_of envOk11 run11
theorem envOk12 : EnvOk Tryz.prog env12 := EnvOk.more theE_ok (l := []) fun p hp => by cases hp
theorem ok12 : EntOk Tryz.prog theE.ng 4913 ent12 := entOk_of envOk12 run12
theorem envOk13 : EnvOk Tryz.prog env13 := EnvOk.more theE_ok (l := []) fun p hp => by cases hp
theorem ok13 : EntOk Tryz.prog theE.ng 5438 ent13 := entOk_of envOk13 run13
theorem envOk14 : EnvOk Tryz.prog env14 := EnvOk.more theE_ok fun p hp => by
  simp only [List.mem_cons, List.not_mem_nil, or_false] at hp
  rcases hp with rfl | rfl
  · exact ok12
  · exact ok13
theorem ok14 : EntOk Tryz.prog theE.ng 4905 ent14 := entOk_of envOk14 run14
theorem envOk15 : EnvOk Tryz.prog env15 := EnvOk.more theE_ok (l := []) fun p hp => by cases hp
theorem ok15 : EntOk Tryz.prog theE.ng 5982 ent15 := entOk_of envOk15 run15
theorem envOk16 : EnvOk Tryz.prog env16 := EnvOk.more theE_ok (l := []) fun p hp => by cases hp
theorem ok16 : EntOk Tryz.prog theE.ng 6467 ent16 := entOk_of envOk16 run16
theorem envOk17 : EnvOk Tryz.prog env17 := EnvOk.more theE_ok fun p hp => by
  simp only [List.mem_cons, List.not_mem_nil, or_false] at hp
  rcases hp with rfl | rfl | rfl
  · exact ok14
  · exact ok15
  · exact ok16
theorem ok17 : EntOk Tryz.prog theE.ng 4682 ent17 := entOk_of envOk17 run17
theorem envOkTop : EnvOk Tryz.prog envTop := EnvOk.more theE_ok fun p hp => by
  simp only [List.mem_cons, List.not_mem_nil, or_false] at hp
  rcases hp with rfl | rfl | rfl | rfl
  · exact ok2
  · exact ok8
  · exact ok11
  · exact ok17
/-- awake() is true, and leaves what was there as it was -/
theorem awake_any (W : World) : Calls Tryz.prog 4 #[] W fun e W' => e = .returned (.bool true) ∧ Below W.heap.size W W' := by
  obtain ⟨σ, h⟩ := is_rows (G := 0) (R := []) (W := W) (fun p hp => by cases hp) (fun p hp => by cases hp)
  exact (answer_ok envOkTop (isTrue_eq runTop) (fun hi hh => h hi hh) .nil).mono fun e W' ⟨q, σ', h1, _, h2, h3⟩ => ⟨by
    cases h2
    exact h1, h3⟩
end GrG
