/-
  granulelaw24, cut into calls that are known: awake() is true in any world whose tables are as the text says.
-/
import Derived.Test.YtjnhfobeibdelaaGreatDoorQ2a
import Derived.Test.YtjnhfobeibdelaaGreatDoorQ2b
import Derived.Test.YtjnhfobeibdelaaGreatDoorQ2c
import Derived.Test.YtjnhfobeibdelaaGreatDoorQ2d
import Derived.Test.YtjnhfobeibdelaaGreatDoorQ2e
import Derived.Test.YtjnhfobeibdelaaGreatDoorQ2f
import Derived.Test.YtjnhfobeibdelaaGreatDoorQ2g
import Derived.Test.YtjnhfobeibdelaaGreatDoorQ2h
import Derived.Test.YtjnhfobeibdelaaGreatDoorQ2i
import Derived.Test.YtjnhfobeibdelaaGreatDoorQ2j
import Derived.Test.YtjnhfobeibdelaaGreatDoorQ2k
import Derived.Test.YtjnhfobeibdelaaGreatDoorQ2l
import Derived.Test.YtjnhfobeibdelaaGreatDoorQ2m
import Derived.Test.YtjnhfobeibdelaaGreatDoorQ2n
import Derived.Test.YtjnhfobeibdelaaGreatDoorQ2o
import Derived.Test.YtjnhfobeibdelaaGreatDoorQ2p
import Derived.Test.YtjnhfobeibdelaaGreatDoorQ2q
set_option linter.unusedSimpArgs false
set_option linter.unusedVariables false
namespace GrG
open Go Go.RowKit Go.Proofs
theorem theE_ok : EnvOk Tryz.prog theE := envOf_ok (by kernel_rfl) fun p hp => by
  simp only [List.mem_cons, List.not_mem_nil, or_false] at hp
  rcases hp with rfl | rfl
  · exact xok_same (fn := Tryz.f74) (by kernel_rfl) (by kernel_rfl) (by kernel_rfl) (by kernel_rfl) (by kernel_rfl)
  · exact xok_overlaps (fn := Tryz.f210) (t := 60) (r := 4) (el := 54) (by kernel_rfl) (by kernel_rfl) (by kernel_rfl) (by kernel_rfl) (by kernel_rfl) (by kernel_rfl) fun w => Tryz.sizeOf54 w
theorem envOk0 : EnvOk Tryz.prog env0 := EnvOk.more theE_ok (l := []) fun p hp => by cases hp
theorem ok0 : EntOk Tryz.prog theE.ng 1678 ent0 := entOk_of envOk0 run0
theorem envOk1 : EnvOk Tryz.prog env1 := EnvOk.more theE_ok (l := []) fun p hp => by cases hp
theorem ok1 : EntOk Tryz.prog theE.ng 1976 ent1 := entOk_of envOk1 run1
theorem envOk2 : EnvOk Tryz.prog env2 := EnvOk.more theE_ok (l := []) fun p hp => by cases hp
theorem ok2 : EntOk Tryz.prog theE.ng 2427 ent2 := entOk_of envOk2 run2
theorem envOk3 : EnvOk Tryz.prog env3 := EnvOk.more theE_ok (l := []) fun p hp => by cases hp
theorem ok3 : EntOk Tryz.prog theE.ng 2743 ent3 := entOk_of envOk3 run3
theorem envOk4 : EnvOk Tryz.prog env4 := EnvOk.more theE_ok (l := []) fun p hp => by cases hp
theorem ok4 : EntOk Tryz.prog theE.ng 3081 ent4 := entOk_of envOk4 run4
theorem envOk5 : EnvOk Tryz.prog env5 := EnvOk.more theE_ok (l := []) fun p hp => by cases hp
theorem ok5 : EntOk Tryz.prog theE.ng 4038 ent5 := entOk_of envOk5 run5
theorem envOk6 : EnvOk Tryz.prog env6 := EnvOk.more theE_ok (l := []) fun p hp => by cases hp
theorem ok6 : EntOk Tryz.prog theE.ng 4555 ent6 := entOk_of envOk6 run6
theorem envOk7 : EnvOk Tryz.prog env7 := EnvOk.more theE_ok (l := []) fun p hp => by cases hp
theorem ok7 : EntOk Tryz.prog theE.ng 5099 ent7 := entOk_of envOk7 run7
theorem envOk8 : EnvOk Tryz.prog env8 := EnvOk.more theE_ok (l := []) fun p hp => by cases hp
theorem ok8 : EntOk Tryz.prog theE.ng 5580 ent8 := entOk_of envOk8 run8
theorem envOk9 : EnvOk Tryz.prog env9 := EnvOk.more theE_ok fun p hp => by
  simp only [List.mem_cons, List.not_mem_nil, or_false] at hp
  rcases hp with rfl | rfl | rfl | rfl
  · exact ok5
  · exact ok6
  · exact ok7
  · exact ok8
theorem ok9 : EntOk Tryz.prog theE.ng 3803 ent9 := entOk_of envOk9 run9
theorem envOk10 : EnvOk Tryz.prog env10 := EnvOk.more theE_ok (l := []) fun p hp => by cases hp
theorem ok10 : EntOk Tryz.prog theE.ng 6385 ent10 := entOk_of envOk10 run10
theorem envOk11 : EnvOk Tryz.prog env11 := EnvOk.more theE_ok (l := []) fun p hp => by cases hp
theorem ok11 : EntOk Tryz.prog theE.ng 6906 ent11 := entOk_of envOk11 run11
theorem envOk12 : EnvOk Tryz.prog env12 := EnvOk.more theE_ok (l := []) fun p hp => by cases hp
theorem ok12 : EntOk Tryz.prog theE.ng 7457 ent12 := entOk_of envOk12 run12
theorem envOk13 : EnvOk Tryz.prog env13 := EnvOk.more theE_ok (l := []) fun p hp => by cases hp
theorem ok13 : EntOk Tryz.prog theE.ng 7939 ent13 := entOk_of envOk13 run13
theorem envOk14 : EnvOk Tryz.prog env14 := EnvOk.more theE_ok fun p hp => by
  simp only [List.mem_cons, List.not_mem_nil, or_false] at hp
  rcases hp with rfl | rfl | rfl | rfl
  · exact ok10
  · exact ok11
  · exact ok12
  · exact ok13
theorem ok14 : EntOk Tryz.prog theE.ng 6153 ent14 := entOk_of envOk14 run14
theorem envOk15 : EnvOk Tryz.prog env15 := EnvOk.more theE_ok (l := []) fun p hp => by cases hp
theorem ok15 : EntOk Tryz.prog theE.ng 8749 ent15 := entOk_of envOk15 run15
theorem envOk16 : EnvOk Tryz.prog env16 := EnvOk.more theE_ok (l := []) fun p hp => by cases hp
theorem ok16 : EntOk Tryz.prog theE.ng 9270 ent16 := entOk_of envOk16 run16
theorem envOk17 : EnvOk Tryz.prog env17 := EnvOk.more theE_ok (l := []) fun p hp => by cases hp
theorem ok17 : EntOk Tryz.prog theE.ng 9821 ent17 := entOk_of envOk17 run17
theorem envOk18 : EnvOk Tryz.prog env18 := EnvOk.more theE_ok (l := []) fun p hp => by cases hp
theorem ok18 : EntOk Tryz.prog theE.ng 10303 ent18 := entOk_of envOk18 run18
theorem envOk19 : EnvOk Tryz.prog env19 := EnvOk.more theE_ok fun p hp => by
  simp only [List.mem_cons, List.not_mem_nil, or_false] at hp
  rcases hp with rfl | rfl | rfl | rfl
  · exact ok15
  · exact ok16
  · exact ok17
  · exact ok18
theorem ok19 : EntOk Tryz.prog theE.ng 8515 ent19 := entOk_of envOk19 run19
theorem envOk20 : EnvOk Tryz.prog env20 := EnvOk.more theE_ok (l := []) fun p hp => by cases hp
theorem ok20 : EntOk Tryz.prog theE.ng 11117 ent20 := entOk_of envOk20 run20
theorem envOk21 : EnvOk Tryz.prog env21 := EnvOk.more theE_ok (l := []) fun p hp => by cases hp
theorem ok21 : EntOk Tryz.prog theE.ng 11642 ent21 := entOk_of envOk21 run21
theorem envOk22 : EnvOk Tryz.prog env22 := EnvOk.more theE_ok (l := []) fun p hp => by cases hp
theorem ok22 : EntOk Tryz.prog theE.ng 12200 ent22 := entOk_of envOk22 run22
theorem envOk23 : EnvOk Tryz.prog env23 := EnvOk.more theE_ok (l := []) fun p hp => by cases hp
theorem ok23 : EntOk Tryz.prog theE.ng 12683 ent23 := entOk_of envOk23 run23
theorem envOk24 : EnvOk Tryz.prog env24 := EnvOk.more theE_ok fun p hp => by
  simp only [List.mem_cons, List.not_mem_nil, or_false] at hp
  rcases hp with rfl | rfl | rfl | rfl
  · exact ok20
  · exact ok21
  · exact ok22
  · exact ok23
theorem ok24 : EntOk Tryz.prog theE.ng 10886 ent24 := entOk_of envOk24 run24
theorem envOk25 : EnvOk Tryz.prog env25 := EnvOk.more theE_ok fun p hp => by
  simp only [List.mem_cons, List.not_mem_nil, or_false] at hp
  rcases hp with rfl | rfl | rfl | rfl | rfl | rfl | rfl | rfl | rfl
  · exact ok0
  · exact ok1
  · exact ok2
  · exact ok3
  · exact ok4
  · exact ok9
  · exact ok14
  · exact ok19
  · exact ok24
theorem ok25 : EntOk Tryz.prog theE.ng 1653 ent25 := entOk_of envOk25 run25
theorem envOk26 : EnvOk Tryz.prog env26 := EnvOk.more theE_ok (l := []) fun p hp => by cases hp
theorem ok26 : EntOk Tryz.prog theE.ng 13309 ent26 := entOk_of envOk26 run26
theorem envOk27 : EnvOk Tryz.prog env27 := EnvOk.more theE_ok (l := []) fun p hp => by cases hp
theorem ok27 : EntOk Tryz.prog theE.ng 13632 ent27 := entOk_of envOk27 run27
theorem envOk28 : EnvOk Tryz.prog env28 := EnvOk.more theE_ok (l := []) fun p hp => by cases hp
theorem ok28 : EntOk Tryz.prog theE.ng 14124 ent28 := entOk_of envOk28 run28
theorem envOk29 : EnvOk Tryz.prog env29 := EnvOk.more theE_ok (l := []) fun p hp => by cases hp
theorem ok29 : EntOk Tryz.prog theE.ng 14473 ent29 := entOk_of envOk29 run29
theorem envOk30 : EnvOk Tryz.prog env30 := EnvOk.more theE_ok (l := []) fun p hp => by cases hp
theorem ok30 : EntOk Tryz.prog theE.ng 14852 ent30 := entOk_of envOk30 run30
theorem envOk31 : EnvOk Tryz.prog env31 := EnvOk.more theE_ok (l := []) fun p hp => by cases hp
theorem ok31 : EntOk Tryz.prog theE.ng 15891 ent31 := entOk_of envOk31 run31
theorem envOk32 : EnvOk Tryz.prog env32 := EnvOk.more theE_ok (l := []) fun p hp => by cases hp
theorem ok32 : EntOk Tryz.prog theE.ng 16478 ent32 := entOk_of envOk32 run32
theorem envOk33 : EnvOk Tryz.prog env33 := EnvOk.more theE_ok (l := []) fun p hp => by cases hp
theorem ok33 : EntOk Tryz.prog theE.ng 17090 ent33 := entOk_of envOk33 run33
theorem envOk34 : EnvOk Tryz.prog env34 := EnvOk.more theE_ok (l := []) fun p hp => by cases hp
theorem ok34 : EntOk Tryz.prog theE.ng 17633 ent34 := entOk_of envOk34 run34
theorem envOk35 : EnvOk Tryz.prog env35 := EnvOk.more theE_ok fun p hp => by
  simp only [List.mem_cons, List.not_mem_nil, or_false] at hp
  rcases hp with rfl | rfl | rfl | rfl
  · exact ok31
  · exact ok32
  · exact ok33
  · exact ok34
theorem ok35 : EntOk Tryz.prog theE.ng 15640 ent35 := entOk_of envOk35 run35
theorem envOk36 : EnvOk Tryz.prog env36 := EnvOk.more theE_ok (l := []) fun p hp => by cases hp
theorem ok36 : EntOk Tryz.prog theE.ng 18516 ent36 := entOk_of envOk36 run36
theorem envOk37 : EnvOk Tryz.prog env37 := EnvOk.more theE_ok (l := []) fun p hp => by cases hp
theorem ok37 : EntOk Tryz.prog theE.ng 19107 ent37 := entOk_of envOk37 run37
theorem envOk38 : EnvOk Tryz.prog env38 := EnvOk.more theE_ok (l := []) fun p hp => by cases hp
theorem ok38 : EntOk Tryz.prog theE.ng 19726 ent38 := entOk_of envOk38 run38
theorem envOk39 : EnvOk Tryz.prog env39 := EnvOk.more theE_ok (l := []) fun p hp => by cases hp
theorem ok39 : EntOk Tryz.prog theE.ng 20270 ent39 := entOk_of envOk39 run39
theorem envOk40 : EnvOk Tryz.prog env40 := EnvOk.more theE_ok fun p hp => by
  simp only [List.mem_cons, List.not_mem_nil, or_false] at hp
  rcases hp with rfl | rfl | rfl | rfl
  · exact ok36
  · exact ok37
  · exact ok38
  · exact ok39
theorem ok40 : EntOk Tryz.prog theE.ng 18268 ent40 := entOk_of envOk40 run40
theorem envOk41 : EnvOk Tryz.prog env41 := EnvOk.more theE_ok (l := []) fun p hp => by cases hp
theorem ok41 : EntOk Tryz.prog theE.ng 21158 ent41 := entOk_of envOk41 run41
theorem envOk42 : EnvOk Tryz.prog env42 := EnvOk.more theE_ok (l := []) fun p hp => by cases hp
theorem ok42 : EntOk Tryz.prog theE.ng 21749 ent42 := entOk_of envOk42 run42
theorem envOk43 : EnvOk Tryz.prog env43 := EnvOk.more theE_ok fun p hp => by
  simp only [List.mem_cons, List.not_mem_nil, or_false] at hp
  rcases hp with rfl | rfl
  · exact ok41
  · exact ok42
theorem ok43 : EntOk Tryz.prog theE.ng 20908 ent43 := entOk_of envOk43 run43
theorem envOk44 : EnvOk Tryz.prog env44 := EnvOk.more theE_ok (l := []) fun p hp => by cases hp
theorem ok44 : EntOk Tryz.prog theE.ng 22624 ent44 := entOk_of envOk44 run44
theorem envOk45 : EnvOk Tryz.prog env45 := EnvOk.more theE_ok (l := []) fun p hp => by cases hp
theorem ok45 : EntOk Tryz.prog theE.ng 23219 ent45 := entOk_of envOk45 run45
theorem envOk46 : EnvOk Tryz.prog env46 := EnvOk.more theE_ok (l := []) fun p hp => by cases hp
theorem ok46 : EntOk Tryz.prog theE.ng 23844 ent46 := entOk_of envOk46 run46
theorem envOk47 : EnvOk Tryz.prog env47 := EnvOk.more theE_ok (l := []) fun p hp => by cases hp
theorem ok47 : EntOk Tryz.prog theE.ng 24389 ent47 := entOk_of envOk47 run47
theorem envOk48 : EnvOk Tryz.prog env48 := EnvOk.more theE_ok fun p hp => by
  simp only [List.mem_cons, List.not_mem_nil, or_false] at hp
  rcases hp with rfl | rfl | rfl | rfl
  · exact ok44
  · exact ok45
  · exact ok46
  · exact ok47
theorem ok48 : EntOk Tryz.prog theE.ng 22377 ent48 := entOk_of envOk48 run48
theorem envOk49 : EnvOk Tryz.prog env49 := EnvOk.more theE_ok fun p hp => by
  simp only [List.mem_cons, List.not_mem_nil, or_false] at hp
  rcases hp with rfl | rfl | rfl | rfl | rfl | rfl | rfl | rfl | rfl
  · exact ok26
  · exact ok27
  · exact ok28
  · exact ok29
  · exact ok30
  · exact ok35
  · exact ok40
  · exact ok43
  · exact ok48
theorem ok49 : EntOk Tryz.prog theE.ng 13287 ent49 := entOk_of envOk49 run49
theorem envOkTop : EnvOk Tryz.prog envTop := EnvOk.more theE_ok fun p hp => by
  simp only [List.mem_cons, List.not_mem_nil, or_false] at hp
  rcases hp with rfl | rfl
  · exact ok25
  · exact ok49
theorem awake_any {W : World} (hT : ∀ p ∈ lits, RowAt W p.1 p.2) : Calls Tryz.prog 6 #[] W fun e W' => e = .returned (.bool true) ∧ Below W.heap.size W W' := by
  obtain ⟨σ, h⟩ := is_rows (G := 8) (R := rowsM) (W := W) (fun p hp => by
    have : lits.all (fun p => decide (p.1 < 8)) = true := by decide
    exact of_decide_eq_true (List.all_eq_true.1 this p hp)) (fun p hp => hT p hp)
  exact (answer_ok envOkTop (isTrue_eq runTop) (fun hi hh => h hi hh) .nil).mono fun e W' ⟨q, σ', h1, _, h2, h3⟩ => ⟨by
    cases h2
    exact h1, h3⟩
end GrG
