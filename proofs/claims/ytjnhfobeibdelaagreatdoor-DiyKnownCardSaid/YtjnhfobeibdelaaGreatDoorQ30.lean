/-
  granulelaw24.DiyKnown, cut into calls that are known: the calls behind awake().
-/
import Derived.Test.YtjnhfobeibdelaaGreatDoorQ20
set_option linter.unusedSimpArgs false
set_option linter.unusedVariables false
namespace GrG
open Go Go.RowKit Go.Proofs
noncomputable def entK0 : Ent := ⟨17,[(.str [80,111,87,87,32,82,102,101,32,80,111,82,82,32,70,114,101])],[(0,tab0),(1,tab1)],25865,(.tup [(.agg [(.str [97]),(.slice 25829 0 1 1 true 2),(.slice 25850 0 2 2 false 5),(.bool false),(eN 4),(eN 0),(eN 0),(eU 0),(eU 0),(.slice 25864 0 2 2 true 6),(.slice 25827 0 1 1 true 1),.nils,.nils,.nils,.nils,(eN 0)]),(.bool true)]),[],[0,1],[]⟩
noncomputable def entK1 : Ent := ⟨17,[(.str [80,111,87,82,32,70,114,101,32,80,111,87,82,32,70,114,101])],[(0,tab0),(1,tab1)],26677,(.tup [(.agg [(.str [97]),(.slice 26641 0 1 1 true 2),(.slice 26660 0 2 2 false 5),(.bool false),(eN 4),(eN 0),(eN 0),(eU 0),(eU 0),(.slice 26676 0 2 2 true 6),(.slice 26639 0 1 1 true 1),.nils,.nils,.nils,.nils,(eN 0)]),(.bool true)]),[],[0,1],[]⟩
noncomputable def entK2 : Ent := ⟨17,[(.str [80,111,82,87,32,82,102,101,32,80,111,82,87,32,82,102,101])],[(0,tab0),(1,tab1)],27473,(.tup [(.agg [(.str [97]),(.slice 27437 0 1 1 true 2),(.slice 27456 0 2 2 false 5),(.bool false),(eN 4),(eN 0),(eN 0),(eU 0),(eU 0),(.slice 27472 0 2 2 true 6),(.slice 27435 0 1 1 true 1),.nils,.nils,.nils,.nils,(eN 0)]),(.bool true)]),[],[0,1],[]⟩
noncomputable def entK3 : Ent := ⟨17,[(.str [80,111,87,87,32,82,102,101,32,80,111,82,87,32,67,111,101])],[(0,tab0),(1,tab1)],28285,(.tup [(.agg [(.str [97]),(.slice 28249 0 1 1 true 2),(.slice 28268 0 2 2 false 5),(.bool false),(eN 4),(eN 0),(eN 0),(eU 0),(eU 0),(.slice 28284 0 2 2 true 6),(.slice 28247 0 1 1 true 1),.nils,.nils,.nils,.nils,(eN 0)]),(.bool true)]),[],[0,1],[]⟩
noncomputable def entK4 : Ent := ⟨17,[(.str [80,111,87,87,32,67,111,101,32,80,111,87,82,32,70,114,101])],[(0,tab0),(1,tab1)],29105,(.tup [(.agg [(.str [97]),(.slice 29069 0 1 1 true 2),(.slice 29088 0 2 2 false 5),(.bool false),(eN 4),(eN 0),(eN 0),(eU 0),(eU 0),(.slice 29104 0 2 2 true 6),(.slice 29067 0 1 1 true 1),.nils,.nils,.nils,.nils,(eN 0)]),(.bool true)]),[],[0,1],[]⟩
noncomputable def entK5 : Ent := ⟨17,[(.str [80,111,87,87,32,67,111,101,32,80,111,87,87,32,67,111,101])],[(0,tab0),(1,tab1)],29933,(.tup [(.agg [(.str [97]),(.slice 29897 0 1 1 true 2),(.slice 29914 0 2 2 false 5),(.bool false),(eN 4),(eN 0),(eN 0),(eU 0),(eU 0),(.slice 29932 0 2 2 true 6),(.slice 29895 0 1 1 true 1),.nils,.nils,.nils,.nils,(eN 0)]),(.bool true)]),[],[0,1],[]⟩
noncomputable def entK6 : Ent := ⟨17,[(.str [82,102,101,32,80,111,82,87,32,82,102,101,32,80,111,82,82,32,70,114,101])],[(0,tab0),(1,tab1)],30962,(.tup [(.agg [(.str [97]),(.slice 30914 0 1 1 true 2),(.slice 30950 0 3 3 false 5),(.bool false),(eN 4),(eN 0),(eN 0),(eU 0),(eU 0),(.slice 30961 0 2 2 true 6),(.slice 30912 0 1 1 true 1),.nils,.nils,.nils,.nils,(eN 0)]),(.bool true)]),[],[0,1],[]⟩
noncomputable def entK7 : Ent := ⟨7,[(.str [82,102,101,32,80,111,82,82,32,70,114,101,32,82,102,101,32,80,111,82,82,32,70,114,101])],[(0,tab0),(1,tab1)],32057,(.tup [(.slice 32056 0 6 6 false 3),(eN 0)]),[(32056,(some (eR (some 36) [(eN 8),(.bool true),(.bool false),(eN 1),(.bool false),(.bool false),(eN 9),(.bool false),(.bool true),(eN 8),(.bool true),(.bool false),(eN 1),(.bool false),(.bool false),(eN 9),(.bool false),(.bool true)])))],[0,1],[]⟩
noncomputable def envK : Env := theE.knows (orcOf [] .leaf)
noncomputable def envKTop : Env := theE.knows (orcOf [(1653, ent25), (13287, ent49), (25062, entK0), (25866, entK1), (26678, entK2), (27474, entK3), (28286, entK4), (29106, entK5), (29934, entK6), (30964, entK7)] .leaf)
def kNames : List (List Nat) := [[77, 80], [83, 66], [76, 66], [83], [82], [50, 43, 50, 87], [87, 82, 67], [73, 82, 73, 87]]
end GrG
