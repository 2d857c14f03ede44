/-
  Texts of one claim, merged.
-/
import Derived.Test.YtlflknfkenfpiaaGreatDoorRows
import Derived.WalkKit
import Derived.ProofKit
import Derived.OpenShut
import Derived.ShutString
import Derived.ChangeOld
import Derived.Below
import Derived.Deep.Slices
import Derived.Deep.Fields
import Derived.ChangeSame
import Derived.Test.YtlflknfkenfpiaaGreatDoorB1
import Derived.ChangeSlices
import Derived.Test.YtlflknfkenfpiaaGreatDoorB7
set_option linter.unusedSimpArgs false
set_option linter.unusedVariables false
namespace Go.Proofs.YtlflknfkenfpiaaGreatDoor
open Go.ChangeShapes Go.WideShapes Go.ChangeAt Go.RowKit
theorem own : ownKnob Tryz.prog.godebug = none := by kernel_rfl
theorem laidOut : laidOutB Tryz.prog = true := by kernel_rfl
section
variable {H : Type} {enc : TypeId × Value → H} {P : Program} {w : World} {base : Nat} {spare : Nat → Bool} {held : Bool} {fuel : Nat} {t e : TypeId} {cs : List Value} {x : DataW H × List MemPlace}
end
theorem bd_u64 {n : Int} (h : (Lit.int .u64 n).wf = true) : 0 ≤ n ∧ n < 18446744073709551616 := by
  simp [Lit.wf, IntKind.min, IntKind.max, IntKind.signed, IntKind.bits] at h
  omega
theorem bd_i64 {n : Int} (h : (Lit.int .i64 n).wf = true) : -9223372036854775808 ≤ n ∧ n ≤ 9223372036854775807 := by
  simp [Lit.wf, IntKind.min, IntKind.max, IntKind.signed, IntKind.bits] at h
  omega
section
variable {H : Type} {enc : TypeId × Value → H} {P : Program} {w : World} {base : Nat} {spare : Nat → Bool} {held : Bool}
end
end Go.Proofs.YtlflknfkenfpiaaGreatDoor
namespace Go.Proofs.YtlflknfkenfpiaaGreatDoor
open Go.ChangeShapes Go.WideShapes Go.ChangeAt Go.RowKit
section
variable {H : Type} {enc : TypeId × Value → H} {P : Program} {w : World} {base : Nat} {spare : Nat → Bool} {held : Bool}
end
end Go.Proofs.YtlflknfkenfpiaaGreatDoor
namespace Go.Proofs.YtlflknfkenfpiaaGreatDoor
open Go.ChangeShapes Go.WideShapes Go.ChangeAt Go.RowKit GrC
theorem list6 {α : Type} (l : List α) (h : l.length = 6) : ∃ x0 x1 x2 x3 x4 x5, l = [x0, x1, x2, x3, x4, x5] := by
  match l, h with
  | [x0, x1, x2, x3, x4, x5], _ => exact ⟨x0, x1, x2, x3, x4, x5, rfl⟩
section
variable {H : Type} {enc : TypeId × Value → H} {W : World} {base b0 : Nat} {spare : Nat → Bool} {held : Bool} {r : Reach}
set_option maxRecDepth 100000 in
theorem trod_cond : ∀ (fuel : Nat) (cs : List Value) (x : DataW H × List MemPlace), DataW.trod enc Tryz.prog W base spare held fuel 27 cs = some x → ∃ c : Cnd, CAt W c cs := by
  intro fuel
  induction fuel using Nat.strongRecOn with
  | _ fuel ih =>
  intro cs x h
  obtain ⟨xs, n, hfu, _, hcl, hlen, hg⟩ := DataW.trod_struct Tryz.underlying27 h
  have hl : cs.length = 6 := hcl.trans (by kernel_rfl)
  obtain ⟨c0, c1, c2, c3, c4, c5, rfl⟩ := list6 cs hl
  obtain ⟨x0, x1, x2, x3, x4, x5, rfl⟩ := list6 xs hlen
  have g0 : DataW.trod enc Tryz.prog W base spare held n 3 (([c0, c1, c2, c3, c4, c5].drop 0).take (Tryz.prog.cellsOf 3)) = some x0 := hg 0 _ rfl
  have g1 : DataW.trod enc Tryz.prog W base spare held n 3 (([c0, c1, c2, c3, c4, c5].drop 1).take (Tryz.prog.cellsOf 3)) = some x1 := hg 1 _ rfl
  have g2 : DataW.trod enc Tryz.prog W base spare held n 3 (([c0, c1, c2, c3, c4, c5].drop 2).take (Tryz.prog.cellsOf 3)) = some x2 := hg 2 _ rfl
  have g3 : DataW.trod enc Tryz.prog W base spare held n 24 (([c0, c1, c2, c3, c4, c5].drop 3).take (Tryz.prog.cellsOf 24)) = some x3 := hg 3 _ rfl
  have g4 : DataW.trod enc Tryz.prog W base spare held n 24 (([c0, c1, c2, c3, c4, c5].drop 4).take (Tryz.prog.cellsOf 24)) = some x4 := hg 4 _ rfl
  have g5 : DataW.trod enc Tryz.prog W base spare held n 25 (([c0, c1, c2, c3, c4, c5].drop 5).take (Tryz.prog.cellsOf 25)) = some x5 := hg 5 _ rfl
  rw [show Tryz.prog.cellsOf 3 = 1 by kernel_rfl] at g0 g1 g2
  rw [show Tryz.prog.cellsOf 24 = 1 by kernel_rfl] at g3 g4
  rw [show Tryz.prog.cellsOf 25 = 1 by kernel_rfl] at g5
  simp only [List.drop_zero, List.drop_succ_cons, List.take_succ_cons, List.take_zero] at g0 g1 g2 g3 g4 g5
  obtain ⟨k, e0, _⟩ := DataW.trod_int Tryz.underlying3 g0
  obtain ⟨co, e1, _⟩ := DataW.trod_int Tryz.underlying3 g1
  obtain ⟨rr, e2, _⟩ := DataW.trod_int Tryz.underlying3 g2
  obtain ⟨ad, e3, _⟩ := DataW.trod_int Tryz.underlying24 g3
  obtain ⟨va, e4, _⟩ := DataW.trod_int Tryz.underlying24 g4
  simp only [List.cons.injEq, and_true] at e0 e1 e2 e3 e4
  subst e0 e1 e2 e3 e4
  rcases DataW.trod_slice Tryz.underlying25 g5 with ⟨e5, _⟩ | ⟨a, len, cap, elems, rest, m, hm, e5, _, _, _, _, hle, hel, _, _⟩
  · simp only [List.cons.injEq, and_true] at e5
    subst e5
    refine ⟨.node k co rr ad va [], ?_⟩
    rw [CAt]
    exact ⟨none, 0, 0, rfl, rfl, by rw [LAt]; trivial⟩
  · simp only [List.cons.injEq, and_true] at e5
    subst e5
    have hc6 : Tryz.prog.cellsOf 27 = 6 := by kernel_rfl
    rw [hc6] at hel
    have key : ∀ i, i < len → ∃ c : Cnd, ∃ cs', W.cells? base (a.add (i * 6)) 6 = some cs' ∧ CAt W c cs' := fun i hi => by
      have h1 := hel i hi
      rw [List.getElem?_eq_getElem (by omega)] at h1
      obtain ⟨cs', h2, h3⟩ := Option.bind_eq_some_iff.1 h1
      obtain ⟨c, hc⟩ := ih m (by omega) cs' _ h3
      exact ⟨c, cs', h2, hc⟩
    have : Nonempty Cnd := ⟨.node 0 0 0 0 0 []⟩
    obtain ⟨f, hf⟩ : ∃ f : Nat → Cnd, ∀ i, i < len → ∃ cs', W.cells? base (a.add (i * 6)) 6 = some cs' ∧ CAt W (f i) cs' := by
      refine ⟨fun i => if h : i < len then Classical.choose (key i h) else .node 0 0 0 0 0 [], fun i hi => ?_⟩
      simp only [dif_pos hi]
      exact Classical.choose_spec (key i hi)
    refine ⟨.node k co rr ad va ((List.range len).map f), ?_⟩
    rw [CAt]
    refine ⟨some a, len, cap, rfl, by simp, LAt.mk _ 0 fun j hj => ?_⟩
    have hj' : j < len := by simpa using hj
    obtain ⟨cs', h1, h2⟩ := hf j hj'
    refine ⟨cs', fun q u hu => ?_, by simpa using h2⟩
    have hq : q < 6 := Nat.lt_of_lt_of_eq (List.getElem?_eq_some_iff.1 hu).1 (World.cells?_some h1).2.1
    have h3 := (World.cells?_some h1).2.2 q hq
    rw [add_add, hu] at h3
    rw [Nat.zero_add]
    exact h3
end
end Go.Proofs.YtlflknfkenfpiaaGreatDoor
