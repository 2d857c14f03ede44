/-
  Layer 8, the walks: Walk, over any memory whose Read is given by a contract.
-/
import Derived.Test.YtnpgpbcpgniloaaWc
import Derived.Test.YtnpgpbcpgniloaaBx
set_option linter.unusedSimpArgs false
set_option linter.unusedVariables false
namespace GrW
open Go
def thL (f l : Int) (b : Bool) : Int := if allowK f l b = 0 then 0 else GrT.leafL f
def thC (f l : Int) (b : Bool) : Bool := if allowK f l b = 0 then false else b
theorem thV_in (f l va : Int) (b : Bool) (h : befK va = 0) : thV f l va b = fv (allowK f l b) (thL f l b) (thC f l b) := by
  unfold thV thL thC
  rw [if_pos h]
  by_cases c : allowK f l b = 0
  · simp [c]
  · simp [c]
theorem firstV_in (f : Int) : ∃ k l, firstV f = fv k l false := by
  unfold firstV
  split
  · exact ⟨_, _, rfl⟩
  · exact ⟨_, _, rfl⟩
def wF (R : Int → Int) (tb va : Int) : Int := R (IntKind.u64.wrap (tb + 8 * GrF.slot va 1))
def wS (R : Int → Int) (tb va : Int) : Int := if isTable (wF R tb va) = true then R (secondA (wF R tb va) va) else 0
def wN (R : Int → Int) (tb va : Int) : Int := if isTable (wF R tb va) = true then 2 else 1
def walkL (R : Int → Int) (tb va : Int) (b : Bool) : List Value :=
  if befK va = 0 then [.int .i64 (allowK (wF R tb va) (wS R tb va) b), .int .i64 (thL (wF R tb va) (wS R tb va) b), .bool (thC (wF R tb va) (wS R tb va) b), .int .u64 (thA (wF R tb va) (wS R tb va) va b), .int .u64 (wF R tb va), .int .u64 (wS R tb va), .int .i64 (wN R tb va)]
  else [.int .i64 (befK va), .int .i64 0, .bool b, .int .u64 0, .int .u64 0, .int .u64 0, .int .i64 0]
end GrW
namespace Go.Proofs.Ytnpgpbcpgniloaa
open Go.RowKit

/-- what Read gives of a cell, in every world behind W -/
def ReadsAt (W : World) (m : Value) (a v : Int) : Prop := ∀ w', Below W.heap.size W w' →
  Calls Try.prog 26 #[m, .int .u64 a] w' fun e w'' => e = .returned (.int .u64 v) ∧ Below w'.heap.size w' w''
theorem ReadsAt.at {W V : World} {m : Value} {a v : Int} (h : ReadsAt W m a v) (k : Below W.heap.size W V) : ∀ z : Wb V,
    Calls Try.prog 26 #[m, .int .u64 a] z.at fun e w'' => e = .returned (.int .u64 v) ∧ Below z.at.heap.size z.at w'' := fun z => h _ (KB.at k z)

set_option maxRecDepth 100000 in
set_option maxHeartbeats 6400000 in
theorem walk_no (p : Option Addr) (n tb va : Int) (b : Bool) (w : World) (K : Int) (kb : (K != 0) = true) (kb2 : (K == 0) = false)
    (BE : RowKit.Hid (∀ w, Calls Try.prog 43 #[.int .u64 va, .bool b] w fun e w' => e = .returned (GrW.fv K 0 b) ∧ Below w.heap.size w w')) :
    Calls Try.prog 16 #[.agg #[.pointer p, .int .i64 n], .int .u64 tb, .int .u64 va, .bool b] w fun e w' => e = .returned (.agg #[.int .i64 K, .int .i64 0, .bool b, .int .u64 0, .int .u64 0, .int .u64 0, .int .i64 0]) ∧ Below w.heap.size w w' := by
  have r_B : ∀ z : Wb ((w.alloc (.cells #[.pointer p, .int .i64 n] 38)).alloc (.cells #[.int .i64 0, .int .i64 0, .bool false, .int .u64 0, .int .u64 0, .int .u64 0, .int .i64 0] 42)), Row z.at (w.heap.size) [.pointer p, .int .i64 n] 38 := Row.at ((Row.new w _ _).old _)
  have r_R : ∀ z : Wb ((w.alloc (.cells #[.pointer p, .int .i64 n] 38)).alloc (.cells #[.int .i64 0, .int .i64 0, .bool false, .int .u64 0, .int .u64 0, .int .u64 0, .int .i64 0] 42)), Row z.at (w.heap.size + 1) [.int .i64 0, .int .i64 0, .bool false, .int .u64 0, .int .u64 0, .int .u64 0, .int .i64 0] 42 := Row.at (Row.new' _ _ _ _ (by simp))
  have KK := KB.at (V := (w.alloc (.cells #[.pointer p, .int .i64 n] 38)).alloc (.cells #[.int .i64 0, .int .i64 0, .bool false, .int .u64 0, .int .u64 0, .int .u64 0, .int .i64 0] 42)) (KB.alloc (KB.alloc (Below.refl _ _) _) _)
  have c_B_0 : ∀ z : Wb ((w.alloc (.cells #[.pointer p, .int .i64 n] 38)).alloc (.cells #[.int .i64 0, .int .i64 0, .bool false, .int .u64 0, .int .u64 0, .int .u64 0, .int .i64 0] 42)), z.at.cell? ⟨w.heap.size, 0, none⟩ = some (.pointer p) := fun z => (r_B z).cell 0
  have c_B_1 : ∀ z : Wb ((w.alloc (.cells #[.pointer p, .int .i64 n] 38)).alloc (.cells #[.int .i64 0, .int .i64 0, .bool false, .int .u64 0, .int .u64 0, .int .u64 0, .int .i64 0] 42)), z.at.cell? ⟨w.heap.size, 1, none⟩ = some (.int .i64 n) := fun z => (r_B z).cell 1
  have f_B : ∀ (z : Wb ((w.alloc (.cells #[.pointer p, .int .i64 n] 38)).alloc (.cells #[.int .i64 0, .int .i64 0, .bool false, .int .u64 0, .int .u64 0, .int .u64 0, .int .i64 0] 42))) (i : Nat), z.at.frozen? ⟨w.heap.size, i, none⟩ = false := fun z i => (r_B z).free i
  have c_R_0 : ∀ z : Wb ((w.alloc (.cells #[.pointer p, .int .i64 n] 38)).alloc (.cells #[.int .i64 0, .int .i64 0, .bool false, .int .u64 0, .int .u64 0, .int .u64 0, .int .i64 0] 42)), z.at.cell? ⟨w.heap.size + 1, 0, none⟩ = some (.int .i64 0) := fun z => (r_R z).cell 0
  have c_R_1 : ∀ z : Wb ((w.alloc (.cells #[.pointer p, .int .i64 n] 38)).alloc (.cells #[.int .i64 0, .int .i64 0, .bool false, .int .u64 0, .int .u64 0, .int .u64 0, .int .i64 0] 42)), z.at.cell? ⟨w.heap.size + 1, 1, none⟩ = some (.int .i64 0) := fun z => (r_R z).cell 1
  have c_R_2 : ∀ z : Wb ((w.alloc (.cells #[.pointer p, .int .i64 n] 38)).alloc (.cells #[.int .i64 0, .int .i64 0, .bool false, .int .u64 0, .int .u64 0, .int .u64 0, .int .i64 0] 42)), z.at.cell? ⟨w.heap.size + 1, 2, none⟩ = some (.bool false) := fun z => (r_R z).cell 2
  have c_R_3 : ∀ z : Wb ((w.alloc (.cells #[.pointer p, .int .i64 n] 38)).alloc (.cells #[.int .i64 0, .int .i64 0, .bool false, .int .u64 0, .int .u64 0, .int .u64 0, .int .i64 0] 42)), z.at.cell? ⟨w.heap.size + 1, 3, none⟩ = some (.int .u64 0) := fun z => (r_R z).cell 3
  have c_R_4 : ∀ z : Wb ((w.alloc (.cells #[.pointer p, .int .i64 n] 38)).alloc (.cells #[.int .i64 0, .int .i64 0, .bool false, .int .u64 0, .int .u64 0, .int .u64 0, .int .i64 0] 42)), z.at.cell? ⟨w.heap.size + 1, 4, none⟩ = some (.int .u64 0) := fun z => (r_R z).cell 4
  have c_R_5 : ∀ z : Wb ((w.alloc (.cells #[.pointer p, .int .i64 n] 38)).alloc (.cells #[.int .i64 0, .int .i64 0, .bool false, .int .u64 0, .int .u64 0, .int .u64 0, .int .i64 0] 42)), z.at.cell? ⟨w.heap.size + 1, 5, none⟩ = some (.int .u64 0) := fun z => (r_R z).cell 5
  have c_R_6 : ∀ z : Wb ((w.alloc (.cells #[.pointer p, .int .i64 n] 38)).alloc (.cells #[.int .i64 0, .int .i64 0, .bool false, .int .u64 0, .int .u64 0, .int .u64 0, .int .i64 0] 42)), z.at.cell? ⟨w.heap.size + 1, 6, none⟩ = some (.int .i64 0) := fun z => (r_R z).cell 6
  have f_R : ∀ (z : Wb ((w.alloc (.cells #[.pointer p, .int .i64 n] 38)).alloc (.cells #[.int .i64 0, .int .i64 0, .bool false, .int .u64 0, .int .u64 0, .int .u64 0, .int .i64 0] 42))) (i : Nat), z.at.frozen? ⟨w.heap.size + 1, i, none⟩ = false := fun z i => (r_R z).free i
  go_enter Try.func16, Try.ntmps16
  go_wp2_with fail
  refine (BE.out _).mono ?_
  rintro e w1 ⟨rfl, g⟩
  obtain ⟨x0, rfl⟩ := Wb.start g
  clear g
  unfold GrW.fv
  go_upto_region 2 with fail
  clear c_B_0 c_B_1 f_B c_R_0 c_R_1 c_R_2 c_R_3 c_R_4 c_R_5 c_R_6 f_R
  refine to_cls ?_
  intro U0 hU0 z0
  have r_B : ∀ z : Wb U0, Row z.at (w.heap.size) [.pointer p, .int .i64 n] 38 := Row.next ((r_B x0).old _) hU0
  have r_R : ∀ z : Wb U0, Row z.at (w.heap.size + 1) [.int .i64 0, .int .i64 0, .bool false, .int .u64 0, .int .u64 0, .int .u64 0, .int .i64 0] 42 := Row.next ((r_R x0).old _) hU0
  have r_F : ∀ z : Wb U0, Row z.at (x0.at.heap.size) [.int .i64 K, .int .i64 0, .bool b] 28 := Row.next (Row.new _ _ _) hU0
  have KK := KB.next (KB.alloc (KK x0) _) hU0
  have c_B_0 : ∀ z : Wb U0, z.at.cell? ⟨w.heap.size, 0, none⟩ = some (.pointer p) := fun z => (r_B z).cell 0
  have c_B_1 : ∀ z : Wb U0, z.at.cell? ⟨w.heap.size, 1, none⟩ = some (.int .i64 n) := fun z => (r_B z).cell 1
  have f_B : ∀ (z : Wb U0) (i : Nat), z.at.frozen? ⟨w.heap.size, i, none⟩ = false := fun z i => (r_B z).free i
  have c_R_0 : ∀ z : Wb U0, z.at.cell? ⟨w.heap.size + 1, 0, none⟩ = some (.int .i64 0) := fun z => (r_R z).cell 0
  have c_R_1 : ∀ z : Wb U0, z.at.cell? ⟨w.heap.size + 1, 1, none⟩ = some (.int .i64 0) := fun z => (r_R z).cell 1
  have c_R_2 : ∀ z : Wb U0, z.at.cell? ⟨w.heap.size + 1, 2, none⟩ = some (.bool false) := fun z => (r_R z).cell 2
  have c_R_3 : ∀ z : Wb U0, z.at.cell? ⟨w.heap.size + 1, 3, none⟩ = some (.int .u64 0) := fun z => (r_R z).cell 3
  have c_R_4 : ∀ z : Wb U0, z.at.cell? ⟨w.heap.size + 1, 4, none⟩ = some (.int .u64 0) := fun z => (r_R z).cell 4
  have c_R_5 : ∀ z : Wb U0, z.at.cell? ⟨w.heap.size + 1, 5, none⟩ = some (.int .u64 0) := fun z => (r_R z).cell 5
  have c_R_6 : ∀ z : Wb U0, z.at.cell? ⟨w.heap.size + 1, 6, none⟩ = some (.int .i64 0) := fun z => (r_R z).cell 6
  have f_R : ∀ (z : Wb U0) (i : Nat), z.at.frozen? ⟨w.heap.size + 1, i, none⟩ = false := fun z i => (r_R z).free i
  have c_F_0 : ∀ z : Wb U0, z.at.cell? ⟨x0.at.heap.size, 0, none⟩ = some (.int .i64 K) := fun z => (r_F z).cell 0
  have c_F_1 : ∀ z : Wb U0, z.at.cell? ⟨x0.at.heap.size, 1, none⟩ = some (.int .i64 0) := fun z => (r_F z).cell 1
  have c_F_2 : ∀ z : Wb U0, z.at.cell? ⟨x0.at.heap.size, 2, none⟩ = some (.bool b) := fun z => (r_F z).cell 2
  have f_F : ∀ (z : Wb U0) (i : Nat), z.at.frozen? ⟨x0.at.heap.size, i, none⟩ = false := fun z i => (r_F z).free i
  go_wp2
  refine bodyPost_ret (v := .agg #[.int .i64 K, .int .i64 0, .bool b, .int .u64 0, .int .u64 0, .int .u64 0, .int .i64 0]) (by simp [results, Try.results16, go_sem, *]) rfl ⟨rfl, ?_⟩
  repeat' (first | (with_reducible exact KK z0) | (with_reducible refine Below.setCell ?_ ?_ _) | (simp; done) | (simp; omega))

set_option maxRecDepth 100000 in
set_option maxHeartbeats 6400000 in
theorem walk_two (p : Option Addr) (n tb va : Int) (b : Bool) (w : World) (a1 a2 F S k1 l1 k l ad : Int) (c : Bool)
    (BE : RowKit.Hid (∀ w, Calls Try.prog 43 #[.int .u64 va, .bool b] w fun e w' => e = .returned (GrW.fv 0 0 false) ∧ Below w.heap.size w w'))
    (SL : RowKit.Hid (∀ w, Calls Try.prog 44 #[.int .u64 tb, .int .u64 va, .int .i64 1] w fun e w' => e = .returned (.int .u64 a1) ∧ Below w.heap.size w w'))
    (F1 : RowKit.Hid (∀ w, Calls Try.prog 45 #[.int .u64 F, .int .u64 va] w fun e w' => e = .returned (.tuple #[.agg #[.int .i64 k1, .int .i64 l1, .bool false], .int .u64 a2, .bool true]) ∧ Below w.heap.size w w'))
    (TH : RowKit.Hid (∀ w, Calls Try.prog 46 #[.int .u64 F, .int .u64 S, .int .u64 va, .bool b] w fun e w' => e = .returned (.tuple #[.agg #[.int .i64 k, .int .i64 l, .bool c], .int .u64 ad]) ∧ Below w.heap.size w w'))
    (RA : RowKit.Hid (ReadsAt w (.agg #[.pointer p, .int .i64 n]) a1 F)) (RB : RowKit.Hid (ReadsAt w (.agg #[.pointer p, .int .i64 n]) a2 S)) :
    Calls Try.prog 16 #[.agg #[.pointer p, .int .i64 n], .int .u64 tb, .int .u64 va, .bool b] w fun e w' => e = .returned (.agg #[.int .i64 k, .int .i64 l, .bool c, .int .u64 ad, .int .u64 F, .int .u64 S, .int .i64 2]) ∧ Below w.heap.size w w' := by
  have r_B : ∀ z : Wb ((w.alloc (.cells #[.pointer p, .int .i64 n] 38)).alloc (.cells #[.int .i64 0, .int .i64 0, .bool false, .int .u64 0, .int .u64 0, .int .u64 0, .int .i64 0] 42)), Row z.at (w.heap.size) [.pointer p, .int .i64 n] 38 := Row.at ((Row.new w _ _).old _)
  have r_R : ∀ z : Wb ((w.alloc (.cells #[.pointer p, .int .i64 n] 38)).alloc (.cells #[.int .i64 0, .int .i64 0, .bool false, .int .u64 0, .int .u64 0, .int .u64 0, .int .i64 0] 42)), Row z.at (w.heap.size + 1) [.int .i64 0, .int .i64 0, .bool false, .int .u64 0, .int .u64 0, .int .u64 0, .int .i64 0] 42 := Row.at (Row.new' _ _ _ _ (by simp))
  have KK := KB.at (V := (w.alloc (.cells #[.pointer p, .int .i64 n] 38)).alloc (.cells #[.int .i64 0, .int .i64 0, .bool false, .int .u64 0, .int .u64 0, .int .u64 0, .int .i64 0] 42)) (KB.alloc (KB.alloc (Below.refl _ _) _) _)
  have c_B_0 : ∀ z : Wb ((w.alloc (.cells #[.pointer p, .int .i64 n] 38)).alloc (.cells #[.int .i64 0, .int .i64 0, .bool false, .int .u64 0, .int .u64 0, .int .u64 0, .int .i64 0] 42)), z.at.cell? ⟨w.heap.size, 0, none⟩ = some (.pointer p) := fun z => (r_B z).cell 0
  have c_B_1 : ∀ z : Wb ((w.alloc (.cells #[.pointer p, .int .i64 n] 38)).alloc (.cells #[.int .i64 0, .int .i64 0, .bool false, .int .u64 0, .int .u64 0, .int .u64 0, .int .i64 0] 42)), z.at.cell? ⟨w.heap.size, 1, none⟩ = some (.int .i64 n) := fun z => (r_B z).cell 1
  have f_B : ∀ (z : Wb ((w.alloc (.cells #[.pointer p, .int .i64 n] 38)).alloc (.cells #[.int .i64 0, .int .i64 0, .bool false, .int .u64 0, .int .u64 0, .int .u64 0, .int .i64 0] 42))) (i : Nat), z.at.frozen? ⟨w.heap.size, i, none⟩ = false := fun z i => (r_B z).free i
  have c_R_0 : ∀ z : Wb ((w.alloc (.cells #[.pointer p, .int .i64 n] 38)).alloc (.cells #[.int .i64 0, .int .i64 0, .bool false, .int .u64 0, .int .u64 0, .int .u64 0, .int .i64 0] 42)), z.at.cell? ⟨w.heap.size + 1, 0, none⟩ = some (.int .i64 0) := fun z => (r_R z).cell 0
  have c_R_1 : ∀ z : Wb ((w.alloc (.cells #[.pointer p, .int .i64 n] 38)).alloc (.cells #[.int .i64 0, .int .i64 0, .bool false, .int .u64 0, .int .u64 0, .int .u64 0, .int .i64 0] 42)), z.at.cell? ⟨w.heap.size + 1, 1, none⟩ = some (.int .i64 0) := fun z => (r_R z).cell 1
  have c_R_2 : ∀ z : Wb ((w.alloc (.cells #[.pointer p, .int .i64 n] 38)).alloc (.cells #[.int .i64 0, .int .i64 0, .bool false, .int .u64 0, .int .u64 0, .int .u64 0, .int .i64 0] 42)), z.at.cell? ⟨w.heap.size + 1, 2, none⟩ = some (.bool false) := fun z => (r_R z).cell 2
  have c_R_3 : ∀ z : Wb ((w.alloc (.cells #[.pointer p, .int .i64 n] 38)).alloc (.cells #[.int .i64 0, .int .i64 0, .bool false, .int .u64 0, .int .u64 0, .int .u64 0, .int .i64 0] 42)), z.at.cell? ⟨w.heap.size + 1, 3, none⟩ = some (.int .u64 0) := fun z => (r_R z).cell 3
  have c_R_4 : ∀ z : Wb ((w.alloc (.cells #[.pointer p, .int .i64 n] 38)).alloc (.cells #[.int .i64 0, .int .i64 0, .bool false, .int .u64 0, .int .u64 0, .int .u64 0, .int .i64 0] 42)), z.at.cell? ⟨w.heap.size + 1, 4, none⟩ = some (.int .u64 0) := fun z => (r_R z).cell 4
  have c_R_5 : ∀ z : Wb ((w.alloc (.cells #[.pointer p, .int .i64 n] 38)).alloc (.cells #[.int .i64 0, .int .i64 0, .bool false, .int .u64 0, .int .u64 0, .int .u64 0, .int .i64 0] 42)), z.at.cell? ⟨w.heap.size + 1, 5, none⟩ = some (.int .u64 0) := fun z => (r_R z).cell 5
  have c_R_6 : ∀ z : Wb ((w.alloc (.cells #[.pointer p, .int .i64 n] 38)).alloc (.cells #[.int .i64 0, .int .i64 0, .bool false, .int .u64 0, .int .u64 0, .int .u64 0, .int .i64 0] 42)), z.at.cell? ⟨w.heap.size + 1, 6, none⟩ = some (.int .i64 0) := fun z => (r_R z).cell 6
  have f_R : ∀ (z : Wb ((w.alloc (.cells #[.pointer p, .int .i64 n] 38)).alloc (.cells #[.int .i64 0, .int .i64 0, .bool false, .int .u64 0, .int .u64 0, .int .u64 0, .int .i64 0] 42))) (i : Nat), z.at.frozen? ⟨w.heap.size + 1, i, none⟩ = false := fun z i => (r_R z).free i
  go_enter Try.func16, Try.ntmps16
  go_wp2_with fail
  refine (BE.out _).mono ?_
  rintro e w1 ⟨rfl, g⟩
  obtain ⟨x0, rfl⟩ := Wb.start g
  clear g
  unfold GrW.fv
  go_upto_region 2 with fail
  clear c_B_0 c_B_1 f_B c_R_0 c_R_1 c_R_2 c_R_3 c_R_4 c_R_5 c_R_6 f_R
  refine to_cls ?_
  intro U0 hU0 z0
  have r_B : ∀ z : Wb U0, Row z.at (w.heap.size) [.pointer p, .int .i64 n] 38 := Row.next ((r_B x0).old _) hU0
  have r_R : ∀ z : Wb U0, Row z.at (w.heap.size + 1) [.int .i64 0, .int .i64 0, .bool false, .int .u64 0, .int .u64 0, .int .u64 0, .int .i64 0] 42 := Row.next ((r_R x0).old _) hU0
  have r_F : ∀ z : Wb U0, Row z.at (x0.at.heap.size) [.int .i64 0, .int .i64 0, .bool false] 28 := Row.next (Row.new _ _ _) hU0
  have KK := KB.next (KB.alloc (KK x0) _) hU0
  have c_B_0 : ∀ z : Wb U0, z.at.cell? ⟨w.heap.size, 0, none⟩ = some (.pointer p) := fun z => (r_B z).cell 0
  have c_B_1 : ∀ z : Wb U0, z.at.cell? ⟨w.heap.size, 1, none⟩ = some (.int .i64 n) := fun z => (r_B z).cell 1
  have f_B : ∀ (z : Wb U0) (i : Nat), z.at.frozen? ⟨w.heap.size, i, none⟩ = false := fun z i => (r_B z).free i
  have c_R_0 : ∀ z : Wb U0, z.at.cell? ⟨w.heap.size + 1, 0, none⟩ = some (.int .i64 0) := fun z => (r_R z).cell 0
  have c_R_1 : ∀ z : Wb U0, z.at.cell? ⟨w.heap.size + 1, 1, none⟩ = some (.int .i64 0) := fun z => (r_R z).cell 1
  have c_R_2 : ∀ z : Wb U0, z.at.cell? ⟨w.heap.size + 1, 2, none⟩ = some (.bool false) := fun z => (r_R z).cell 2
  have c_R_3 : ∀ z : Wb U0, z.at.cell? ⟨w.heap.size + 1, 3, none⟩ = some (.int .u64 0) := fun z => (r_R z).cell 3
  have c_R_4 : ∀ z : Wb U0, z.at.cell? ⟨w.heap.size + 1, 4, none⟩ = some (.int .u64 0) := fun z => (r_R z).cell 4
  have c_R_5 : ∀ z : Wb U0, z.at.cell? ⟨w.heap.size + 1, 5, none⟩ = some (.int .u64 0) := fun z => (r_R z).cell 5
  have c_R_6 : ∀ z : Wb U0, z.at.cell? ⟨w.heap.size + 1, 6, none⟩ = some (.int .i64 0) := fun z => (r_R z).cell 6
  have f_R : ∀ (z : Wb U0) (i : Nat), z.at.frozen? ⟨w.heap.size + 1, i, none⟩ = false := fun z i => (r_R z).free i
  have c_F_0 : ∀ z : Wb U0, z.at.cell? ⟨x0.at.heap.size, 0, none⟩ = some (.int .i64 0) := fun z => (r_F z).cell 0
  have c_F_1 : ∀ z : Wb U0, z.at.cell? ⟨x0.at.heap.size, 1, none⟩ = some (.int .i64 0) := fun z => (r_F z).cell 1
  have c_F_2 : ∀ z : Wb U0, z.at.cell? ⟨x0.at.heap.size, 2, none⟩ = some (.bool false) := fun z => (r_F z).cell 2
  have f_F : ∀ (z : Wb U0) (i : Nat), z.at.frozen? ⟨x0.at.heap.size, i, none⟩ = false := fun z i => (r_F z).free i
  go_wp2_with fail
  refine wp_region_wb_block 6 _ (.cells #[.int .i64 0, .int .i64 0, .bool false, .int .u64 0, .int .u64 0, .int .u64 0, .int .i64 0] 42) (by kernel_rfl) (by kernel_rfl) rfl rfl (fun a w => by simp [go_sem]) (by simp) ?_
  intro y0
  have SL1 := Lib.hid SL
  have RD1 := Lib.hid (ReadsAt.at RA.out ((KK z0).trans (y0.bel.mono (KK z0).size)))
  have q0 : ∀ x : Wb y0.at, x.at.cell? ⟨w.heap.size, 0, none⟩ = some (.pointer p) := fun x => (((r_B z0).below y0.bel).below x.bel).cell 0
  have q1 : ∀ x : Wb y0.at, x.at.cell? ⟨w.heap.size, 1, none⟩ = some (.int .i64 n) := fun x => (((r_B z0).below y0.bel).below x.bel).cell 1
  clear c_B_0 c_B_1 f_B c_R_0 c_R_1 c_R_2 c_R_3 c_R_4 c_R_5 c_R_6 f_R c_F_0 c_F_1 c_F_2 f_F
  simp only [List.take_succ_cons, List.take_zero, List.drop_succ_cons, List.drop_zero]
  repeat (go_big_quiet_step (first | (go_at_call 44; exact Calls.wb (SL.out _)) | (go_at_call 26; exact Calls.wb (RD1.out _))))
  refine wpQuiet_nil ?_
  clear q0 q1 RD1 SL1
  clear y0
  intro zz xx
  have nB : w.heap.size ≠ zz.at.heap.size := by have := ((r_B z0).below zz.bel).lt; omega
  have nR : w.heap.size + 1 ≠ zz.at.heap.size := by have := ((r_R z0).below zz.bel).lt; omega
  have hp : w.heap.size ≤ zz.at.heap.size := by have := ((r_B z0).below zz.bel).lt; omega
  have r_B : ∀ z : Wb (zz.at.alloc (.cells #[.int .i64 0, .int .i64 0, .bool false, .int .u64 0, .int .u64 0, .int .u64 0, .int .i64 0] 42)), Row z.at (w.heap.size) [.pointer p, .int .i64 n] 38 := Row.at (((r_B z0).below zz.bel).old _)
  have r_R : ∀ z : Wb (zz.at.alloc (.cells #[.int .i64 0, .int .i64 0, .bool false, .int .u64 0, .int .u64 0, .int .u64 0, .int .i64 0] 42)), Row z.at (w.heap.size + 1) [.int .i64 0, .int .i64 0, .bool false, .int .u64 0, .int .u64 0, .int .u64 0, .int .i64 0] 42 := Row.at (((r_R z0).below zz.bel).old _)
  have r_r : ∀ z : Wb (zz.at.alloc (.cells #[.int .i64 0, .int .i64 0, .bool false, .int .u64 0, .int .u64 0, .int .u64 0, .int .i64 0] 42)), Row z.at (zz.at.heap.size) [.int .i64 0, .int .i64 0, .bool false, .int .u64 0, .int .u64 0, .int .u64 0, .int .i64 0] 42 := Row.at (Row.new _ _ _)
  have KK := KB.at (V := zz.at.alloc (.cells #[.int .i64 0, .int .i64 0, .bool false, .int .u64 0, .int .u64 0, .int .u64 0, .int .i64 0] 42)) (KB.alloc ((KK z0).trans (zz.bel.mono (KK z0).size)) _)
  have c_B_0 : ∀ z : Wb (zz.at.alloc (.cells #[.int .i64 0, .int .i64 0, .bool false, .int .u64 0, .int .u64 0, .int .u64 0, .int .i64 0] 42)), z.at.cell? ⟨w.heap.size, 0, none⟩ = some (.pointer p) := fun z => (r_B z).cell 0
  have c_B_1 : ∀ z : Wb (zz.at.alloc (.cells #[.int .i64 0, .int .i64 0, .bool false, .int .u64 0, .int .u64 0, .int .u64 0, .int .i64 0] 42)), z.at.cell? ⟨w.heap.size, 1, none⟩ = some (.int .i64 n) := fun z => (r_B z).cell 1
  have f_B : ∀ (z : Wb (zz.at.alloc (.cells #[.int .i64 0, .int .i64 0, .bool false, .int .u64 0, .int .u64 0, .int .u64 0, .int .i64 0] 42))) (i : Nat), z.at.frozen? ⟨w.heap.size, i, none⟩ = false := fun z i => (r_B z).free i
  have c_R_0 : ∀ z : Wb (zz.at.alloc (.cells #[.int .i64 0, .int .i64 0, .bool false, .int .u64 0, .int .u64 0, .int .u64 0, .int .i64 0] 42)), z.at.cell? ⟨w.heap.size + 1, 0, none⟩ = some (.int .i64 0) := fun z => (r_R z).cell 0
  have c_R_1 : ∀ z : Wb (zz.at.alloc (.cells #[.int .i64 0, .int .i64 0, .bool false, .int .u64 0, .int .u64 0, .int .u64 0, .int .i64 0] 42)), z.at.cell? ⟨w.heap.size + 1, 1, none⟩ = some (.int .i64 0) := fun z => (r_R z).cell 1
  have c_R_2 : ∀ z : Wb (zz.at.alloc (.cells #[.int .i64 0, .int .i64 0, .bool false, .int .u64 0, .int .u64 0, .int .u64 0, .int .i64 0] 42)), z.at.cell? ⟨w.heap.size + 1, 2, none⟩ = some (.bool false) := fun z => (r_R z).cell 2
  have c_R_3 : ∀ z : Wb (zz.at.alloc (.cells #[.int .i64 0, .int .i64 0, .bool false, .int .u64 0, .int .u64 0, .int .u64 0, .int .i64 0] 42)), z.at.cell? ⟨w.heap.size + 1, 3, none⟩ = some (.int .u64 0) := fun z => (r_R z).cell 3
  have c_R_4 : ∀ z : Wb (zz.at.alloc (.cells #[.int .i64 0, .int .i64 0, .bool false, .int .u64 0, .int .u64 0, .int .u64 0, .int .i64 0] 42)), z.at.cell? ⟨w.heap.size + 1, 4, none⟩ = some (.int .u64 0) := fun z => (r_R z).cell 4
  have c_R_5 : ∀ z : Wb (zz.at.alloc (.cells #[.int .i64 0, .int .i64 0, .bool false, .int .u64 0, .int .u64 0, .int .u64 0, .int .i64 0] 42)), z.at.cell? ⟨w.heap.size + 1, 5, none⟩ = some (.int .u64 0) := fun z => (r_R z).cell 5
  have c_R_6 : ∀ z : Wb (zz.at.alloc (.cells #[.int .i64 0, .int .i64 0, .bool false, .int .u64 0, .int .u64 0, .int .u64 0, .int .i64 0] 42)), z.at.cell? ⟨w.heap.size + 1, 6, none⟩ = some (.int .i64 0) := fun z => (r_R z).cell 6
  have f_R : ∀ (z : Wb (zz.at.alloc (.cells #[.int .i64 0, .int .i64 0, .bool false, .int .u64 0, .int .u64 0, .int .u64 0, .int .i64 0] 42))) (i : Nat), z.at.frozen? ⟨w.heap.size + 1, i, none⟩ = false := fun z i => (r_R z).free i
  have c_r_0 : ∀ z : Wb (zz.at.alloc (.cells #[.int .i64 0, .int .i64 0, .bool false, .int .u64 0, .int .u64 0, .int .u64 0, .int .i64 0] 42)), z.at.cell? ⟨zz.at.heap.size, 0, none⟩ = some (.int .i64 0) := fun z => (r_r z).cell 0
  have c_r_1 : ∀ z : Wb (zz.at.alloc (.cells #[.int .i64 0, .int .i64 0, .bool false, .int .u64 0, .int .u64 0, .int .u64 0, .int .i64 0] 42)), z.at.cell? ⟨zz.at.heap.size, 1, none⟩ = some (.int .i64 0) := fun z => (r_r z).cell 1
  have c_r_2 : ∀ z : Wb (zz.at.alloc (.cells #[.int .i64 0, .int .i64 0, .bool false, .int .u64 0, .int .u64 0, .int .u64 0, .int .i64 0] 42)), z.at.cell? ⟨zz.at.heap.size, 2, none⟩ = some (.bool false) := fun z => (r_r z).cell 2
  have c_r_3 : ∀ z : Wb (zz.at.alloc (.cells #[.int .i64 0, .int .i64 0, .bool false, .int .u64 0, .int .u64 0, .int .u64 0, .int .i64 0] 42)), z.at.cell? ⟨zz.at.heap.size, 3, none⟩ = some (.int .u64 0) := fun z => (r_r z).cell 3
  have c_r_4 : ∀ z : Wb (zz.at.alloc (.cells #[.int .i64 0, .int .i64 0, .bool false, .int .u64 0, .int .u64 0, .int .u64 0, .int .i64 0] 42)), z.at.cell? ⟨zz.at.heap.size, 4, none⟩ = some (.int .u64 0) := fun z => (r_r z).cell 4
  have c_r_5 : ∀ z : Wb (zz.at.alloc (.cells #[.int .i64 0, .int .i64 0, .bool false, .int .u64 0, .int .u64 0, .int .u64 0, .int .i64 0] 42)), z.at.cell? ⟨zz.at.heap.size, 5, none⟩ = some (.int .u64 0) := fun z => (r_r z).cell 5
  have c_r_6 : ∀ z : Wb (zz.at.alloc (.cells #[.int .i64 0, .int .i64 0, .bool false, .int .u64 0, .int .u64 0, .int .u64 0, .int .i64 0] 42)), z.at.cell? ⟨zz.at.heap.size, 6, none⟩ = some (.int .i64 0) := fun z => (r_r z).cell 6
  have f_r : ∀ (z : Wb (zz.at.alloc (.cells #[.int .i64 0, .int .i64 0, .bool false, .int .u64 0, .int .u64 0, .int .u64 0, .int .i64 0] 42))) (i : Nat), z.at.frozen? ⟨zz.at.heap.size, i, none⟩ = false := fun z i => (r_r z).free i
  go_upto_region 5 with fail
  clear c_B_0 c_B_1 f_B c_R_0 c_R_1 c_R_2 c_R_3 c_R_4 c_R_5 c_R_6 f_R c_r_0 c_r_1 c_r_2 c_r_3 c_r_4 c_r_5 c_r_6 f_r
  refine to_cls ?_
  intro U1 hU1 z1
  have r_B : ∀ z : Wb U1, Row z.at (w.heap.size) [.pointer p, .int .i64 n] 38 := Row.next (Row.oth (Row.oth (Row.oth (Row.oth (Row.oth (Row.oth (Row.oth (r_B xx) nB 0 _) nB 1 _) nB 2 _) nB 3 _) nB 4 _) nB 5 _) nB 6 _) hU1
  have r_R : ∀ z : Wb U1, Row z.at (w.heap.size + 1) [.int .i64 0, .int .i64 0, .bool false, .int .u64 0, .int .u64 0, .int .u64 0, .int .i64 0] 42 := Row.next (Row.oth (Row.oth (Row.oth (Row.oth (Row.oth (Row.oth (Row.oth (r_R xx) nR 0 _) nR 1 _) nR 2 _) nR 3 _) nR 4 _) nR 5 _) nR 6 _) hU1
  have r_r : ∀ z : Wb U1, Row z.at (zz.at.heap.size) [.int .i64 0, .int .i64 0, .bool false, .int .u64 0, .int .u64 F, .int .u64 0, .int .i64 1] 42 := Row.next (Row.set (Row.set (Row.set (Row.set (Row.set (Row.set (Row.set (r_r xx) 0 _) 1 _) 2 _) 3 _) 4 _) 5 _) 6 _) hU1
  have KK := KB.next (KB.put (KB.put (KB.put (KB.put (KB.put (KB.put (KB.put (KK xx) hp 0 _) hp 1 _) hp 2 _) hp 3 _) hp 4 _) hp 5 _) hp 6 _) hU1
  have c_B_0 : ∀ z : Wb U1, z.at.cell? ⟨w.heap.size, 0, none⟩ = some (.pointer p) := fun z => (r_B z).cell 0
  have c_B_1 : ∀ z : Wb U1, z.at.cell? ⟨w.heap.size, 1, none⟩ = some (.int .i64 n) := fun z => (r_B z).cell 1
  have f_B : ∀ (z : Wb U1) (i : Nat), z.at.frozen? ⟨w.heap.size, i, none⟩ = false := fun z i => (r_B z).free i
  have c_R_0 : ∀ z : Wb U1, z.at.cell? ⟨w.heap.size + 1, 0, none⟩ = some (.int .i64 0) := fun z => (r_R z).cell 0
  have c_R_1 : ∀ z : Wb U1, z.at.cell? ⟨w.heap.size + 1, 1, none⟩ = some (.int .i64 0) := fun z => (r_R z).cell 1
  have c_R_2 : ∀ z : Wb U1, z.at.cell? ⟨w.heap.size + 1, 2, none⟩ = some (.bool false) := fun z => (r_R z).cell 2
  have c_R_3 : ∀ z : Wb U1, z.at.cell? ⟨w.heap.size + 1, 3, none⟩ = some (.int .u64 0) := fun z => (r_R z).cell 3
  have c_R_4 : ∀ z : Wb U1, z.at.cell? ⟨w.heap.size + 1, 4, none⟩ = some (.int .u64 0) := fun z => (r_R z).cell 4
  have c_R_5 : ∀ z : Wb U1, z.at.cell? ⟨w.heap.size + 1, 5, none⟩ = some (.int .u64 0) := fun z => (r_R z).cell 5
  have c_R_6 : ∀ z : Wb U1, z.at.cell? ⟨w.heap.size + 1, 6, none⟩ = some (.int .i64 0) := fun z => (r_R z).cell 6
  have f_R : ∀ (z : Wb U1) (i : Nat), z.at.frozen? ⟨w.heap.size + 1, i, none⟩ = false := fun z i => (r_R z).free i
  have c_r_0 : ∀ z : Wb U1, z.at.cell? ⟨zz.at.heap.size, 0, none⟩ = some (.int .i64 0) := fun z => (r_r z).cell 0
  have c_r_1 : ∀ z : Wb U1, z.at.cell? ⟨zz.at.heap.size, 1, none⟩ = some (.int .i64 0) := fun z => (r_r z).cell 1
  have c_r_2 : ∀ z : Wb U1, z.at.cell? ⟨zz.at.heap.size, 2, none⟩ = some (.bool false) := fun z => (r_r z).cell 2
  have c_r_3 : ∀ z : Wb U1, z.at.cell? ⟨zz.at.heap.size, 3, none⟩ = some (.int .u64 0) := fun z => (r_r z).cell 3
  have c_r_4 : ∀ z : Wb U1, z.at.cell? ⟨zz.at.heap.size, 4, none⟩ = some (.int .u64 F) := fun z => (r_r z).cell 4
  have c_r_5 : ∀ z : Wb U1, z.at.cell? ⟨zz.at.heap.size, 5, none⟩ = some (.int .u64 0) := fun z => (r_r z).cell 5
  have c_r_6 : ∀ z : Wb U1, z.at.cell? ⟨zz.at.heap.size, 6, none⟩ = some (.int .i64 1) := fun z => (r_r z).cell 6
  have f_r : ∀ (z : Wb U1) (i : Nat), z.at.frozen? ⟨zz.at.heap.size, i, none⟩ = false := fun z i => (r_r z).free i
  go_wp2_with fail
  refine (F1.out _).mono ?_
  rintro e w1 ⟨rfl, g⟩
  obtain ⟨x2, rfl⟩ := Wb.next (x := z1) g
  clear g
  go_upto_region 6 with fail
  clear c_B_0 c_B_1 f_B c_R_0 c_R_1 c_R_2 c_R_3 c_R_4 c_R_5 c_R_6 f_R c_r_0 c_r_1 c_r_2 c_r_3 c_r_4 c_r_5 c_r_6 f_r
  refine to_cls ?_
  intro U3 hU3 z3
  have r_B : ∀ z : Wb U3, Row z.at (w.heap.size) [.pointer p, .int .i64 n] 38 := Row.next ((r_B x2).old _) hU3
  have r_R : ∀ z : Wb U3, Row z.at (w.heap.size + 1) [.int .i64 0, .int .i64 0, .bool false, .int .u64 0, .int .u64 0, .int .u64 0, .int .i64 0] 42 := Row.next ((r_R x2).old _) hU3
  have r_r : ∀ z : Wb U3, Row z.at (zz.at.heap.size) [.int .i64 0, .int .i64 0, .bool false, .int .u64 0, .int .u64 F, .int .u64 0, .int .i64 1] 42 := Row.next ((r_r x2).old _) hU3
  have KK := KB.next (KB.alloc (KK x2) _) hU3
  have c_B_0 : ∀ z : Wb U3, z.at.cell? ⟨w.heap.size, 0, none⟩ = some (.pointer p) := fun z => (r_B z).cell 0
  have c_B_1 : ∀ z : Wb U3, z.at.cell? ⟨w.heap.size, 1, none⟩ = some (.int .i64 n) := fun z => (r_B z).cell 1
  have f_B : ∀ (z : Wb U3) (i : Nat), z.at.frozen? ⟨w.heap.size, i, none⟩ = false := fun z i => (r_B z).free i
  have c_R_0 : ∀ z : Wb U3, z.at.cell? ⟨w.heap.size + 1, 0, none⟩ = some (.int .i64 0) := fun z => (r_R z).cell 0
  have c_R_1 : ∀ z : Wb U3, z.at.cell? ⟨w.heap.size + 1, 1, none⟩ = some (.int .i64 0) := fun z => (r_R z).cell 1
  have c_R_2 : ∀ z : Wb U3, z.at.cell? ⟨w.heap.size + 1, 2, none⟩ = some (.bool false) := fun z => (r_R z).cell 2
  have c_R_3 : ∀ z : Wb U3, z.at.cell? ⟨w.heap.size + 1, 3, none⟩ = some (.int .u64 0) := fun z => (r_R z).cell 3
  have c_R_4 : ∀ z : Wb U3, z.at.cell? ⟨w.heap.size + 1, 4, none⟩ = some (.int .u64 0) := fun z => (r_R z).cell 4
  have c_R_5 : ∀ z : Wb U3, z.at.cell? ⟨w.heap.size + 1, 5, none⟩ = some (.int .u64 0) := fun z => (r_R z).cell 5
  have c_R_6 : ∀ z : Wb U3, z.at.cell? ⟨w.heap.size + 1, 6, none⟩ = some (.int .i64 0) := fun z => (r_R z).cell 6
  have f_R : ∀ (z : Wb U3) (i : Nat), z.at.frozen? ⟨w.heap.size + 1, i, none⟩ = false := fun z i => (r_R z).free i
  have c_r_0 : ∀ z : Wb U3, z.at.cell? ⟨zz.at.heap.size, 0, none⟩ = some (.int .i64 0) := fun z => (r_r z).cell 0
  have c_r_1 : ∀ z : Wb U3, z.at.cell? ⟨zz.at.heap.size, 1, none⟩ = some (.int .i64 0) := fun z => (r_r z).cell 1
  have c_r_2 : ∀ z : Wb U3, z.at.cell? ⟨zz.at.heap.size, 2, none⟩ = some (.bool false) := fun z => (r_r z).cell 2
  have c_r_3 : ∀ z : Wb U3, z.at.cell? ⟨zz.at.heap.size, 3, none⟩ = some (.int .u64 0) := fun z => (r_r z).cell 3
  have c_r_4 : ∀ z : Wb U3, z.at.cell? ⟨zz.at.heap.size, 4, none⟩ = some (.int .u64 F) := fun z => (r_r z).cell 4
  have c_r_5 : ∀ z : Wb U3, z.at.cell? ⟨zz.at.heap.size, 5, none⟩ = some (.int .u64 0) := fun z => (r_r z).cell 5
  have c_r_6 : ∀ z : Wb U3, z.at.cell? ⟨zz.at.heap.size, 6, none⟩ = some (.int .i64 1) := fun z => (r_r z).cell 6
  have f_r : ∀ (z : Wb U3) (i : Nat), z.at.frozen? ⟨zz.at.heap.size, i, none⟩ = false := fun z i => (r_r z).free i
  go_wp2_with fail
  refine (RB.out _ (KK z3)).mono ?_
  rintro e w1 ⟨rfl, g⟩
  obtain ⟨x4, rfl⟩ := Wb.next (x := z3) g
  clear g
  go_upto_region 8 with fail
  clear c_B_0 c_B_1 f_B c_R_0 c_R_1 c_R_2 c_R_3 c_R_4 c_R_5 c_R_6 f_R c_r_0 c_r_1 c_r_2 c_r_3 c_r_4 c_r_5 c_r_6 f_r
  refine to_cls ?_
  intro U5 hU5 z5
  have r_B : ∀ z : Wb U5, Row z.at (w.heap.size) [.pointer p, .int .i64 n] 38 := Row.next (Row.oth (Row.oth (r_B x4) nB 5 _) nB 6 _) hU5
  have r_R : ∀ z : Wb U5, Row z.at (w.heap.size + 1) [.int .i64 0, .int .i64 0, .bool false, .int .u64 0, .int .u64 0, .int .u64 0, .int .i64 0] 42 := Row.next (Row.oth (Row.oth (r_R x4) nR 5 _) nR 6 _) hU5
  have r_r : ∀ z : Wb U5, Row z.at (zz.at.heap.size) [.int .i64 0, .int .i64 0, .bool false, .int .u64 0, .int .u64 F, .int .u64 S, .int .i64 2] 42 := Row.next (Row.set (Row.set (r_r x4) 5 _) 6 _) hU5
  have KK := KB.next (KB.put (KB.put (KK x4) hp 5 _) hp 6 _) hU5
  have c_B_0 : ∀ z : Wb U5, z.at.cell? ⟨w.heap.size, 0, none⟩ = some (.pointer p) := fun z => (r_B z).cell 0
  have c_B_1 : ∀ z : Wb U5, z.at.cell? ⟨w.heap.size, 1, none⟩ = some (.int .i64 n) := fun z => (r_B z).cell 1
  have f_B : ∀ (z : Wb U5) (i : Nat), z.at.frozen? ⟨w.heap.size, i, none⟩ = false := fun z i => (r_B z).free i
  have c_R_0 : ∀ z : Wb U5, z.at.cell? ⟨w.heap.size + 1, 0, none⟩ = some (.int .i64 0) := fun z => (r_R z).cell 0
  have c_R_1 : ∀ z : Wb U5, z.at.cell? ⟨w.heap.size + 1, 1, none⟩ = some (.int .i64 0) := fun z => (r_R z).cell 1
  have c_R_2 : ∀ z : Wb U5, z.at.cell? ⟨w.heap.size + 1, 2, none⟩ = some (.bool false) := fun z => (r_R z).cell 2
  have c_R_3 : ∀ z : Wb U5, z.at.cell? ⟨w.heap.size + 1, 3, none⟩ = some (.int .u64 0) := fun z => (r_R z).cell 3
  have c_R_4 : ∀ z : Wb U5, z.at.cell? ⟨w.heap.size + 1, 4, none⟩ = some (.int .u64 0) := fun z => (r_R z).cell 4
  have c_R_5 : ∀ z : Wb U5, z.at.cell? ⟨w.heap.size + 1, 5, none⟩ = some (.int .u64 0) := fun z => (r_R z).cell 5
  have c_R_6 : ∀ z : Wb U5, z.at.cell? ⟨w.heap.size + 1, 6, none⟩ = some (.int .i64 0) := fun z => (r_R z).cell 6
  have f_R : ∀ (z : Wb U5) (i : Nat), z.at.frozen? ⟨w.heap.size + 1, i, none⟩ = false := fun z i => (r_R z).free i
  have c_r_0 : ∀ z : Wb U5, z.at.cell? ⟨zz.at.heap.size, 0, none⟩ = some (.int .i64 0) := fun z => (r_r z).cell 0
  have c_r_1 : ∀ z : Wb U5, z.at.cell? ⟨zz.at.heap.size, 1, none⟩ = some (.int .i64 0) := fun z => (r_r z).cell 1
  have c_r_2 : ∀ z : Wb U5, z.at.cell? ⟨zz.at.heap.size, 2, none⟩ = some (.bool false) := fun z => (r_r z).cell 2
  have c_r_3 : ∀ z : Wb U5, z.at.cell? ⟨zz.at.heap.size, 3, none⟩ = some (.int .u64 0) := fun z => (r_r z).cell 3
  have c_r_4 : ∀ z : Wb U5, z.at.cell? ⟨zz.at.heap.size, 4, none⟩ = some (.int .u64 F) := fun z => (r_r z).cell 4
  have c_r_5 : ∀ z : Wb U5, z.at.cell? ⟨zz.at.heap.size, 5, none⟩ = some (.int .u64 S) := fun z => (r_r z).cell 5
  have c_r_6 : ∀ z : Wb U5, z.at.cell? ⟨zz.at.heap.size, 6, none⟩ = some (.int .i64 2) := fun z => (r_r z).cell 6
  have f_r : ∀ (z : Wb U5) (i : Nat), z.at.frozen? ⟨zz.at.heap.size, i, none⟩ = false := fun z i => (r_r z).free i
  go_wp2_with fail
  refine (TH.out _).mono ?_
  rintro e w1 ⟨rfl, g⟩
  obtain ⟨x6, rfl⟩ := Wb.next (x := z5) g
  clear g
  go_upto_region 9 with fail
  clear c_B_0 c_B_1 f_B c_R_0 c_R_1 c_R_2 c_R_3 c_R_4 c_R_5 c_R_6 f_R c_r_0 c_r_1 c_r_2 c_r_3 c_r_4 c_r_5 c_r_6 f_r
  refine to_cls ?_
  intro U7 hU7 z7
  have r_B : ∀ z : Wb U7, Row z.at (w.heap.size) [.pointer p, .int .i64 n] 38 := Row.next (Row.oth (Row.oth (Row.oth (Row.oth (r_B x6) nB 0 _) nB 1 _) nB 2 _) nB 3 _) hU7
  have r_R : ∀ z : Wb U7, Row z.at (w.heap.size + 1) [.int .i64 0, .int .i64 0, .bool false, .int .u64 0, .int .u64 0, .int .u64 0, .int .i64 0] 42 := Row.next (Row.oth (Row.oth (Row.oth (Row.oth (r_R x6) nR 0 _) nR 1 _) nR 2 _) nR 3 _) hU7
  have r_r : ∀ z : Wb U7, Row z.at (zz.at.heap.size) [.int .i64 k, .int .i64 l, .bool c, .int .u64 ad, .int .u64 F, .int .u64 S, .int .i64 2] 42 := Row.next (Row.set (Row.set (Row.set (Row.set (r_r x6) 0 _) 1 _) 2 _) 3 _) hU7
  have KK := KB.next (KB.put (KB.put (KB.put (KB.put (KK x6) hp 0 _) hp 1 _) hp 2 _) hp 3 _) hU7
  have c_B_0 : ∀ z : Wb U7, z.at.cell? ⟨w.heap.size, 0, none⟩ = some (.pointer p) := fun z => (r_B z).cell 0
  have c_B_1 : ∀ z : Wb U7, z.at.cell? ⟨w.heap.size, 1, none⟩ = some (.int .i64 n) := fun z => (r_B z).cell 1
  have f_B : ∀ (z : Wb U7) (i : Nat), z.at.frozen? ⟨w.heap.size, i, none⟩ = false := fun z i => (r_B z).free i
  have c_R_0 : ∀ z : Wb U7, z.at.cell? ⟨w.heap.size + 1, 0, none⟩ = some (.int .i64 0) := fun z => (r_R z).cell 0
  have c_R_1 : ∀ z : Wb U7, z.at.cell? ⟨w.heap.size + 1, 1, none⟩ = some (.int .i64 0) := fun z => (r_R z).cell 1
  have c_R_2 : ∀ z : Wb U7, z.at.cell? ⟨w.heap.size + 1, 2, none⟩ = some (.bool false) := fun z => (r_R z).cell 2
  have c_R_3 : ∀ z : Wb U7, z.at.cell? ⟨w.heap.size + 1, 3, none⟩ = some (.int .u64 0) := fun z => (r_R z).cell 3
  have c_R_4 : ∀ z : Wb U7, z.at.cell? ⟨w.heap.size + 1, 4, none⟩ = some (.int .u64 0) := fun z => (r_R z).cell 4
  have c_R_5 : ∀ z : Wb U7, z.at.cell? ⟨w.heap.size + 1, 5, none⟩ = some (.int .u64 0) := fun z => (r_R z).cell 5
  have c_R_6 : ∀ z : Wb U7, z.at.cell? ⟨w.heap.size + 1, 6, none⟩ = some (.int .i64 0) := fun z => (r_R z).cell 6
  have f_R : ∀ (z : Wb U7) (i : Nat), z.at.frozen? ⟨w.heap.size + 1, i, none⟩ = false := fun z i => (r_R z).free i
  have c_r_0 : ∀ z : Wb U7, z.at.cell? ⟨zz.at.heap.size, 0, none⟩ = some (.int .i64 k) := fun z => (r_r z).cell 0
  have c_r_1 : ∀ z : Wb U7, z.at.cell? ⟨zz.at.heap.size, 1, none⟩ = some (.int .i64 l) := fun z => (r_r z).cell 1
  have c_r_2 : ∀ z : Wb U7, z.at.cell? ⟨zz.at.heap.size, 2, none⟩ = some (.bool c) := fun z => (r_r z).cell 2
  have c_r_3 : ∀ z : Wb U7, z.at.cell? ⟨zz.at.heap.size, 3, none⟩ = some (.int .u64 ad) := fun z => (r_r z).cell 3
  have c_r_4 : ∀ z : Wb U7, z.at.cell? ⟨zz.at.heap.size, 4, none⟩ = some (.int .u64 F) := fun z => (r_r z).cell 4
  have c_r_5 : ∀ z : Wb U7, z.at.cell? ⟨zz.at.heap.size, 5, none⟩ = some (.int .u64 S) := fun z => (r_r z).cell 5
  have c_r_6 : ∀ z : Wb U7, z.at.cell? ⟨zz.at.heap.size, 6, none⟩ = some (.int .i64 2) := fun z => (r_r z).cell 6
  have f_r : ∀ (z : Wb U7) (i : Nat), z.at.frozen? ⟨zz.at.heap.size, i, none⟩ = false := fun z i => (r_r z).free i
  go_wp2
  refine bodyPost_ret (v := .agg #[.int .i64 k, .int .i64 l, .bool c, .int .u64 ad, .int .u64 F, .int .u64 S, .int .i64 2]) (by simp [results, Try.results16, go_sem, *]) rfl ⟨rfl, ?_⟩
  repeat' (first | (with_reducible exact KK z7) | (with_reducible refine Below.setCell ?_ ?_ _) | (simp; done) | (simp; omega))

set_option maxRecDepth 100000 in
set_option maxHeartbeats 6400000 in
theorem walk_one (p : Option Addr) (n tb va : Int) (b : Bool) (w : World) (a1 a2 F S k1 l1 k l ad : Int) (c : Bool)
    (BE : RowKit.Hid (∀ w, Calls Try.prog 43 #[.int .u64 va, .bool b] w fun e w' => e = .returned (GrW.fv 0 0 false) ∧ Below w.heap.size w w'))
    (SL : RowKit.Hid (∀ w, Calls Try.prog 44 #[.int .u64 tb, .int .u64 va, .int .i64 1] w fun e w' => e = .returned (.int .u64 a1) ∧ Below w.heap.size w w'))
    (F1 : RowKit.Hid (∀ w, Calls Try.prog 45 #[.int .u64 F, .int .u64 va] w fun e w' => e = .returned (.tuple #[.agg #[.int .i64 k1, .int .i64 l1, .bool false], .int .u64 a2, .bool false]) ∧ Below w.heap.size w w'))
    (TH : RowKit.Hid (∀ w, Calls Try.prog 46 #[.int .u64 F, .int .u64 0, .int .u64 va, .bool b] w fun e w' => e = .returned (.tuple #[.agg #[.int .i64 k, .int .i64 l, .bool c], .int .u64 ad]) ∧ Below w.heap.size w w'))
    (RA : RowKit.Hid (ReadsAt w (.agg #[.pointer p, .int .i64 n]) a1 F)) :
    Calls Try.prog 16 #[.agg #[.pointer p, .int .i64 n], .int .u64 tb, .int .u64 va, .bool b] w fun e w' => e = .returned (.agg #[.int .i64 k, .int .i64 l, .bool c, .int .u64 ad, .int .u64 F, .int .u64 0, .int .i64 1]) ∧ Below w.heap.size w w' := by
  have r_B : ∀ z : Wb ((w.alloc (.cells #[.pointer p, .int .i64 n] 38)).alloc (.cells #[.int .i64 0, .int .i64 0, .bool false, .int .u64 0, .int .u64 0, .int .u64 0, .int .i64 0] 42)), Row z.at (w.heap.size) [.pointer p, .int .i64 n] 38 := Row.at ((Row.new w _ _).old _)
  have r_R : ∀ z : Wb ((w.alloc (.cells #[.pointer p, .int .i64 n] 38)).alloc (.cells #[.int .i64 0, .int .i64 0, .bool false, .int .u64 0, .int .u64 0, .int .u64 0, .int .i64 0] 42)), Row z.at (w.heap.size + 1) [.int .i64 0, .int .i64 0, .bool false, .int .u64 0, .int .u64 0, .int .u64 0, .int .i64 0] 42 := Row.at (Row.new' _ _ _ _ (by simp))
  have KK := KB.at (V := (w.alloc (.cells #[.pointer p, .int .i64 n] 38)).alloc (.cells #[.int .i64 0, .int .i64 0, .bool false, .int .u64 0, .int .u64 0, .int .u64 0, .int .i64 0] 42)) (KB.alloc (KB.alloc (Below.refl _ _) _) _)
  have c_B_0 : ∀ z : Wb ((w.alloc (.cells #[.pointer p, .int .i64 n] 38)).alloc (.cells #[.int .i64 0, .int .i64 0, .bool false, .int .u64 0, .int .u64 0, .int .u64 0, .int .i64 0] 42)), z.at.cell? ⟨w.heap.size, 0, none⟩ = some (.pointer p) := fun z => (r_B z).cell 0
  have c_B_1 : ∀ z : Wb ((w.alloc (.cells #[.pointer p, .int .i64 n] 38)).alloc (.cells #[.int .i64 0, .int .i64 0, .bool false, .int .u64 0, .int .u64 0, .int .u64 0, .int .i64 0] 42)), z.at.cell? ⟨w.heap.size, 1, none⟩ = some (.int .i64 n) := fun z => (r_B z).cell 1
  have f_B : ∀ (z : Wb ((w.alloc (.cells #[.pointer p, .int .i64 n] 38)).alloc (.cells #[.int .i64 0, .int .i64 0, .bool false, .int .u64 0, .int .u64 0, .int .u64 0, .int .i64 0] 42))) (i : Nat), z.at.frozen? ⟨w.heap.size, i, none⟩ = false := fun z i => (r_B z).free i
  have c_R_0 : ∀ z : Wb ((w.alloc (.cells #[.pointer p, .int .i64 n] 38)).alloc (.cells #[.int .i64 0, .int .i64 0, .bool false, .int .u64 0, .int .u64 0, .int .u64 0, .int .i64 0] 42)), z.at.cell? ⟨w.heap.size + 1, 0, none⟩ = some (.int .i64 0) := fun z => (r_R z).cell 0
  have c_R_1 : ∀ z : Wb ((w.alloc (.cells #[.pointer p, .int .i64 n] 38)).alloc (.cells #[.int .i64 0, .int .i64 0, .bool false, .int .u64 0, .int .u64 0, .int .u64 0, .int .i64 0] 42)), z.at.cell? ⟨w.heap.size + 1, 1, none⟩ = some (.int .i64 0) := fun z => (r_R z).cell 1
  have c_R_2 : ∀ z : Wb ((w.alloc (.cells #[.pointer p, .int .i64 n] 38)).alloc (.cells #[.int .i64 0, .int .i64 0, .bool false, .int .u64 0, .int .u64 0, .int .u64 0, .int .i64 0] 42)), z.at.cell? ⟨w.heap.size + 1, 2, none⟩ = some (.bool false) := fun z => (r_R z).cell 2
  have c_R_3 : ∀ z : Wb ((w.alloc (.cells #[.pointer p, .int .i64 n] 38)).alloc (.cells #[.int .i64 0, .int .i64 0, .bool false, .int .u64 0, .int .u64 0, .int .u64 0, .int .i64 0] 42)), z.at.cell? ⟨w.heap.size + 1, 3, none⟩ = some (.int .u64 0) := fun z => (r_R z).cell 3
  have c_R_4 : ∀ z : Wb ((w.alloc (.cells #[.pointer p, .int .i64 n] 38)).alloc (.cells #[.int .i64 0, .int .i64 0, .bool false, .int .u64 0, .int .u64 0, .int .u64 0, .int .i64 0] 42)), z.at.cell? ⟨w.heap.size + 1, 4, none⟩ = some (.int .u64 0) := fun z => (r_R z).cell 4
  have c_R_5 : ∀ z : Wb ((w.alloc (.cells #[.pointer p, .int .i64 n] 38)).alloc (.cells #[.int .i64 0, .int .i64 0, .bool false, .int .u64 0, .int .u64 0, .int .u64 0, .int .i64 0] 42)), z.at.cell? ⟨w.heap.size + 1, 5, none⟩ = some (.int .u64 0) := fun z => (r_R z).cell 5
  have c_R_6 : ∀ z : Wb ((w.alloc (.cells #[.pointer p, .int .i64 n] 38)).alloc (.cells #[.int .i64 0, .int .i64 0, .bool false, .int .u64 0, .int .u64 0, .int .u64 0, .int .i64 0] 42)), z.at.cell? ⟨w.heap.size + 1, 6, none⟩ = some (.int .i64 0) := fun z => (r_R z).cell 6
  have f_R : ∀ (z : Wb ((w.alloc (.cells #[.pointer p, .int .i64 n] 38)).alloc (.cells #[.int .i64 0, .int .i64 0, .bool false, .int .u64 0, .int .u64 0, .int .u64 0, .int .i64 0] 42))) (i : Nat), z.at.frozen? ⟨w.heap.size + 1, i, none⟩ = false := fun z i => (r_R z).free i
  go_enter Try.func16, Try.ntmps16
  go_wp2_with fail
  refine (BE.out _).mono ?_
  rintro e w1 ⟨rfl, g⟩
  obtain ⟨x0, rfl⟩ := Wb.start g
  clear g
  unfold GrW.fv
  go_upto_region 2 with fail
  clear c_B_0 c_B_1 f_B c_R_0 c_R_1 c_R_2 c_R_3 c_R_4 c_R_5 c_R_6 f_R
  refine to_cls ?_
  intro U0 hU0 z0
  have r_B : ∀ z : Wb U0, Row z.at (w.heap.size) [.pointer p, .int .i64 n] 38 := Row.next ((r_B x0).old _) hU0
  have r_R : ∀ z : Wb U0, Row z.at (w.heap.size + 1) [.int .i64 0, .int .i64 0, .bool false, .int .u64 0, .int .u64 0, .int .u64 0, .int .i64 0] 42 := Row.next ((r_R x0).old _) hU0
  have r_F : ∀ z : Wb U0, Row z.at (x0.at.heap.size) [.int .i64 0, .int .i64 0, .bool false] 28 := Row.next (Row.new _ _ _) hU0
  have KK := KB.next (KB.alloc (KK x0) _) hU0
  have c_B_0 : ∀ z : Wb U0, z.at.cell? ⟨w.heap.size, 0, none⟩ = some (.pointer p) := fun z => (r_B z).cell 0
  have c_B_1 : ∀ z : Wb U0, z.at.cell? ⟨w.heap.size, 1, none⟩ = some (.int .i64 n) := fun z => (r_B z).cell 1
  have f_B : ∀ (z : Wb U0) (i : Nat), z.at.frozen? ⟨w.heap.size, i, none⟩ = false := fun z i => (r_B z).free i
  have c_R_0 : ∀ z : Wb U0, z.at.cell? ⟨w.heap.size + 1, 0, none⟩ = some (.int .i64 0) := fun z => (r_R z).cell 0
  have c_R_1 : ∀ z : Wb U0, z.at.cell? ⟨w.heap.size + 1, 1, none⟩ = some (.int .i64 0) := fun z => (r_R z).cell 1
  have c_R_2 : ∀ z : Wb U0, z.at.cell? ⟨w.heap.size + 1, 2, none⟩ = some (.bool false) := fun z => (r_R z).cell 2
  have c_R_3 : ∀ z : Wb U0, z.at.cell? ⟨w.heap.size + 1, 3, none⟩ = some (.int .u64 0) := fun z => (r_R z).cell 3
  have c_R_4 : ∀ z : Wb U0, z.at.cell? ⟨w.heap.size + 1, 4, none⟩ = some (.int .u64 0) := fun z => (r_R z).cell 4
  have c_R_5 : ∀ z : Wb U0, z.at.cell? ⟨w.heap.size + 1, 5, none⟩ = some (.int .u64 0) := fun z => (r_R z).cell 5
  have c_R_6 : ∀ z : Wb U0, z.at.cell? ⟨w.heap.size + 1, 6, none⟩ = some (.int .i64 0) := fun z => (r_R z).cell 6
  have f_R : ∀ (z : Wb U0) (i : Nat), z.at.frozen? ⟨w.heap.size + 1, i, none⟩ = false := fun z i => (r_R z).free i
  have c_F_0 : ∀ z : Wb U0, z.at.cell? ⟨x0.at.heap.size, 0, none⟩ = some (.int .i64 0) := fun z => (r_F z).cell 0
  have c_F_1 : ∀ z : Wb U0, z.at.cell? ⟨x0.at.heap.size, 1, none⟩ = some (.int .i64 0) := fun z => (r_F z).cell 1
  have c_F_2 : ∀ z : Wb U0, z.at.cell? ⟨x0.at.heap.size, 2, none⟩ = some (.bool false) := fun z => (r_F z).cell 2
  have f_F : ∀ (z : Wb U0) (i : Nat), z.at.frozen? ⟨x0.at.heap.size, i, none⟩ = false := fun z i => (r_F z).free i
  go_wp2_with fail
  refine wp_region_wb_block 6 _ (.cells #[.int .i64 0, .int .i64 0, .bool false, .int .u64 0, .int .u64 0, .int .u64 0, .int .i64 0] 42) (by kernel_rfl) (by kernel_rfl) rfl rfl (fun a w => by simp [go_sem]) (by simp) ?_
  intro y0
  have SL1 := Lib.hid SL
  have RD1 := Lib.hid (ReadsAt.at RA.out ((KK z0).trans (y0.bel.mono (KK z0).size)))
  have q0 : ∀ x : Wb y0.at, x.at.cell? ⟨w.heap.size, 0, none⟩ = some (.pointer p) := fun x => (((r_B z0).below y0.bel).below x.bel).cell 0
  have q1 : ∀ x : Wb y0.at, x.at.cell? ⟨w.heap.size, 1, none⟩ = some (.int .i64 n) := fun x => (((r_B z0).below y0.bel).below x.bel).cell 1
  clear c_B_0 c_B_1 f_B c_R_0 c_R_1 c_R_2 c_R_3 c_R_4 c_R_5 c_R_6 f_R c_F_0 c_F_1 c_F_2 f_F
  simp only [List.take_succ_cons, List.take_zero, List.drop_succ_cons, List.drop_zero]
  repeat (go_big_quiet_step (first | (go_at_call 44; exact Calls.wb (SL.out _)) | (go_at_call 26; exact Calls.wb (RD1.out _))))
  refine wpQuiet_nil ?_
  clear q0 q1 RD1 SL1
  clear y0
  intro zz xx
  have nB : w.heap.size ≠ zz.at.heap.size := by have := ((r_B z0).below zz.bel).lt; omega
  have nR : w.heap.size + 1 ≠ zz.at.heap.size := by have := ((r_R z0).below zz.bel).lt; omega
  have hp : w.heap.size ≤ zz.at.heap.size := by have := ((r_B z0).below zz.bel).lt; omega
  have r_B : ∀ z : Wb (zz.at.alloc (.cells #[.int .i64 0, .int .i64 0, .bool false, .int .u64 0, .int .u64 0, .int .u64 0, .int .i64 0] 42)), Row z.at (w.heap.size) [.pointer p, .int .i64 n] 38 := Row.at (((r_B z0).below zz.bel).old _)
  have r_R : ∀ z : Wb (zz.at.alloc (.cells #[.int .i64 0, .int .i64 0, .bool false, .int .u64 0, .int .u64 0, .int .u64 0, .int .i64 0] 42)), Row z.at (w.heap.size + 1) [.int .i64 0, .int .i64 0, .bool false, .int .u64 0, .int .u64 0, .int .u64 0, .int .i64 0] 42 := Row.at (((r_R z0).below zz.bel).old _)
  have r_r : ∀ z : Wb (zz.at.alloc (.cells #[.int .i64 0, .int .i64 0, .bool false, .int .u64 0, .int .u64 0, .int .u64 0, .int .i64 0] 42)), Row z.at (zz.at.heap.size) [.int .i64 0, .int .i64 0, .bool false, .int .u64 0, .int .u64 0, .int .u64 0, .int .i64 0] 42 := Row.at (Row.new _ _ _)
  have KK := KB.at (V := zz.at.alloc (.cells #[.int .i64 0, .int .i64 0, .bool false, .int .u64 0, .int .u64 0, .int .u64 0, .int .i64 0] 42)) (KB.alloc ((KK z0).trans (zz.bel.mono (KK z0).size)) _)
  have c_B_0 : ∀ z : Wb (zz.at.alloc (.cells #[.int .i64 0, .int .i64 0, .bool false, .int .u64 0, .int .u64 0, .int .u64 0, .int .i64 0] 42)), z.at.cell? ⟨w.heap.size, 0, none⟩ = some (.pointer p) := fun z => (r_B z).cell 0
  have c_B_1 : ∀ z : Wb (zz.at.alloc (.cells #[.int .i64 0, .int .i64 0, .bool false, .int .u64 0, .int .u64 0, .int .u64 0, .int .i64 0] 42)), z.at.cell? ⟨w.heap.size, 1, none⟩ = some (.int .i64 n) := fun z => (r_B z).cell 1
  have f_B : ∀ (z : Wb (zz.at.alloc (.cells #[.int .i64 0, .int .i64 0, .bool false, .int .u64 0, .int .u64 0, .int .u64 0, .int .i64 0] 42))) (i : Nat), z.at.frozen? ⟨w.heap.size, i, none⟩ = false := fun z i => (r_B z).free i
  have c_R_0 : ∀ z : Wb (zz.at.alloc (.cells #[.int .i64 0, .int .i64 0, .bool false, .int .u64 0, .int .u64 0, .int .u64 0, .int .i64 0] 42)), z.at.cell? ⟨w.heap.size + 1, 0, none⟩ = some (.int .i64 0) := fun z => (r_R z).cell 0
  have c_R_1 : ∀ z : Wb (zz.at.alloc (.cells #[.int .i64 0, .int .i64 0, .bool false, .int .u64 0, .int .u64 0, .int .u64 0, .int .i64 0] 42)), z.at.cell? ⟨w.heap.size + 1, 1, none⟩ = some (.int .i64 0) := fun z => (r_R z).cell 1
  have c_R_2 : ∀ z : Wb (zz.at.alloc (.cells #[.int .i64 0, .int .i64 0, .bool false, .int .u64 0, .int .u64 0, .int .u64 0, .int .i64 0] 42)), z.at.cell? ⟨w.heap.size + 1, 2, none⟩ = some (.bool false) := fun z => (r_R z).cell 2
  have c_R_3 : ∀ z : Wb (zz.at.alloc (.cells #[.int .i64 0, .int .i64 0, .bool false, .int .u64 0, .int .u64 0, .int .u64 0, .int .i64 0] 42)), z.at.cell? ⟨w.heap.size + 1, 3, none⟩ = some (.int .u64 0) := fun z => (r_R z).cell 3
  have c_R_4 : ∀ z : Wb (zz.at.alloc (.cells #[.int .i64 0, .int .i64 0, .bool false, .int .u64 0, .int .u64 0, .int .u64 0, .int .i64 0] 42)), z.at.cell? ⟨w.heap.size + 1, 4, none⟩ = some (.int .u64 0) := fun z => (r_R z).cell 4
  have c_R_5 : ∀ z : Wb (zz.at.alloc (.cells #[.int .i64 0, .int .i64 0, .bool false, .int .u64 0, .int .u64 0, .int .u64 0, .int .i64 0] 42)), z.at.cell? ⟨w.heap.size + 1, 5, none⟩ = some (.int .u64 0) := fun z => (r_R z).cell 5
  have c_R_6 : ∀ z : Wb (zz.at.alloc (.cells #[.int .i64 0, .int .i64 0, .bool false, .int .u64 0, .int .u64 0, .int .u64 0, .int .i64 0] 42)), z.at.cell? ⟨w.heap.size + 1, 6, none⟩ = some (.int .i64 0) := fun z => (r_R z).cell 6
  have f_R : ∀ (z : Wb (zz.at.alloc (.cells #[.int .i64 0, .int .i64 0, .bool false, .int .u64 0, .int .u64 0, .int .u64 0, .int .i64 0] 42))) (i : Nat), z.at.frozen? ⟨w.heap.size + 1, i, none⟩ = false := fun z i => (r_R z).free i
  have c_r_0 : ∀ z : Wb (zz.at.alloc (.cells #[.int .i64 0, .int .i64 0, .bool false, .int .u64 0, .int .u64 0, .int .u64 0, .int .i64 0] 42)), z.at.cell? ⟨zz.at.heap.size, 0, none⟩ = some (.int .i64 0) := fun z => (r_r z).cell 0
  have c_r_1 : ∀ z : Wb (zz.at.alloc (.cells #[.int .i64 0, .int .i64 0, .bool false, .int .u64 0, .int .u64 0, .int .u64 0, .int .i64 0] 42)), z.at.cell? ⟨zz.at.heap.size, 1, none⟩ = some (.int .i64 0) := fun z => (r_r z).cell 1
  have c_r_2 : ∀ z : Wb (zz.at.alloc (.cells #[.int .i64 0, .int .i64 0, .bool false, .int .u64 0, .int .u64 0, .int .u64 0, .int .i64 0] 42)), z.at.cell? ⟨zz.at.heap.size, 2, none⟩ = some (.bool false) := fun z => (r_r z).cell 2
  have c_r_3 : ∀ z : Wb (zz.at.alloc (.cells #[.int .i64 0, .int .i64 0, .bool false, .int .u64 0, .int .u64 0, .int .u64 0, .int .i64 0] 42)), z.at.cell? ⟨zz.at.heap.size, 3, none⟩ = some (.int .u64 0) := fun z => (r_r z).cell 3
  have c_r_4 : ∀ z : Wb (zz.at.alloc (.cells #[.int .i64 0, .int .i64 0, .bool false, .int .u64 0, .int .u64 0, .int .u64 0, .int .i64 0] 42)), z.at.cell? ⟨zz.at.heap.size, 4, none⟩ = some (.int .u64 0) := fun z => (r_r z).cell 4
  have c_r_5 : ∀ z : Wb (zz.at.alloc (.cells #[.int .i64 0, .int .i64 0, .bool false, .int .u64 0, .int .u64 0, .int .u64 0, .int .i64 0] 42)), z.at.cell? ⟨zz.at.heap.size, 5, none⟩ = some (.int .u64 0) := fun z => (r_r z).cell 5
  have c_r_6 : ∀ z : Wb (zz.at.alloc (.cells #[.int .i64 0, .int .i64 0, .bool false, .int .u64 0, .int .u64 0, .int .u64 0, .int .i64 0] 42)), z.at.cell? ⟨zz.at.heap.size, 6, none⟩ = some (.int .i64 0) := fun z => (r_r z).cell 6
  have f_r : ∀ (z : Wb (zz.at.alloc (.cells #[.int .i64 0, .int .i64 0, .bool false, .int .u64 0, .int .u64 0, .int .u64 0, .int .i64 0] 42))) (i : Nat), z.at.frozen? ⟨zz.at.heap.size, i, none⟩ = false := fun z i => (r_r z).free i
  go_upto_region 5 with fail
  clear c_B_0 c_B_1 f_B c_R_0 c_R_1 c_R_2 c_R_3 c_R_4 c_R_5 c_R_6 f_R c_r_0 c_r_1 c_r_2 c_r_3 c_r_4 c_r_5 c_r_6 f_r
  refine to_cls ?_
  intro U1 hU1 z1
  have r_B : ∀ z : Wb U1, Row z.at (w.heap.size) [.pointer p, .int .i64 n] 38 := Row.next (Row.oth (Row.oth (Row.oth (Row.oth (Row.oth (Row.oth (Row.oth (r_B xx) nB 0 _) nB 1 _) nB 2 _) nB 3 _) nB 4 _) nB 5 _) nB 6 _) hU1
  have r_R : ∀ z : Wb U1, Row z.at (w.heap.size + 1) [.int .i64 0, .int .i64 0, .bool false, .int .u64 0, .int .u64 0, .int .u64 0, .int .i64 0] 42 := Row.next (Row.oth (Row.oth (Row.oth (Row.oth (Row.oth (Row.oth (Row.oth (r_R xx) nR 0 _) nR 1 _) nR 2 _) nR 3 _) nR 4 _) nR 5 _) nR 6 _) hU1
  have r_r : ∀ z : Wb U1, Row z.at (zz.at.heap.size) [.int .i64 0, .int .i64 0, .bool false, .int .u64 0, .int .u64 F, .int .u64 0, .int .i64 1] 42 := Row.next (Row.set (Row.set (Row.set (Row.set (Row.set (Row.set (Row.set (r_r xx) 0 _) 1 _) 2 _) 3 _) 4 _) 5 _) 6 _) hU1
  have KK := KB.next (KB.put (KB.put (KB.put (KB.put (KB.put (KB.put (KB.put (KK xx) hp 0 _) hp 1 _) hp 2 _) hp 3 _) hp 4 _) hp 5 _) hp 6 _) hU1
  have c_B_0 : ∀ z : Wb U1, z.at.cell? ⟨w.heap.size, 0, none⟩ = some (.pointer p) := fun z => (r_B z).cell 0
  have c_B_1 : ∀ z : Wb U1, z.at.cell? ⟨w.heap.size, 1, none⟩ = some (.int .i64 n) := fun z => (r_B z).cell 1
  have f_B : ∀ (z : Wb U1) (i : Nat), z.at.frozen? ⟨w.heap.size, i, none⟩ = false := fun z i => (r_B z).free i
  have c_R_0 : ∀ z : Wb U1, z.at.cell? ⟨w.heap.size + 1, 0, none⟩ = some (.int .i64 0) := fun z => (r_R z).cell 0
  have c_R_1 : ∀ z : Wb U1, z.at.cell? ⟨w.heap.size + 1, 1, none⟩ = some (.int .i64 0) := fun z => (r_R z).cell 1
  have c_R_2 : ∀ z : Wb U1, z.at.cell? ⟨w.heap.size + 1, 2, none⟩ = some (.bool false) := fun z => (r_R z).cell 2
  have c_R_3 : ∀ z : Wb U1, z.at.cell? ⟨w.heap.size + 1, 3, none⟩ = some (.int .u64 0) := fun z => (r_R z).cell 3
  have c_R_4 : ∀ z : Wb U1, z.at.cell? ⟨w.heap.size + 1, 4, none⟩ = some (.int .u64 0) := fun z => (r_R z).cell 4
  have c_R_5 : ∀ z : Wb U1, z.at.cell? ⟨w.heap.size + 1, 5, none⟩ = some (.int .u64 0) := fun z => (r_R z).cell 5
  have c_R_6 : ∀ z : Wb U1, z.at.cell? ⟨w.heap.size + 1, 6, none⟩ = some (.int .i64 0) := fun z => (r_R z).cell 6
  have f_R : ∀ (z : Wb U1) (i : Nat), z.at.frozen? ⟨w.heap.size + 1, i, none⟩ = false := fun z i => (r_R z).free i
  have c_r_0 : ∀ z : Wb U1, z.at.cell? ⟨zz.at.heap.size, 0, none⟩ = some (.int .i64 0) := fun z => (r_r z).cell 0
  have c_r_1 : ∀ z : Wb U1, z.at.cell? ⟨zz.at.heap.size, 1, none⟩ = some (.int .i64 0) := fun z => (r_r z).cell 1
  have c_r_2 : ∀ z : Wb U1, z.at.cell? ⟨zz.at.heap.size, 2, none⟩ = some (.bool false) := fun z => (r_r z).cell 2
  have c_r_3 : ∀ z : Wb U1, z.at.cell? ⟨zz.at.heap.size, 3, none⟩ = some (.int .u64 0) := fun z => (r_r z).cell 3
  have c_r_4 : ∀ z : Wb U1, z.at.cell? ⟨zz.at.heap.size, 4, none⟩ = some (.int .u64 F) := fun z => (r_r z).cell 4
  have c_r_5 : ∀ z : Wb U1, z.at.cell? ⟨zz.at.heap.size, 5, none⟩ = some (.int .u64 0) := fun z => (r_r z).cell 5
  have c_r_6 : ∀ z : Wb U1, z.at.cell? ⟨zz.at.heap.size, 6, none⟩ = some (.int .i64 1) := fun z => (r_r z).cell 6
  have f_r : ∀ (z : Wb U1) (i : Nat), z.at.frozen? ⟨zz.at.heap.size, i, none⟩ = false := fun z i => (r_r z).free i
  go_wp2_with fail
  refine (F1.out _).mono ?_
  rintro e w1 ⟨rfl, g⟩
  obtain ⟨x2, rfl⟩ := Wb.next (x := z1) g
  clear g
  go_upto_region 6 with fail
  clear c_B_0 c_B_1 f_B c_R_0 c_R_1 c_R_2 c_R_3 c_R_4 c_R_5 c_R_6 f_R c_r_0 c_r_1 c_r_2 c_r_3 c_r_4 c_r_5 c_r_6 f_r
  refine to_cls ?_
  intro U3 hU3 z3
  have r_B : ∀ z : Wb U3, Row z.at (w.heap.size) [.pointer p, .int .i64 n] 38 := Row.next ((r_B x2).old _) hU3
  have r_R : ∀ z : Wb U3, Row z.at (w.heap.size + 1) [.int .i64 0, .int .i64 0, .bool false, .int .u64 0, .int .u64 0, .int .u64 0, .int .i64 0] 42 := Row.next ((r_R x2).old _) hU3
  have r_r : ∀ z : Wb U3, Row z.at (zz.at.heap.size) [.int .i64 0, .int .i64 0, .bool false, .int .u64 0, .int .u64 F, .int .u64 0, .int .i64 1] 42 := Row.next ((r_r x2).old _) hU3
  have KK := KB.next (KB.alloc (KK x2) _) hU3
  have c_B_0 : ∀ z : Wb U3, z.at.cell? ⟨w.heap.size, 0, none⟩ = some (.pointer p) := fun z => (r_B z).cell 0
  have c_B_1 : ∀ z : Wb U3, z.at.cell? ⟨w.heap.size, 1, none⟩ = some (.int .i64 n) := fun z => (r_B z).cell 1
  have f_B : ∀ (z : Wb U3) (i : Nat), z.at.frozen? ⟨w.heap.size, i, none⟩ = false := fun z i => (r_B z).free i
  have c_R_0 : ∀ z : Wb U3, z.at.cell? ⟨w.heap.size + 1, 0, none⟩ = some (.int .i64 0) := fun z => (r_R z).cell 0
  have c_R_1 : ∀ z : Wb U3, z.at.cell? ⟨w.heap.size + 1, 1, none⟩ = some (.int .i64 0) := fun z => (r_R z).cell 1
  have c_R_2 : ∀ z : Wb U3, z.at.cell? ⟨w.heap.size + 1, 2, none⟩ = some (.bool false) := fun z => (r_R z).cell 2
  have c_R_3 : ∀ z : Wb U3, z.at.cell? ⟨w.heap.size + 1, 3, none⟩ = some (.int .u64 0) := fun z => (r_R z).cell 3
  have c_R_4 : ∀ z : Wb U3, z.at.cell? ⟨w.heap.size + 1, 4, none⟩ = some (.int .u64 0) := fun z => (r_R z).cell 4
  have c_R_5 : ∀ z : Wb U3, z.at.cell? ⟨w.heap.size + 1, 5, none⟩ = some (.int .u64 0) := fun z => (r_R z).cell 5
  have c_R_6 : ∀ z : Wb U3, z.at.cell? ⟨w.heap.size + 1, 6, none⟩ = some (.int .i64 0) := fun z => (r_R z).cell 6
  have f_R : ∀ (z : Wb U3) (i : Nat), z.at.frozen? ⟨w.heap.size + 1, i, none⟩ = false := fun z i => (r_R z).free i
  have c_r_0 : ∀ z : Wb U3, z.at.cell? ⟨zz.at.heap.size, 0, none⟩ = some (.int .i64 0) := fun z => (r_r z).cell 0
  have c_r_1 : ∀ z : Wb U3, z.at.cell? ⟨zz.at.heap.size, 1, none⟩ = some (.int .i64 0) := fun z => (r_r z).cell 1
  have c_r_2 : ∀ z : Wb U3, z.at.cell? ⟨zz.at.heap.size, 2, none⟩ = some (.bool false) := fun z => (r_r z).cell 2
  have c_r_3 : ∀ z : Wb U3, z.at.cell? ⟨zz.at.heap.size, 3, none⟩ = some (.int .u64 0) := fun z => (r_r z).cell 3
  have c_r_4 : ∀ z : Wb U3, z.at.cell? ⟨zz.at.heap.size, 4, none⟩ = some (.int .u64 F) := fun z => (r_r z).cell 4
  have c_r_5 : ∀ z : Wb U3, z.at.cell? ⟨zz.at.heap.size, 5, none⟩ = some (.int .u64 0) := fun z => (r_r z).cell 5
  have c_r_6 : ∀ z : Wb U3, z.at.cell? ⟨zz.at.heap.size, 6, none⟩ = some (.int .i64 1) := fun z => (r_r z).cell 6
  have f_r : ∀ (z : Wb U3) (i : Nat), z.at.frozen? ⟨zz.at.heap.size, i, none⟩ = false := fun z i => (r_r z).free i
  go_wp2_with fail
  refine (TH.out _).mono ?_
  rintro e w1 ⟨rfl, g⟩
  obtain ⟨x4, rfl⟩ := Wb.next (x := z3) g
  clear g
  go_upto_region 9 with fail
  clear c_B_0 c_B_1 f_B c_R_0 c_R_1 c_R_2 c_R_3 c_R_4 c_R_5 c_R_6 f_R c_r_0 c_r_1 c_r_2 c_r_3 c_r_4 c_r_5 c_r_6 f_r
  refine to_cls ?_
  intro U5 hU5 z5
  have r_B : ∀ z : Wb U5, Row z.at (w.heap.size) [.pointer p, .int .i64 n] 38 := Row.next (Row.oth (Row.oth (Row.oth (Row.oth (r_B x4) nB 0 _) nB 1 _) nB 2 _) nB 3 _) hU5
  have r_R : ∀ z : Wb U5, Row z.at (w.heap.size + 1) [.int .i64 0, .int .i64 0, .bool false, .int .u64 0, .int .u64 0, .int .u64 0, .int .i64 0] 42 := Row.next (Row.oth (Row.oth (Row.oth (Row.oth (r_R x4) nR 0 _) nR 1 _) nR 2 _) nR 3 _) hU5
  have r_r : ∀ z : Wb U5, Row z.at (zz.at.heap.size) [.int .i64 k, .int .i64 l, .bool c, .int .u64 ad, .int .u64 F, .int .u64 0, .int .i64 1] 42 := Row.next (Row.set (Row.set (Row.set (Row.set (r_r x4) 0 _) 1 _) 2 _) 3 _) hU5
  have KK := KB.next (KB.put (KB.put (KB.put (KB.put (KK x4) hp 0 _) hp 1 _) hp 2 _) hp 3 _) hU5
  have c_B_0 : ∀ z : Wb U5, z.at.cell? ⟨w.heap.size, 0, none⟩ = some (.pointer p) := fun z => (r_B z).cell 0
  have c_B_1 : ∀ z : Wb U5, z.at.cell? ⟨w.heap.size, 1, none⟩ = some (.int .i64 n) := fun z => (r_B z).cell 1
  have f_B : ∀ (z : Wb U5) (i : Nat), z.at.frozen? ⟨w.heap.size, i, none⟩ = false := fun z i => (r_B z).free i
  have c_R_0 : ∀ z : Wb U5, z.at.cell? ⟨w.heap.size + 1, 0, none⟩ = some (.int .i64 0) := fun z => (r_R z).cell 0
  have c_R_1 : ∀ z : Wb U5, z.at.cell? ⟨w.heap.size + 1, 1, none⟩ = some (.int .i64 0) := fun z => (r_R z).cell 1
  have c_R_2 : ∀ z : Wb U5, z.at.cell? ⟨w.heap.size + 1, 2, none⟩ = some (.bool false) := fun z => (r_R z).cell 2
  have c_R_3 : ∀ z : Wb U5, z.at.cell? ⟨w.heap.size + 1, 3, none⟩ = some (.int .u64 0) := fun z => (r_R z).cell 3
  have c_R_4 : ∀ z : Wb U5, z.at.cell? ⟨w.heap.size + 1, 4, none⟩ = some (.int .u64 0) := fun z => (r_R z).cell 4
  have c_R_5 : ∀ z : Wb U5, z.at.cell? ⟨w.heap.size + 1, 5, none⟩ = some (.int .u64 0) := fun z => (r_R z).cell 5
  have c_R_6 : ∀ z : Wb U5, z.at.cell? ⟨w.heap.size + 1, 6, none⟩ = some (.int .i64 0) := fun z => (r_R z).cell 6
  have f_R : ∀ (z : Wb U5) (i : Nat), z.at.frozen? ⟨w.heap.size + 1, i, none⟩ = false := fun z i => (r_R z).free i
  have c_r_0 : ∀ z : Wb U5, z.at.cell? ⟨zz.at.heap.size, 0, none⟩ = some (.int .i64 k) := fun z => (r_r z).cell 0
  have c_r_1 : ∀ z : Wb U5, z.at.cell? ⟨zz.at.heap.size, 1, none⟩ = some (.int .i64 l) := fun z => (r_r z).cell 1
  have c_r_2 : ∀ z : Wb U5, z.at.cell? ⟨zz.at.heap.size, 2, none⟩ = some (.bool c) := fun z => (r_r z).cell 2
  have c_r_3 : ∀ z : Wb U5, z.at.cell? ⟨zz.at.heap.size, 3, none⟩ = some (.int .u64 ad) := fun z => (r_r z).cell 3
  have c_r_4 : ∀ z : Wb U5, z.at.cell? ⟨zz.at.heap.size, 4, none⟩ = some (.int .u64 F) := fun z => (r_r z).cell 4
  have c_r_5 : ∀ z : Wb U5, z.at.cell? ⟨zz.at.heap.size, 5, none⟩ = some (.int .u64 0) := fun z => (r_r z).cell 5
  have c_r_6 : ∀ z : Wb U5, z.at.cell? ⟨zz.at.heap.size, 6, none⟩ = some (.int .i64 1) := fun z => (r_r z).cell 6
  have f_r : ∀ (z : Wb U5) (i : Nat), z.at.frozen? ⟨zz.at.heap.size, i, none⟩ = false := fun z i => (r_r z).free i
  go_wp2
  refine bodyPost_ret (v := .agg #[.int .i64 k, .int .i64 l, .bool c, .int .u64 ad, .int .u64 F, .int .u64 0, .int .i64 1]) (by simp [results, Try.results16, go_sem, *]) rfl ⟨rfl, ?_⟩
  repeat' (first | (with_reducible exact KK z5) | (with_reducible refine Below.setCell ?_ ?_ _) | (simp; done) | (simp; omega))

theorem walk_any (R : Int → Int) (p : Option Addr) (n tb va : Int) (b : Bool) (w : World) (h0 : 0 ≤ va) (h1 : va < 18446744073709551616) (hR : ∀ a, 0 ≤ R a ∧ R a < 18446744073709551616)
    (RA : GrW.befK va = 0 → ReadsAt w (.agg #[.pointer p, .int .i64 n]) (IntKind.u64.wrap (tb + 8 * GrF.slot va 1)) (GrW.wF R tb va))
    (RB : GrW.befK va = 0 → GrW.isTable (GrW.wF R tb va) = true → ReadsAt w (.agg #[.pointer p, .int .i64 n]) (GrW.secondA (GrW.wF R tb va) va) (GrW.wS R tb va)) :
    Calls Try.prog 16 #[.agg #[.pointer p, .int .i64 n], .int .u64 tb, .int .u64 va, .bool b] w fun e w' => e = .returned (.agg (GrW.walkL R tb va b).toArray) ∧ Below w.heap.size w w' := by
  have BE := Lib.hid (fun w => before_any va b w h0 h1)
  have SL := Lib.hid (fun w => dslot_below tb va 1 w h0 h1)
  obtain ⟨F0, F1⟩ : 0 ≤ GrW.wF R tb va ∧ GrW.wF R tb va < 18446744073709551616 := hR _
  have FI := Lib.hid (fun w => first_any (GrW.wF R tb va) va w F0 F1 h0 h1)
  obtain ⟨k1, l1, ef⟩ := GrW.firstV_in (GrW.wF R tb va)
  rw [ef] at FI
  have eb : GrW.befV va b = if GrW.befK va = 0 then GrW.fv 0 0 false else GrW.fv (GrW.befK va) 0 b := rfl
  rw [eb] at BE
  unfold GrW.walkL
  by_cases c : GrW.befK va = 0
  · rw [if_pos c] at BE
    rw [if_pos c]
    have RA := Lib.hid (RA c)
    cases t : GrW.isTable (GrW.wF R tb va) with
    | true =>
      have RB := Lib.hid (RB c t)
      have eS : GrW.wS R tb va = R (GrW.secondA (GrW.wF R tb va) va) := by unfold GrW.wS; rw [if_pos t]
      obtain ⟨S0, S1⟩ : 0 ≤ GrW.wS R tb va ∧ GrW.wS R tb va < 18446744073709551616 := by rw [eS]; exact hR _
      have TH := Lib.hid (fun w => through_any (GrW.wF R tb va) (GrW.wS R tb va) va b w F0 F1 S0 S1 h0 h1)
      rw [GrW.thV_in _ _ _ _ c] at TH
      rw [t] at FI
      have eN : GrW.wN R tb va = 2 := by unfold GrW.wN; rw [if_pos t]
      rw [eN]
      exact walk_two p n tb va b w _ _ _ _ _ _ _ _ _ _ BE SL FI TH RA RB
    | false =>
      have eS : GrW.wS R tb va = 0 := by unfold GrW.wS; rw [if_neg (by rw [t]; decide)]
      have TH := Lib.hid (fun w => through_any (GrW.wF R tb va) 0 va b w F0 F1 (by omega) (by omega) h0 h1)
      rw [GrW.thV_in _ _ _ _ c] at TH
      rw [t] at FI
      have eN : GrW.wN R tb va = 1 := by unfold GrW.wN; rw [if_neg (by rw [t]; decide)]
      rw [eN, eS]
      exact walk_one p n tb va b w _ _ _ 0 _ _ _ _ _ _ BE SL FI TH RA
  · rw [if_neg c] at BE
    rw [if_neg c]
    exact walk_no p n tb va b w _ (by simpa using c) (by simpa using c) BE
end Go.Proofs.Ytnpgpbcpgniloaa
