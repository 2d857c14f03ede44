/-
  Layer 8, the walks: the page's example.
-/
import Derived.Test.YtnpgpbcpgniloaaTa
import Derived.Handy
import Derived.Test.YtnpgpbcpgniloaaBt
import Derived.Test.YtnpgpbcpgniloaaWg
import Derived.Test.YtnpgpbcpgniloaaWh
set_option linter.unusedSimpArgs false
set_option linter.unusedVariables false
namespace GrW
open Go
def R2 (a : Int) : Int := if a = 4096 then 8195 else if a = 8200 then 21507 else 0
theorem R2_bd (a : Int) : 0 ≤ R2 a ∧ R2 a < 18446744073709551616 := by
  unfold R2
  split
  · omega
  · split <;> omega
end GrW
namespace Go.Proofs.Ytnpgpbcpgniloaa
open Go.RowKit

theorem KB.drewN {w V : World} (h : Below w.heap.size w V) (n : Nat) : Below w.heap.size w (V.drewN n) := ⟨h.os, h.tape, h.output, h.size, h.block⟩
theorem alloc_at (V : World) (o : Obj) (n : Nat) (h : V.heap.size = n) : (V.alloc o).heap[n]? = some o := h ▸ heap_alloc_new V o
theorem alloc_far (V : World) (o : Obj) (n : Nat) (r : Option Obj) (h : V.heap[n]? = r) (lt : n < V.heap.size) : (V.alloc o).heap[n]? = r := (Below.heap_alloc V o n lt).trans h
theorem drewN_at (V : World) (n k : Nat) (r : Option Obj) (h : V.heap[k]? = r) : (V.drewN n).heap[k]? = r := h
theorem calls_freeze {P : Program} {f : FuncId} {args : Array Value} {V : World} {Q : Ending → World → Prop} (h : ∀ U, U = V → Calls P f args U Q) : Calls P f args V Q := h V rfl

set_option maxRecDepth 100000 in
theorem walk_two_cells (V : World) (r a b : Nat) (h : Two V r a b) :
    Calls Try.prog 16 #[.agg #[.pointer (some ⟨r, 0, none⟩), .int .i64 2], .int .u64 4096, .int .u64 4112, .bool true] V fun e w' => e = .returned (.agg #[.int .i64 0, .int .i64 0, .bool false, .int .u64 20496, .int .u64 8195, .int .u64 21507, .int .i64 2]) ∧ Below V.heap.size V w' := by
  have e1 : GrW.walkL GrW.R2 4096 4112 true = [.int .i64 0, .int .i64 0, .bool false, .int .u64 20496, .int .u64 8195, .int .u64 21507, .int .i64 2] := by kernel_rfl
  have e2 : IntKind.u64.wrap (4096 + 8 * GrF.slot 4112 1) = 4096 := by kernel_rfl
  have e3 : GrW.wF GrW.R2 4096 4112 = 8195 := by kernel_rfl
  have e4 : GrW.secondA 8195 4112 = 8200 := by kernel_rfl
  have e5 : GrW.wS GrW.R2 4096 4112 = 21507 := by kernel_rfl
  have := walk_any GrW.R2 (some ⟨r, 0, none⟩) 2 4096 4112 true V (by omega) (by omega) GrW.R2_bd
    (fun _ => by rw [e2, e3]; exact fun w' k => read_4096 w' r a b (h.below k))
    (fun _ _ => by rw [e3, e4, e5]; exact fun w' k => read_8200 w' r a b (h.below k))
  rw [e1] at this
  exact this

set_option maxRecDepth 100000 in
theorem len64_a (w : World) : Calls Try.prog 72 #[.int .u64 12296] w fun e w' => e = .returned (.int .i64 14) ∧ w = w' := by
  go_enter Try.func72, Try.ntmps72
  go_wp2
  go_ret
  exact ⟨by kernel_rfl, rfl⟩

set_option maxRecDepth 100000 in
set_option maxHeartbeats 6400000 in
theorem wawake_any (w : World) : Calls Try.prog 11 #[] w fun e w' => e = .returned (.bool true) ∧ Below w.heap.size w w' := by
  have hx : bits .xor .u64 4096 8200 = 12296 := by kernel_rfl
  go_enter Try.func11, Try.ntmps11
  go_wp2_with (first | (go_at_call 19; go_in) | (go_at_call 28; go_in) | (go_at_call 21; go_in) | (go_at_call 48; go_in) | (go_at_call 66; go_in) | (go_at_call 67; go_in) | (go_at_call 59; go_in) | (go_at_call 53; go_in) | (go_at_call 51; go_in) | (go_at_call 71; go_in) | (go_at_call 49; go_in))
  repeat (first | (rw [rounds_succ]; go_wp2_with (first | (go_at_call 19; go_in) | (go_at_call 28; go_in) | (go_at_call 21; go_in) | (go_at_call 48; go_in) | (go_at_call 66; go_in) | (go_at_call 67; go_in) | (go_at_call 59; go_in) | (go_at_call 53; go_in) | (go_at_call 51; go_in) | (go_at_call 71; go_in) | (go_at_call 49; go_in))) | (refine wp_loop_rounds 4 ?_; rw [rounds_succ]; go_wp2_with (first | (go_at_call 19; go_in) | (go_at_call 28; go_in) | (go_at_call 21; go_in) | (go_at_call 48; go_in) | (go_at_call 66; go_in) | (go_at_call 67; go_in) | (go_at_call 59; go_in) | (go_at_call 53; go_in) | (go_at_call 51; go_in) | (go_at_call 71; go_in) | (go_at_call 49; go_in))) | (go_quiet (fail); go_wp2_with (first | (go_at_call 19; go_in) | (go_at_call 28; go_in) | (go_at_call 21; go_in) | (go_at_call 48; go_in) | (go_at_call 66; go_in) | (go_at_call 67; go_in) | (go_at_call 59; go_in) | (go_at_call 53; go_in) | (go_at_call 51; go_in) | (go_at_call 71; go_in) | (go_at_call 49; go_in))))
  refine wp_region_drew_tail 10 (by kernel_rfl) (by kernel_rfl) ?_
  simp only [List.take_succ_cons, List.take_zero, List.drop_succ_cons, List.drop_zero]
  go_big_quiet_step (fail)
  go_big_quiet_step (fail)
  go_big_quiet_step (fail)
  go_big_quiet_step (fail)
  go_big_quiet_step (fail)
  go_big_quiet_step ((go_at_call 72; exact (len64_a _).mono fun e w1 h => ⟨h.1, _, h.2.symm⟩))
  repeat (go_big_quiet_step (fail))
  refine wpQuiet_nil ?_
  rintro _ ⟨nt, rfl⟩
  go_wp2_with (first | (go_at_call 19; go_in) | (go_at_call 28; go_in) | (go_at_call 21; go_in) | (go_at_call 48; go_in) | (go_at_call 66; go_in) | (go_at_call 67; go_in) | (go_at_call 59; go_in) | (go_at_call 53; go_in) | (go_at_call 51; go_in) | (go_at_call 71; go_in) | (go_at_call 49; go_in))
  repeat (first | (rw [rounds_succ]; go_wp2_with (first | (go_at_call 19; go_in) | (go_at_call 28; go_in) | (go_at_call 21; go_in) | (go_at_call 48; go_in) | (go_at_call 66; go_in) | (go_at_call 67; go_in) | (go_at_call 59; go_in) | (go_at_call 53; go_in) | (go_at_call 51; go_in) | (go_at_call 71; go_in) | (go_at_call 49; go_in))) | (refine wp_loop_rounds 4 ?_; rw [rounds_succ]; go_wp2_with (first | (go_at_call 19; go_in) | (go_at_call 28; go_in) | (go_at_call 21; go_in) | (go_at_call 48; go_in) | (go_at_call 66; go_in) | (go_at_call 67; go_in) | (go_at_call 59; go_in) | (go_at_call 53; go_in) | (go_at_call 51; go_in) | (go_at_call 71; go_in) | (go_at_call 49; go_in))) | (go_quiet (fail); go_wp2_with (first | (go_at_call 19; go_in) | (go_at_call 28; go_in) | (go_at_call 21; go_in) | (go_at_call 48; go_in) | (go_at_call 66; go_in) | (go_at_call 67; go_in) | (go_at_call 59; go_in) | (go_at_call 53; go_in) | (go_at_call 51; go_in) | (go_at_call 71; go_in) | (go_at_call 49; go_in))))
  refine calls_freeze ?_
  intro V hV
  have TT : Two V (w.heap.size + 1 + 1 + 1 + 1 + 1 + 1 + 1 + 1 + 1 + 1 + 1 + 1 + 1 + 1 + 1 + 1 + 1 + 1 + 1 + 1) (w.heap.size + 1 + 1 + 1 + 1 + 1 + 1 + 1 + 1 + 1) (w.heap.size + 1 + 1 + 1 + 1 + 1 + 1 + 1 + 1 + 1 + 1 + 1 + 1 + 1 + 1 + 1 + 1 + 1 + 1 + 1) := by
    subst hV
    refine ⟨?_, ?_, ?_⟩
    · refine drewN_at _ _ _ _ ?_
      iterate 4 refine alloc_far _ _ _ _ ?_ (by simp only [World.size_alloc]; omega)
      exact alloc_at _ _ _ (by simp only [World.size_alloc])
    · refine drewN_at _ _ _ _ ?_
      iterate 15 refine alloc_far _ _ _ _ ?_ (by simp only [World.size_alloc]; omega)
      exact alloc_at _ _ _ (by simp only [World.size_alloc])
    · refine drewN_at _ _ _ _ ?_
      iterate 5 refine alloc_far _ _ _ _ ?_ (by simp only [World.size_alloc]; omega)
      exact alloc_at _ _ _ (by simp only [World.size_alloc])
  have KV : Below w.heap.size w V := by
    subst hV
    refine KB.drewN ?_ _
    iterate 25 refine KB.alloc ?_ _
    exact Below.refl _ _
  clear hV
  refine (walk_two_cells V _ _ _ TT).mono ?_
  rintro e w1 ⟨rfl, gg⟩
  obtain ⟨x0, rfl⟩ := Wb.start gg
  clear gg TT
  go_upto_region 3 with fail
  refine to_cls ?_
  intro U0 hU0 z0
  have r_r : ∀ z : Wb U0, Row z.at (x0.at.heap.size) [.int .i64 0, .int .i64 0, .bool false, .int .u64 20496, .int .u64 8195, .int .u64 21507, .int .i64 2] 42 := Row.next (Row.new _ _ _) hU0
  have KK := KB.next (KB.alloc (KV.trans (x0.bel.mono KV.size)) _) hU0
  have c_r_0 : ∀ z : Wb U0, z.at.cell? ⟨x0.at.heap.size, 0, none⟩ = some (.int .i64 0) := fun z => (r_r z).cell 0
  have c_r_1 : ∀ z : Wb U0, z.at.cell? ⟨x0.at.heap.size, 1, none⟩ = some (.int .i64 0) := fun z => (r_r z).cell 1
  have c_r_2 : ∀ z : Wb U0, z.at.cell? ⟨x0.at.heap.size, 2, none⟩ = some (.bool false) := fun z => (r_r z).cell 2
  have c_r_3 : ∀ z : Wb U0, z.at.cell? ⟨x0.at.heap.size, 3, none⟩ = some (.int .u64 20496) := fun z => (r_r z).cell 3
  have c_r_4 : ∀ z : Wb U0, z.at.cell? ⟨x0.at.heap.size, 4, none⟩ = some (.int .u64 8195) := fun z => (r_r z).cell 4
  have c_r_5 : ∀ z : Wb U0, z.at.cell? ⟨x0.at.heap.size, 5, none⟩ = some (.int .u64 21507) := fun z => (r_r z).cell 5
  have c_r_6 : ∀ z : Wb U0, z.at.cell? ⟨x0.at.heap.size, 6, none⟩ = some (.int .i64 2) := fun z => (r_r z).cell 6
  have f_r : ∀ (z : Wb U0) (i : Nat), z.at.frozen? ⟨x0.at.heap.size, i, none⟩ = false := fun z i => (r_r z).free i
  go_wp2
  go_ret
  exact ⟨by first | rfl | simp, KK z0⟩
end Go.Proofs.Ytnpgpbcpgniloaa
