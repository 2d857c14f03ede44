/-
  Layer 8, the walks: the page's memory of two cells; what is read from it.
-/
import Derived.Test.YtnpgpbcpgniloaaBr
import Derived.Test.YtnpgpbcpgniloaaBt
import Derived.Handy
import Derived.Laws.Rows
set_option linter.unusedSimpArgs false
set_option linter.unusedVariables false
namespace Go.Proofs.Ytnpgpbcpgniloaa
open Go.RowKit

/-- a tree of two leaves -/
structure Two (W : World) (r a b : Nat) : Prop where
  rt : W.heap[r]? = some (.cells #[.int .u64 8200, .int .u64 0, .int .i64 13, .pointer (some ⟨a, 0, none⟩), .pointer (some ⟨b, 0, none⟩)] 129 (0, 0))
  la : W.heap[a]? = some (.cells #[.int .u64 4096, .int .u64 8195, .int .i64 0, .pointer none, .pointer none] 129 (0, 0))
  lb : W.heap[b]? = some (.cells #[.int .u64 8200, .int .u64 21507, .int .i64 0, .pointer none, .pointer none] 129 (0, 0))
theorem lt_of_heap {W : World} {r : Nat} {o : Obj} (h : W.heap[r]? = some o) : r < W.heap.size := by
  by_cases c : r < W.heap.size
  · exact c
  · rw [Array.getElem?_eq_none (by omega)] at h
    cases h
theorem Two.below {W W2 : World} {r a b : Nat} (h : Two W r a b) (k : Below W.heap.size W W2) : Two W2 r a b :=
  ⟨(k.block _ (lt_of_heap h.rt)).trans h.rt, (k.block _ (lt_of_heap h.la)).trans h.la, (k.block _ (lt_of_heap h.lb)).trans h.lb⟩

set_option maxRecDepth 100000 in
set_option maxHeartbeats 1600000 in
theorem get_4096 (W : World) (r a b : Nat) (h : Two W r a b) :
    Calls Try.prog 51 #[.agg #[.pointer (some ⟨r, 0, none⟩), .int .i64 2], .int .u64 4096] W fun e w' => e = .returned (.tuple #[.int .u64 8195, .bool true]) ∧ Below W.heap.size W w' := by
  have KT := Lib.hid (fun x : Wb (W.alloc (.cells #[.pointer (some ⟨r, 0, none⟩), .int .i64 2] 36)) => h.below (((Below.refl _ _).alloc (Nat.le_refl _) _).trans (x.bel.mono (by simp))))
  have KB := Lib.hid (fun (z : Wb (W.alloc (.cells #[.pointer (some ⟨r, 0, none⟩), .int .i64 2] 36))) => (((Below.refl _ _).alloc (Nat.le_refl _) _).trans (z.bel.mono (by simp)) : Below W.heap.size W z.at))
  have ka0 : ∀ z : Wb (W.alloc (.cells #[.pointer (some ⟨r, 0, none⟩), .int .i64 2] 36)), z.at.cell? ⟨W.heap.size, 0, none⟩ = some (.pointer (some ⟨r, 0, none⟩)) := fun z => by rw [z.cell _ (by simp)]; simp [World.cell?_alloc_new]
  have ka1 : ∀ z : Wb (W.alloc (.cells #[.pointer (some ⟨r, 0, none⟩), .int .i64 2] 36)), z.at.cell? ⟨W.heap.size, 1, none⟩ = some (.int .i64 2) := fun z => by rw [z.cell _ (by simp)]; simp [World.cell?_alloc_new]
  have rc0 : ∀ z : Wb (W.alloc (.cells #[.pointer (some ⟨r, 0, none⟩), .int .i64 2] 36)), z.at.cell? ⟨r, 0, none⟩ = some (.int .u64 8200) := fun z => by rw [cell_of_row _ _ 0 _ _ _ (KT.out z).rt]; rfl
  have rc1 : ∀ z : Wb (W.alloc (.cells #[.pointer (some ⟨r, 0, none⟩), .int .i64 2] 36)), z.at.cell? ⟨r, 1, none⟩ = some (.int .u64 0) := fun z => by rw [cell_of_row _ _ 1 _ _ _ (KT.out z).rt]; rfl
  have rc2 : ∀ z : Wb (W.alloc (.cells #[.pointer (some ⟨r, 0, none⟩), .int .i64 2] 36)), z.at.cell? ⟨r, 2, none⟩ = some (.int .i64 13) := fun z => by rw [cell_of_row _ _ 2 _ _ _ (KT.out z).rt]; rfl
  have rc3 : ∀ z : Wb (W.alloc (.cells #[.pointer (some ⟨r, 0, none⟩), .int .i64 2] 36)), z.at.cell? ⟨r, 3, none⟩ = some (.pointer (some ⟨a, 0, none⟩)) := fun z => by rw [cell_of_row _ _ 3 _ _ _ (KT.out z).rt]; rfl
  have rc4 : ∀ z : Wb (W.alloc (.cells #[.pointer (some ⟨r, 0, none⟩), .int .i64 2] 36)), z.at.cell? ⟨r, 4, none⟩ = some (.pointer (some ⟨b, 0, none⟩)) := fun z => by rw [cell_of_row _ _ 4 _ _ _ (KT.out z).rt]; rfl
  have ac0 : ∀ z : Wb (W.alloc (.cells #[.pointer (some ⟨r, 0, none⟩), .int .i64 2] 36)), z.at.cell? ⟨a, 0, none⟩ = some (.int .u64 4096) := fun z => by rw [cell_of_row _ _ 0 _ _ _ (KT.out z).la]; rfl
  have ac1 : ∀ z : Wb (W.alloc (.cells #[.pointer (some ⟨r, 0, none⟩), .int .i64 2] 36)), z.at.cell? ⟨a, 1, none⟩ = some (.int .u64 8195) := fun z => by rw [cell_of_row _ _ 1 _ _ _ (KT.out z).la]; rfl
  have ac2 : ∀ z : Wb (W.alloc (.cells #[.pointer (some ⟨r, 0, none⟩), .int .i64 2] 36)), z.at.cell? ⟨a, 2, none⟩ = some (.int .i64 0) := fun z => by rw [cell_of_row _ _ 2 _ _ _ (KT.out z).la]; rfl
  have ac3 : ∀ z : Wb (W.alloc (.cells #[.pointer (some ⟨r, 0, none⟩), .int .i64 2] 36)), z.at.cell? ⟨a, 3, none⟩ = some (.pointer none) := fun z => by rw [cell_of_row _ _ 3 _ _ _ (KT.out z).la]; rfl
  have ac4 : ∀ z : Wb (W.alloc (.cells #[.pointer (some ⟨r, 0, none⟩), .int .i64 2] 36)), z.at.cell? ⟨a, 4, none⟩ = some (.pointer none) := fun z => by rw [cell_of_row _ _ 4 _ _ _ (KT.out z).la]; rfl
  have bc0 : ∀ z : Wb (W.alloc (.cells #[.pointer (some ⟨r, 0, none⟩), .int .i64 2] 36)), z.at.cell? ⟨b, 0, none⟩ = some (.int .u64 8200) := fun z => by rw [cell_of_row _ _ 0 _ _ _ (KT.out z).lb]; rfl
  have bc1 : ∀ z : Wb (W.alloc (.cells #[.pointer (some ⟨r, 0, none⟩), .int .i64 2] 36)), z.at.cell? ⟨b, 1, none⟩ = some (.int .u64 21507) := fun z => by rw [cell_of_row _ _ 1 _ _ _ (KT.out z).lb]; rfl
  have bc2 : ∀ z : Wb (W.alloc (.cells #[.pointer (some ⟨r, 0, none⟩), .int .i64 2] 36)), z.at.cell? ⟨b, 2, none⟩ = some (.int .i64 0) := fun z => by rw [cell_of_row _ _ 2 _ _ _ (KT.out z).lb]; rfl
  have bc3 : ∀ z : Wb (W.alloc (.cells #[.pointer (some ⟨r, 0, none⟩), .int .i64 2] 36)), z.at.cell? ⟨b, 3, none⟩ = some (.pointer none) := fun z => by rw [cell_of_row _ _ 3 _ _ _ (KT.out z).lb]; rfl
  have bc4 : ∀ z : Wb (W.alloc (.cells #[.pointer (some ⟨r, 0, none⟩), .int .i64 2] 36)), z.at.cell? ⟨b, 4, none⟩ = some (.pointer none) := fun z => by rw [cell_of_row _ _ 4 _ _ _ (KT.out z).lb]; rfl
  have b1 : bits .and .u64 0 1 = 0 := by kernel_rfl
  clear h
  go_enter Try.func51, Try.ntmps51
  go_upto_region 1 with fail
  obtain ⟨y0, hy⟩ : ∃ y : Wb (W.alloc (.cells #[.pointer (some ⟨r, 0, none⟩), .int .i64 2] 36)), W.alloc (.cells #[.pointer (some ⟨r, 0, none⟩), .int .i64 2] 36) = y.at := ⟨⟨_, Below.refl _ _⟩, rfl⟩
  rw [hy]
  clear hy
  go_wp2_with fail
  refine wp_loop_rounds 4 ?_
  rw [rounds_succ]
  go_wp2_with fail
  rw [rounds_succ]
  go_wp2_with fail
  refine bodyPost_ret (v := .tuple #[.int .u64 8195, .bool true]) (by simp [results, Try.results51, go_sem, *]) rfl ⟨rfl, KB.out y0⟩

set_option maxHeartbeats 1600000 in
theorem read_4096 (W : World) (r a b : Nat) (h : Two W r a b) :
    Calls Try.prog 26 #[.agg #[.pointer (some ⟨r, 0, none⟩), .int .i64 2], .int .u64 4096] W fun e w' => e = .returned (.int .u64 8195) ∧ Below W.heap.size W w' := by
  have GT := Lib.hid (fun x : Wb (W.alloc (.cells #[.pointer (some ⟨r, 0, none⟩), .int .i64 2] 38)) => get_4096 x.at r a b (h.below (((Below.refl _ _).alloc (Nat.le_refl _) _).trans (x.bel.mono (by simp)))))
  have KB := Lib.hid (fun (z : Wb (W.alloc (.cells #[.pointer (some ⟨r, 0, none⟩), .int .i64 2] 38))) => (((Below.refl _ _).alloc (Nat.le_refl _) _).trans (z.bel.mono (by simp)) : Below W.heap.size W z.at))
  have ka0 : ∀ z : Wb (W.alloc (.cells #[.pointer (some ⟨r, 0, none⟩), .int .i64 2] 38)), z.at.cell? ⟨W.heap.size, 0, none⟩ = some (.pointer (some ⟨r, 0, none⟩)) := fun z => by rw [z.cell _ (by simp)]; simp [World.cell?_alloc_new]
  have ka1 : ∀ z : Wb (W.alloc (.cells #[.pointer (some ⟨r, 0, none⟩), .int .i64 2] 38)), z.at.cell? ⟨W.heap.size, 1, none⟩ = some (.int .i64 2) := fun z => by rw [z.cell _ (by simp)]; simp [World.cell?_alloc_new]
  clear h
  go_enter Try.func26, Try.ntmps26
  go_upto_region 1 with fail
  obtain ⟨y0, hy⟩ : ∃ y : Wb (W.alloc (.cells #[.pointer (some ⟨r, 0, none⟩), .int .i64 2] 38)), W.alloc (.cells #[.pointer (some ⟨r, 0, none⟩), .int .i64 2] 38) = y.at := ⟨⟨_, Below.refl _ _⟩, rfl⟩
  rw [hy]
  clear hy
  go_wp2_with fail
  refine (GT.out _).mono ?_
  rintro e w1 ⟨rfl, g⟩
  obtain ⟨y1, rfl⟩ := Wb.next g
  clear g
  go_wp2
  go_ret
  exact ⟨rfl, KB.out y1⟩

set_option maxRecDepth 100000 in
set_option maxHeartbeats 1600000 in
theorem get_8200 (W : World) (r a b : Nat) (h : Two W r a b) :
    Calls Try.prog 51 #[.agg #[.pointer (some ⟨r, 0, none⟩), .int .i64 2], .int .u64 8200] W fun e w' => e = .returned (.tuple #[.int .u64 21507, .bool true]) ∧ Below W.heap.size W w' := by
  have KT := Lib.hid (fun x : Wb (W.alloc (.cells #[.pointer (some ⟨r, 0, none⟩), .int .i64 2] 36)) => h.below (((Below.refl _ _).alloc (Nat.le_refl _) _).trans (x.bel.mono (by simp))))
  have KB := Lib.hid (fun (z : Wb (W.alloc (.cells #[.pointer (some ⟨r, 0, none⟩), .int .i64 2] 36))) => (((Below.refl _ _).alloc (Nat.le_refl _) _).trans (z.bel.mono (by simp)) : Below W.heap.size W z.at))
  have ka0 : ∀ z : Wb (W.alloc (.cells #[.pointer (some ⟨r, 0, none⟩), .int .i64 2] 36)), z.at.cell? ⟨W.heap.size, 0, none⟩ = some (.pointer (some ⟨r, 0, none⟩)) := fun z => by rw [z.cell _ (by simp)]; simp [World.cell?_alloc_new]
  have ka1 : ∀ z : Wb (W.alloc (.cells #[.pointer (some ⟨r, 0, none⟩), .int .i64 2] 36)), z.at.cell? ⟨W.heap.size, 1, none⟩ = some (.int .i64 2) := fun z => by rw [z.cell _ (by simp)]; simp [World.cell?_alloc_new]
  have rc0 : ∀ z : Wb (W.alloc (.cells #[.pointer (some ⟨r, 0, none⟩), .int .i64 2] 36)), z.at.cell? ⟨r, 0, none⟩ = some (.int .u64 8200) := fun z => by rw [cell_of_row _ _ 0 _ _ _ (KT.out z).rt]; rfl
  have rc1 : ∀ z : Wb (W.alloc (.cells #[.pointer (some ⟨r, 0, none⟩), .int .i64 2] 36)), z.at.cell? ⟨r, 1, none⟩ = some (.int .u64 0) := fun z => by rw [cell_of_row _ _ 1 _ _ _ (KT.out z).rt]; rfl
  have rc2 : ∀ z : Wb (W.alloc (.cells #[.pointer (some ⟨r, 0, none⟩), .int .i64 2] 36)), z.at.cell? ⟨r, 2, none⟩ = some (.int .i64 13) := fun z => by rw [cell_of_row _ _ 2 _ _ _ (KT.out z).rt]; rfl
  have rc3 : ∀ z : Wb (W.alloc (.cells #[.pointer (some ⟨r, 0, none⟩), .int .i64 2] 36)), z.at.cell? ⟨r, 3, none⟩ = some (.pointer (some ⟨a, 0, none⟩)) := fun z => by rw [cell_of_row _ _ 3 _ _ _ (KT.out z).rt]; rfl
  have rc4 : ∀ z : Wb (W.alloc (.cells #[.pointer (some ⟨r, 0, none⟩), .int .i64 2] 36)), z.at.cell? ⟨r, 4, none⟩ = some (.pointer (some ⟨b, 0, none⟩)) := fun z => by rw [cell_of_row _ _ 4 _ _ _ (KT.out z).rt]; rfl
  have ac0 : ∀ z : Wb (W.alloc (.cells #[.pointer (some ⟨r, 0, none⟩), .int .i64 2] 36)), z.at.cell? ⟨a, 0, none⟩ = some (.int .u64 4096) := fun z => by rw [cell_of_row _ _ 0 _ _ _ (KT.out z).la]; rfl
  have ac1 : ∀ z : Wb (W.alloc (.cells #[.pointer (some ⟨r, 0, none⟩), .int .i64 2] 36)), z.at.cell? ⟨a, 1, none⟩ = some (.int .u64 8195) := fun z => by rw [cell_of_row _ _ 1 _ _ _ (KT.out z).la]; rfl
  have ac2 : ∀ z : Wb (W.alloc (.cells #[.pointer (some ⟨r, 0, none⟩), .int .i64 2] 36)), z.at.cell? ⟨a, 2, none⟩ = some (.int .i64 0) := fun z => by rw [cell_of_row _ _ 2 _ _ _ (KT.out z).la]; rfl
  have ac3 : ∀ z : Wb (W.alloc (.cells #[.pointer (some ⟨r, 0, none⟩), .int .i64 2] 36)), z.at.cell? ⟨a, 3, none⟩ = some (.pointer none) := fun z => by rw [cell_of_row _ _ 3 _ _ _ (KT.out z).la]; rfl
  have ac4 : ∀ z : Wb (W.alloc (.cells #[.pointer (some ⟨r, 0, none⟩), .int .i64 2] 36)), z.at.cell? ⟨a, 4, none⟩ = some (.pointer none) := fun z => by rw [cell_of_row _ _ 4 _ _ _ (KT.out z).la]; rfl
  have bc0 : ∀ z : Wb (W.alloc (.cells #[.pointer (some ⟨r, 0, none⟩), .int .i64 2] 36)), z.at.cell? ⟨b, 0, none⟩ = some (.int .u64 8200) := fun z => by rw [cell_of_row _ _ 0 _ _ _ (KT.out z).lb]; rfl
  have bc1 : ∀ z : Wb (W.alloc (.cells #[.pointer (some ⟨r, 0, none⟩), .int .i64 2] 36)), z.at.cell? ⟨b, 1, none⟩ = some (.int .u64 21507) := fun z => by rw [cell_of_row _ _ 1 _ _ _ (KT.out z).lb]; rfl
  have bc2 : ∀ z : Wb (W.alloc (.cells #[.pointer (some ⟨r, 0, none⟩), .int .i64 2] 36)), z.at.cell? ⟨b, 2, none⟩ = some (.int .i64 0) := fun z => by rw [cell_of_row _ _ 2 _ _ _ (KT.out z).lb]; rfl
  have bc3 : ∀ z : Wb (W.alloc (.cells #[.pointer (some ⟨r, 0, none⟩), .int .i64 2] 36)), z.at.cell? ⟨b, 3, none⟩ = some (.pointer none) := fun z => by rw [cell_of_row _ _ 3 _ _ _ (KT.out z).lb]; rfl
  have bc4 : ∀ z : Wb (W.alloc (.cells #[.pointer (some ⟨r, 0, none⟩), .int .i64 2] 36)), z.at.cell? ⟨b, 4, none⟩ = some (.pointer none) := fun z => by rw [cell_of_row _ _ 4 _ _ _ (KT.out z).lb]; rfl
  have b1 : bits .and .u64 1 1 = 1 := by kernel_rfl
  clear h
  go_enter Try.func51, Try.ntmps51
  go_upto_region 1 with fail
  obtain ⟨y0, hy⟩ : ∃ y : Wb (W.alloc (.cells #[.pointer (some ⟨r, 0, none⟩), .int .i64 2] 36)), W.alloc (.cells #[.pointer (some ⟨r, 0, none⟩), .int .i64 2] 36) = y.at := ⟨⟨_, Below.refl _ _⟩, rfl⟩
  rw [hy]
  clear hy
  go_wp2_with fail
  refine wp_loop_rounds 4 ?_
  rw [rounds_succ]
  go_wp2_with fail
  rw [rounds_succ]
  go_wp2_with fail
  refine bodyPost_ret (v := .tuple #[.int .u64 21507, .bool true]) (by simp [results, Try.results51, go_sem, *]) rfl ⟨rfl, KB.out y0⟩

set_option maxHeartbeats 1600000 in
theorem read_8200 (W : World) (r a b : Nat) (h : Two W r a b) :
    Calls Try.prog 26 #[.agg #[.pointer (some ⟨r, 0, none⟩), .int .i64 2], .int .u64 8200] W fun e w' => e = .returned (.int .u64 21507) ∧ Below W.heap.size W w' := by
  have GT := Lib.hid (fun x : Wb (W.alloc (.cells #[.pointer (some ⟨r, 0, none⟩), .int .i64 2] 38)) => get_8200 x.at r a b (h.below (((Below.refl _ _).alloc (Nat.le_refl _) _).trans (x.bel.mono (by simp)))))
  have KB := Lib.hid (fun (z : Wb (W.alloc (.cells #[.pointer (some ⟨r, 0, none⟩), .int .i64 2] 38))) => (((Below.refl _ _).alloc (Nat.le_refl _) _).trans (z.bel.mono (by simp)) : Below W.heap.size W z.at))
  have ka0 : ∀ z : Wb (W.alloc (.cells #[.pointer (some ⟨r, 0, none⟩), .int .i64 2] 38)), z.at.cell? ⟨W.heap.size, 0, none⟩ = some (.pointer (some ⟨r, 0, none⟩)) := fun z => by rw [z.cell _ (by simp)]; simp [World.cell?_alloc_new]
  have ka1 : ∀ z : Wb (W.alloc (.cells #[.pointer (some ⟨r, 0, none⟩), .int .i64 2] 38)), z.at.cell? ⟨W.heap.size, 1, none⟩ = some (.int .i64 2) := fun z => by rw [z.cell _ (by simp)]; simp [World.cell?_alloc_new]
  clear h
  go_enter Try.func26, Try.ntmps26
  go_upto_region 1 with fail
  obtain ⟨y0, hy⟩ : ∃ y : Wb (W.alloc (.cells #[.pointer (some ⟨r, 0, none⟩), .int .i64 2] 38)), W.alloc (.cells #[.pointer (some ⟨r, 0, none⟩), .int .i64 2] 38) = y.at := ⟨⟨_, Below.refl _ _⟩, rfl⟩
  rw [hy]
  clear hy
  go_wp2_with fail
  refine (GT.out _).mono ?_
  rintro e w1 ⟨rfl, g⟩
  obtain ⟨y1, rfl⟩ := Wb.next g
  clear g
  go_wp2
  go_ret
  exact ⟨rfl, KB.out y1⟩

end Go.Proofs.Ytnpgpbcpgniloaa
