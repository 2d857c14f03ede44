/-
  Layer 8, the walks: the page's Faults; FaultOf.
-/
import Derived.Test.YtnpgpbcpgniloaaWd
import Derived.Test.YtnpgpbcpgniloaaBx
import Derived.Laws.AppendOwn
set_option linter.unusedSimpArgs false
set_option linter.unusedVariables false
namespace GrW
open Go
/-- a fault that may be -/
def VF (k l : Int) : Prop := (k = 1 ∧ l = 0) ∨ (k = 2 ∧ l = 0) ∨ (k = 3 ∧ l = 1) ∨ (k = 3 ∧ l = 2) ∨ (k = 4 ∧ l = 1) ∨ (k = 4 ∧ l = 2) ∨ (k = 5 ∧ l = 1) ∨ (k = 5 ∧ l = 2)
def low (k l : Int) : Int := if k = 1 then 33 else if k = 2 then 4 else if k = 3 then 4 + l else if k = 4 then 8 + l else 12 + l
theorem syn_low {k l : Int} (h : VF k l) (b : Bool) : syn k l b = synB b + low k l ∧ 4 ≤ low k l ∧ low k l ≤ 33 := by
  rcases h with ⟨rfl, rfl⟩ | ⟨rfl, rfl⟩ | ⟨rfl, rfl⟩ | ⟨rfl, rfl⟩ | ⟨rfl, rfl⟩ | ⟨rfl, rfl⟩ | ⟨rfl, rfl⟩ | ⟨rfl, rfl⟩ <;> simp [syn, synC, low]
theorem low_inj {k l k' l' : Int} (h : VF k l) (h' : VF k' l') (e : low k l = low k' l') : k = k' ∧ l = l' := by
  rcases h with ⟨rfl, rfl⟩ | ⟨rfl, rfl⟩ | ⟨rfl, rfl⟩ | ⟨rfl, rfl⟩ | ⟨rfl, rfl⟩ | ⟨rfl, rfl⟩ | ⟨rfl, rfl⟩ | ⟨rfl, rfl⟩ <;>
    rcases h' with ⟨rfl, rfl⟩ | ⟨rfl, rfl⟩ | ⟨rfl, rfl⟩ | ⟨rfl, rfl⟩ | ⟨rfl, rfl⟩ | ⟨rfl, rfl⟩ | ⟨rfl, rfl⟩ | ⟨rfl, rfl⟩ <;> first | exact ⟨rfl, rfl⟩ | (simp [low] at e)
theorem synB_eq (b : Bool) : synB b = if b = true then 2516582464 else 2516582400 := rfl
theorem syn_inj {k l k' l' : Int} {b b' : Bool} (h : VF k l) (h' : VF k' l') (e : syn k l b = syn k' l' b') : k = k' ∧ l = l' ∧ b = b' := by
  obtain ⟨e1, a1, a2⟩ := syn_low h b
  obtain ⟨e2, c1, c2⟩ := syn_low h' b'
  rw [e1, e2, synB_eq, synB_eq] at e
  cases b <;> cases b' <;> simp only [Bool.false_eq_true, if_true, if_false] at e
  · obtain ⟨x, y⟩ := low_inj h h' (by omega); exact ⟨x, y, rfl⟩
  · omega
  · omega
  · obtain ⟨x, y⟩ := low_inj h h' (by omega); exact ⟨x, y, rfl⟩
theorem syn_bit {k l : Int} (b : Bool) (h : VF k l) : GrF.bitB (syn k l b) 6 = b := by
  rcases h with ⟨rfl, rfl⟩ | ⟨rfl, rfl⟩ | ⟨rfl, rfl⟩ | ⟨rfl, rfl⟩ | ⟨rfl, rfl⟩ | ⟨rfl, rfl⟩ | ⟨rfl, rfl⟩ | ⟨rfl, rfl⟩ <;> cases b <;> decide +kernel
/-- what FaultOf answers -/
def FOut (W : Int) (b : Bool) (k l : Int) (c ok : Bool) : Prop := (ok = true ∧ VF k l ∧ c = b ∧ syn k l b = W) ∨ (ok = false ∧ k = 0 ∧ l = 0 ∧ c = false ∧ ∀ k' l', VF k' l' → ¬ syn k' l' b = W)
def faultL : List (Int × Int × Bool) := [(1, 0, false), (1, 0, true), (2, 0, false), (2, 0, true), (3, 1, false), (3, 1, true), (3, 2, false), (3, 2, true), (4, 1, false), (4, 1, true), (4, 2, false), (4, 2, true), (5, 1, false), (5, 1, true), (5, 2, false), (5, 2, true)]
def faultC (L : List (Int × Int × Bool)) : List Value := L.flatMap fun p => [.int .i64 p.1, .int .i64 p.2.1, .bool p.2.2]
end GrW
namespace Go.Proofs.Ytnpgpbcpgniloaa
open Go.RowKit

theorem fbytes : (Try.prog.info? 28).map (fun i => (i.zero, i.size, i.bytes)) = some (some (.agg #[.int .i64 0, .int .i64 0, .bool false]), 3, 24) := by kernel_rfl
theorem app_six (w : World) (u0 u1 u2 u3 u4 u5 : Value) (T : TypeId) : ∀ j u, ([u0, u1, u2, u3, u4, u5] : List Value)[j]? = some u → (w.alloc (.cells #[u0, u1, u2, u3, u4, u5] T)).cell? ((⟨w.heap.size, 0, none⟩ : Addr).add j) = some u := by
  intro j u h
  match j, h with
  | 0, h => simp at h; subst h; simp [Addr.add, World.cell?_alloc_new]
  | 1, h => simp at h; subst h; simp [Addr.add, World.cell?_alloc_new]
  | 2, h => simp at h; subst h; simp [Addr.add, World.cell?_alloc_new]
  | 3, h => simp at h; subst h; simp [Addr.add, World.cell?_alloc_new]
  | 4, h => simp at h; subst h; simp [Addr.add, World.cell?_alloc_new]
  | 5, h => simp at h; subst h; simp [Addr.add, World.cell?_alloc_new]
  | j + 6, h => simp at h

set_option maxRecDepth 100000 in
set_option maxHeartbeats 6400000 in
theorem faults_any (w : World) :
    Calls Try.prog 13 #[] w fun e w' => ∃ v, e = .returned v ∧ Below w.heap.size w w' ∧ w'.ownsRow w.heap.size 28 3 v 16 (GrW.faultC GrW.faultL) := by
  obtain ⟨i0, hi, hz0, hz1, hz2⟩ := info_parts fbytes
  go_enter Try.func13, Try.ntmps13
  have O0 := Lib.hid (World.ownsRow_nil w w.heap.size 28 3)
  have B0 := Lib.hid (Below.refl w.heap.size w)
  go_wp2_with fail
  refine wp_loop_rounds 7 ?_
  rw [rounds_succ]
  go_wp2_with fail
  refine wp_loop_rounds 5 ?_
  rw [rounds_succ]
  have k2 := Lib.hid (fun T => app_six w (.int .i64 1) (.int .i64 0) (.bool false) (.int .i64 1) (.int .i64 0) (.bool true) T)
  have k3 := Lib.hid (show ∀ u ∈ [Value.int .i64 1, .int .i64 0, .bool false, .int .i64 1, .int .i64 0, .bool true], u.oneCell' = true by simp [Value.oneCell'])
  have s5 := Lib.hid (show ∀ o : Obj, w.heap.size ≤ (w.alloc o).heap.size from fun o => by have := B0.out.size; simp only [World.size_alloc]; omega)
  go_wp2_with (at_builtin; refine wpList_append_own _ rfl (.tmp 21) (.tmp 28) 31 rfl w.heap.size 28 i0 (.agg #[.int .i64 0, .int .i64 0, .bool false]) 3 24 Try.underlying31 hi hz0 hz1 hz2 rfl (by decide) _ _ _ rfl (O0.out.alloc _) ⟨w.heap.size, 0, none⟩ 2 2 [.int .i64 1, .int .i64 0, .bool false, .int .i64 1, .int .i64 0, .bool true] rfl rfl (k2.out _) k3.out (by unfold maxLen; omega) (by omega) (s5.out _) ?_)
  intro v1 w1 h hg _
  have O1 := Lib.hid (show w1.ownsRow w.heap.size 28 3 v1 2 (GrW.faultC (GrW.faultL.take 2)) from h)
  have B1 := Lib.hid (show Below w.heap.size w w1 from (KB.alloc B0.out _).grown hg (s5.out _) (fun k hk => by cases hk))
  clear h hg k2 k3 s5 O0 B0
  go_wp2_with fail
  rw [rounds_succ]
  go_wp2_with fail
  rw [rounds_succ]
  go_wp2_with fail
  rw [rounds_succ]
  go_wp2_with fail
  rw [rounds_succ]
  go_wp2_with fail
  refine wp_loop_rounds 5 ?_
  rw [rounds_succ]
  have k2 := Lib.hid (fun T => app_six w1 (.int .i64 2) (.int .i64 0) (.bool false) (.int .i64 2) (.int .i64 0) (.bool true) T)
  have k3 := Lib.hid (show ∀ u ∈ [Value.int .i64 2, .int .i64 0, .bool false, .int .i64 2, .int .i64 0, .bool true], u.oneCell' = true by simp [Value.oneCell'])
  have s5 := Lib.hid (show ∀ o : Obj, w.heap.size ≤ (w1.alloc o).heap.size from fun o => by have := B1.out.size; simp only [World.size_alloc]; omega)
  go_wp2_with (at_builtin; refine wpList_append_own _ rfl (.tmp 21) (.tmp 28) 31 rfl w.heap.size 28 i0 (.agg #[.int .i64 0, .int .i64 0, .bool false]) 3 24 Try.underlying31 hi hz0 hz1 hz2 rfl (by decide) _ _ _ rfl (O1.out.alloc _) ⟨w1.heap.size, 0, none⟩ 2 2 [.int .i64 2, .int .i64 0, .bool false, .int .i64 2, .int .i64 0, .bool true] rfl rfl (k2.out _) k3.out (by unfold maxLen; omega) (by omega) (s5.out _) ?_)
  intro v2 w2 h hg _
  have O2 := Lib.hid (show w2.ownsRow w.heap.size 28 3 v2 4 (GrW.faultC (GrW.faultL.take 4)) from h)
  have B2 := Lib.hid (show Below w.heap.size w w2 from (KB.alloc B1.out _).grown hg (s5.out _) (fun k hk => (O1.out.lt k hk).1))
  clear h hg k2 k3 s5 O1 B1
  go_wp2_with fail
  rw [rounds_succ]
  go_wp2_with fail
  rw [rounds_succ]
  go_wp2_with fail
  rw [rounds_succ]
  go_wp2_with fail
  rw [rounds_succ]
  go_wp2_with fail
  refine wp_loop_rounds 5 ?_
  rw [rounds_succ]
  go_wp2_with fail
  rw [rounds_succ]
  have k2 := Lib.hid (fun T => app_six w2 (.int .i64 3) (.int .i64 1) (.bool false) (.int .i64 3) (.int .i64 1) (.bool true) T)
  have k3 := Lib.hid (show ∀ u ∈ [Value.int .i64 3, .int .i64 1, .bool false, .int .i64 3, .int .i64 1, .bool true], u.oneCell' = true by simp [Value.oneCell'])
  have s5 := Lib.hid (show ∀ o : Obj, w.heap.size ≤ (w2.alloc o).heap.size from fun o => by have := B2.out.size; simp only [World.size_alloc]; omega)
  go_wp2_with (at_builtin; refine wpList_append_own _ rfl (.tmp 21) (.tmp 28) 31 rfl w.heap.size 28 i0 (.agg #[.int .i64 0, .int .i64 0, .bool false]) 3 24 Try.underlying31 hi hz0 hz1 hz2 rfl (by decide) _ _ _ rfl (O2.out.alloc _) ⟨w2.heap.size, 0, none⟩ 2 2 [.int .i64 3, .int .i64 1, .bool false, .int .i64 3, .int .i64 1, .bool true] rfl rfl (k2.out _) k3.out (by unfold maxLen; omega) (by omega) (s5.out _) ?_)
  intro v3 w3 h hg _
  have O3 := Lib.hid (show w3.ownsRow w.heap.size 28 3 v3 6 (GrW.faultC (GrW.faultL.take 6)) from h)
  have B3 := Lib.hid (show Below w.heap.size w w3 from (KB.alloc B2.out _).grown hg (s5.out _) (fun k hk => (O2.out.lt k hk).1))
  clear h hg k2 k3 s5 O2 B2
  go_wp2_with fail
  rw [rounds_succ]
  have k2 := Lib.hid (fun T => app_six w3 (.int .i64 3) (.int .i64 2) (.bool false) (.int .i64 3) (.int .i64 2) (.bool true) T)
  have k3 := Lib.hid (show ∀ u ∈ [Value.int .i64 3, .int .i64 2, .bool false, .int .i64 3, .int .i64 2, .bool true], u.oneCell' = true by simp [Value.oneCell'])
  have s5 := Lib.hid (show ∀ o : Obj, w.heap.size ≤ (w3.alloc o).heap.size from fun o => by have := B3.out.size; simp only [World.size_alloc]; omega)
  go_wp2_with (at_builtin; refine wpList_append_own _ rfl (.tmp 21) (.tmp 28) 31 rfl w.heap.size 28 i0 (.agg #[.int .i64 0, .int .i64 0, .bool false]) 3 24 Try.underlying31 hi hz0 hz1 hz2 rfl (by decide) _ _ _ rfl (O3.out.alloc _) ⟨w3.heap.size, 0, none⟩ 2 2 [.int .i64 3, .int .i64 2, .bool false, .int .i64 3, .int .i64 2, .bool true] rfl rfl (k2.out _) k3.out (by unfold maxLen; omega) (by omega) (s5.out _) ?_)
  intro v4 w4 h hg _
  have O4 := Lib.hid (show w4.ownsRow w.heap.size 28 3 v4 8 (GrW.faultC (GrW.faultL.take 8)) from h)
  have B4 := Lib.hid (show Below w.heap.size w w4 from (KB.alloc B3.out _).grown hg (s5.out _) (fun k hk => (O3.out.lt k hk).1))
  clear h hg k2 k3 s5 O3 B3
  go_wp2_with fail
  rw [rounds_succ]
  go_wp2_with fail
  rw [rounds_succ]
  go_wp2_with fail
  refine wp_loop_rounds 5 ?_
  rw [rounds_succ]
  go_wp2_with fail
  rw [rounds_succ]
  have k2 := Lib.hid (fun T => app_six w4 (.int .i64 4) (.int .i64 1) (.bool false) (.int .i64 4) (.int .i64 1) (.bool true) T)
  have k3 := Lib.hid (show ∀ u ∈ [Value.int .i64 4, .int .i64 1, .bool false, .int .i64 4, .int .i64 1, .bool true], u.oneCell' = true by simp [Value.oneCell'])
  have s5 := Lib.hid (show ∀ o : Obj, w.heap.size ≤ (w4.alloc o).heap.size from fun o => by have := B4.out.size; simp only [World.size_alloc]; omega)
  go_wp2_with (at_builtin; refine wpList_append_own _ rfl (.tmp 21) (.tmp 28) 31 rfl w.heap.size 28 i0 (.agg #[.int .i64 0, .int .i64 0, .bool false]) 3 24 Try.underlying31 hi hz0 hz1 hz2 rfl (by decide) _ _ _ rfl (O4.out.alloc _) ⟨w4.heap.size, 0, none⟩ 2 2 [.int .i64 4, .int .i64 1, .bool false, .int .i64 4, .int .i64 1, .bool true] rfl rfl (k2.out _) k3.out (by unfold maxLen; omega) (by omega) (s5.out _) ?_)
  intro v5 w5 h hg _
  have O5 := Lib.hid (show w5.ownsRow w.heap.size 28 3 v5 10 (GrW.faultC (GrW.faultL.take 10)) from h)
  have B5 := Lib.hid (show Below w.heap.size w w5 from (KB.alloc B4.out _).grown hg (s5.out _) (fun k hk => (O4.out.lt k hk).1))
  clear h hg k2 k3 s5 O4 B4
  go_wp2_with fail
  rw [rounds_succ]
  have k2 := Lib.hid (fun T => app_six w5 (.int .i64 4) (.int .i64 2) (.bool false) (.int .i64 4) (.int .i64 2) (.bool true) T)
  have k3 := Lib.hid (show ∀ u ∈ [Value.int .i64 4, .int .i64 2, .bool false, .int .i64 4, .int .i64 2, .bool true], u.oneCell' = true by simp [Value.oneCell'])
  have s5 := Lib.hid (show ∀ o : Obj, w.heap.size ≤ (w5.alloc o).heap.size from fun o => by have := B5.out.size; simp only [World.size_alloc]; omega)
  go_wp2_with (at_builtin; refine wpList_append_own _ rfl (.tmp 21) (.tmp 28) 31 rfl w.heap.size 28 i0 (.agg #[.int .i64 0, .int .i64 0, .bool false]) 3 24 Try.underlying31 hi hz0 hz1 hz2 rfl (by decide) _ _ _ rfl (O5.out.alloc _) ⟨w5.heap.size, 0, none⟩ 2 2 [.int .i64 4, .int .i64 2, .bool false, .int .i64 4, .int .i64 2, .bool true] rfl rfl (k2.out _) k3.out (by unfold maxLen; omega) (by omega) (s5.out _) ?_)
  intro v6 w6 h hg _
  have O6 := Lib.hid (show w6.ownsRow w.heap.size 28 3 v6 12 (GrW.faultC (GrW.faultL.take 12)) from h)
  have B6 := Lib.hid (show Below w.heap.size w w6 from (KB.alloc B5.out _).grown hg (s5.out _) (fun k hk => (O5.out.lt k hk).1))
  clear h hg k2 k3 s5 O5 B5
  go_wp2_with fail
  rw [rounds_succ]
  go_wp2_with fail
  rw [rounds_succ]
  go_wp2_with fail
  refine wp_loop_rounds 5 ?_
  rw [rounds_succ]
  go_wp2_with fail
  rw [rounds_succ]
  have k2 := Lib.hid (fun T => app_six w6 (.int .i64 5) (.int .i64 1) (.bool false) (.int .i64 5) (.int .i64 1) (.bool true) T)
  have k3 := Lib.hid (show ∀ u ∈ [Value.int .i64 5, .int .i64 1, .bool false, .int .i64 5, .int .i64 1, .bool true], u.oneCell' = true by simp [Value.oneCell'])
  have s5 := Lib.hid (show ∀ o : Obj, w.heap.size ≤ (w6.alloc o).heap.size from fun o => by have := B6.out.size; simp only [World.size_alloc]; omega)
  go_wp2_with (at_builtin; refine wpList_append_own _ rfl (.tmp 21) (.tmp 28) 31 rfl w.heap.size 28 i0 (.agg #[.int .i64 0, .int .i64 0, .bool false]) 3 24 Try.underlying31 hi hz0 hz1 hz2 rfl (by decide) _ _ _ rfl (O6.out.alloc _) ⟨w6.heap.size, 0, none⟩ 2 2 [.int .i64 5, .int .i64 1, .bool false, .int .i64 5, .int .i64 1, .bool true] rfl rfl (k2.out _) k3.out (by unfold maxLen; omega) (by omega) (s5.out _) ?_)
  intro v7 w7 h hg _
  have O7 := Lib.hid (show w7.ownsRow w.heap.size 28 3 v7 14 (GrW.faultC (GrW.faultL.take 14)) from h)
  have B7 := Lib.hid (show Below w.heap.size w w7 from (KB.alloc B6.out _).grown hg (s5.out _) (fun k hk => (O6.out.lt k hk).1))
  clear h hg k2 k3 s5 O6 B6
  go_wp2_with fail
  rw [rounds_succ]
  have k2 := Lib.hid (fun T => app_six w7 (.int .i64 5) (.int .i64 2) (.bool false) (.int .i64 5) (.int .i64 2) (.bool true) T)
  have k3 := Lib.hid (show ∀ u ∈ [Value.int .i64 5, .int .i64 2, .bool false, .int .i64 5, .int .i64 2, .bool true], u.oneCell' = true by simp [Value.oneCell'])
  have s5 := Lib.hid (show ∀ o : Obj, w.heap.size ≤ (w7.alloc o).heap.size from fun o => by have := B7.out.size; simp only [World.size_alloc]; omega)
  go_wp2_with (at_builtin; refine wpList_append_own _ rfl (.tmp 21) (.tmp 28) 31 rfl w.heap.size 28 i0 (.agg #[.int .i64 0, .int .i64 0, .bool false]) 3 24 Try.underlying31 hi hz0 hz1 hz2 rfl (by decide) _ _ _ rfl (O7.out.alloc _) ⟨w7.heap.size, 0, none⟩ 2 2 [.int .i64 5, .int .i64 2, .bool false, .int .i64 5, .int .i64 2, .bool true] rfl rfl (k2.out _) k3.out (by unfold maxLen; omega) (by omega) (s5.out _) ?_)
  intro v8 w8 h hg _
  have O8 := Lib.hid (show w8.ownsRow w.heap.size 28 3 v8 16 (GrW.faultC (GrW.faultL.take 16)) from h)
  have B8 := Lib.hid (show Below w.heap.size w w8 from (KB.alloc B7.out _).grown hg (s5.out _) (fun k hk => (O7.out.lt k hk).1))
  clear h hg k2 k3 s5 O7 B7
  go_wp2_with fail
  rw [rounds_succ]
  go_wp2_with fail
  rw [rounds_succ]
  go_wp2
  go_ret
  exact ⟨_, rfl, B8.out, O8.out⟩
end Go.Proofs.Ytnpgpbcpgniloaa
