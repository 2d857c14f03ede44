/-
  Layer 5, the walks: of what sort an instruction is.
-/
import Derived.Test.YtnehdgapcgbdeaaGd
import Derived.Test.YtnehdgapcgbdeaaGg
set_option linter.unusedSimpArgs false
set_option linter.unusedVariables false
namespace GrG
def loadB (op : Int) : Bool := decide (op ∈ [(2 : Int), 4])
def storeB (op : Int) : Bool := decide (op ∈ [(3 : Int), 5])
def branchB (op : Int) : Bool := decide (op ∈ [(15 : Int), 16, 17])
end GrG
namespace Go.Proofs.Ytnehdgapcgbdeaa
open Go.RowKit
theorem Wb.next1 {W w2 : World} {x : Wb W} {o : Obj} (h : Below (x.at.alloc o).heap.size (x.at.alloc o) w2) : ∃ y : Wb W, w2 = y.at :=
  Wb.next (x := x) (((Below.refl _ _).alloc (Nat.le_refl _) o).trans (h.mono (by simp)))
theorem iat_new (w : World) (zs : List Int) (T : TypeId) : IAt (w.alloc (.cells (zs.map (Value.int .i64)).toArray T)) w.heap.size zs := fun j hj => by
  rw [World.cell?_alloc_new, List.getElem?_toArray, List.getElem?_map, List.getElem?_eq_getElem hj, List.getD_eq_getElem?_getD, List.getElem?_eq_getElem hj]
  rfl
theorem is_below (op : Int) (b cap : Nat) (zs : List Int) (w : World) (hl : zs.length ≤ 100) (hz : IAt w b zs) :
    Calls Try.prog 39 #[.int .i64 op, .slice (some ⟨b, 0, none⟩) zs.length cap] w fun e w' => e = .returned (.bool (decide (op ∈ zs))) ∧ Below w.heap.size w w' :=
  Calls.same_below (is_any op b cap zs w hl hz) (Below.refl _ _)

set_option maxHeartbeats 800000 in
theorem pload_any (op d n m imm kind : Int) (w : World) : Calls Try.prog 18 #[.agg #[.int .i64 op, .int .i64 d, .int .i64 n, .int .i64 m, .int .i64 imm, .int .i64 kind]] w fun e w' => e = .returned (.bool (GrG.loadB op)) ∧ Below w.heap.size w w' := by
  obtain ⟨a0, a1, a2, a3, a4, a5, kb⟩ := ibox6 w op d n m imm kind _ rfl
  have KB := Lib.hid kb
  clear kb
  go_enter Try.func18, Try.ntmps18
  go_upto_region 1 with fail
  obtain ⟨x0, hx0⟩ : ∃ x : Wb (w.alloc (.cells #[.int .i64 op, .int .i64 d, .int .i64 n, .int .i64 m, .int .i64 imm, .int .i64 kind] 23)), w.alloc (.cells #[.int .i64 op, .int .i64 d, .int .i64 n, .int .i64 m, .int .i64 imm, .int .i64 kind] 23) = x.at := ⟨⟨_, Below.refl _ _⟩, rfl⟩
  rw [hx0]
  clear hx0
  go_wp2_with fail
  refine (is_below op _ 2 [2, 4] _ (by decide) (iat_new _ _ _)).mono ?_
  rintro e w1 ⟨rfl, b⟩
  obtain ⟨x1, rfl⟩ := Wb.next1 b
  clear b
  go_wp2
  go_ret
  exact ⟨ret_bb (by simp [GrG.loadB]), KB.out x1⟩

set_option maxHeartbeats 800000 in
theorem load_any (op d n m imm kind : Int) (w : World) : Calls Try.prog 17 #[.agg #[.int .i64 op, .int .i64 d, .int .i64 n, .int .i64 m, .int .i64 imm, .int .i64 kind]] w fun e w' => e = .returned (.bool (GrG.loadB op)) ∧ Below w.heap.size w w' := by
  by_cases e2 : op = 2
  · subst e2
    go_enter Try.func17, Try.ntmps17
    go_wp2
    go_ret
    exact ⟨rfl, (Below.refl _ _).alloc (Nat.le_refl _) _⟩
  by_cases e4 : op = 4
  · subst e4
    go_enter Try.func17, Try.ntmps17
    go_wp2
    go_ret
    exact ⟨rfl, (Below.refl _ _).alloc (Nat.le_refl _) _⟩
  have E := Lib.hid (show GrG.loadB op = false by simp [GrG.loadB]; omega)
  have q2 : (op == 2) = false := by simpa using e2
  have q4 : (op == 4) = false := by simpa using e4
  clear e2 e4
  go_enter Try.func17, Try.ntmps17
  go_wp2
  go_ret
  exact ⟨ret_bb (by rw [E.out]), (Below.refl _ _).alloc (Nat.le_refl _) _⟩

set_option maxHeartbeats 800000 in
theorem pstore_any (op d n m imm kind : Int) (w : World) : Calls Try.prog 20 #[.agg #[.int .i64 op, .int .i64 d, .int .i64 n, .int .i64 m, .int .i64 imm, .int .i64 kind]] w fun e w' => e = .returned (.bool (GrG.storeB op)) ∧ Below w.heap.size w w' := by
  obtain ⟨a0, a1, a2, a3, a4, a5, kb⟩ := ibox6 w op d n m imm kind _ rfl
  have KB := Lib.hid kb
  clear kb
  go_enter Try.func20, Try.ntmps20
  go_upto_region 1 with fail
  obtain ⟨x0, hx0⟩ : ∃ x : Wb (w.alloc (.cells #[.int .i64 op, .int .i64 d, .int .i64 n, .int .i64 m, .int .i64 imm, .int .i64 kind] 23)), w.alloc (.cells #[.int .i64 op, .int .i64 d, .int .i64 n, .int .i64 m, .int .i64 imm, .int .i64 kind] 23) = x.at := ⟨⟨_, Below.refl _ _⟩, rfl⟩
  rw [hx0]
  clear hx0
  go_wp2_with fail
  refine (is_below op _ 2 [3, 5] _ (by decide) (iat_new _ _ _)).mono ?_
  rintro e w1 ⟨rfl, b⟩
  obtain ⟨x1, rfl⟩ := Wb.next1 b
  clear b
  go_wp2
  go_ret
  exact ⟨ret_bb (by simp [GrG.storeB]), KB.out x1⟩

set_option maxHeartbeats 800000 in
theorem store_any (op d n m imm kind : Int) (w : World) : Calls Try.prog 19 #[.agg #[.int .i64 op, .int .i64 d, .int .i64 n, .int .i64 m, .int .i64 imm, .int .i64 kind]] w fun e w' => e = .returned (.bool (GrG.storeB op)) ∧ Below w.heap.size w w' := by
  by_cases e3 : op = 3
  · subst e3
    go_enter Try.func19, Try.ntmps19
    go_wp2
    go_ret
    exact ⟨rfl, (Below.refl _ _).alloc (Nat.le_refl _) _⟩
  by_cases e5 : op = 5
  · subst e5
    go_enter Try.func19, Try.ntmps19
    go_wp2
    go_ret
    exact ⟨rfl, (Below.refl _ _).alloc (Nat.le_refl _) _⟩
  have E := Lib.hid (show GrG.storeB op = false by simp [GrG.storeB]; omega)
  have q3 : (op == 3) = false := by simpa using e3
  have q5 : (op == 5) = false := by simpa using e5
  clear e3 e5
  go_enter Try.func19, Try.ntmps19
  go_wp2
  go_ret
  exact ⟨ret_bb (by rw [E.out]), (Below.refl _ _).alloc (Nat.le_refl _) _⟩

set_option maxHeartbeats 800000 in
theorem pbranch_any (op d n m imm kind : Int) (w : World) : Calls Try.prog 23 #[.agg #[.int .i64 op, .int .i64 d, .int .i64 n, .int .i64 m, .int .i64 imm, .int .i64 kind]] w fun e w' => e = .returned (.bool (GrG.branchB op)) ∧ Below w.heap.size w w' := by
  obtain ⟨a0, a1, a2, a3, a4, a5, kb⟩ := ibox6 w op d n m imm kind _ rfl
  have KB := Lib.hid kb
  clear kb
  go_enter Try.func23, Try.ntmps23
  go_upto_region 1 with fail
  obtain ⟨x0, hx0⟩ : ∃ x : Wb (w.alloc (.cells #[.int .i64 op, .int .i64 d, .int .i64 n, .int .i64 m, .int .i64 imm, .int .i64 kind] 23)), w.alloc (.cells #[.int .i64 op, .int .i64 d, .int .i64 n, .int .i64 m, .int .i64 imm, .int .i64 kind] 23) = x.at := ⟨⟨_, Below.refl _ _⟩, rfl⟩
  rw [hx0]
  clear hx0
  go_wp2_with fail
  refine (is_below op _ 3 [15, 16, 17] _ (by decide) (iat_new _ _ _)).mono ?_
  rintro e w1 ⟨rfl, b⟩
  obtain ⟨x1, rfl⟩ := Wb.next1 b
  clear b
  go_wp2
  go_ret
  exact ⟨ret_bb (by simp [GrG.branchB]), KB.out x1⟩

set_option maxHeartbeats 800000 in
theorem branch_any (op d n m imm kind : Int) (w : World) : Calls Try.prog 22 #[.agg #[.int .i64 op, .int .i64 d, .int .i64 n, .int .i64 m, .int .i64 imm, .int .i64 kind]] w fun e w' => e = .returned (.bool (GrG.branchB op)) ∧ Below w.heap.size w w' := by
  by_cases e15 : op = 15
  · subst e15
    go_enter Try.func22, Try.ntmps22
    go_wp2
    go_ret
    exact ⟨rfl, (Below.refl _ _).alloc (Nat.le_refl _) _⟩
  by_cases e16 : op = 16
  · subst e16
    go_enter Try.func22, Try.ntmps22
    go_wp2
    go_ret
    exact ⟨rfl, (Below.refl _ _).alloc (Nat.le_refl _) _⟩
  by_cases e17 : op = 17
  · subst e17
    go_enter Try.func22, Try.ntmps22
    go_wp2
    go_ret
    exact ⟨rfl, (Below.refl _ _).alloc (Nat.le_refl _) _⟩
  have E := Lib.hid (show GrG.branchB op = false by simp [GrG.branchB]; omega)
  have q15 : (op == 15) = false := by simpa using e15
  have q16 : (op == 16) = false := by simpa using e16
  have q17 : (op == 17) = false := by simpa using e17
  clear e15 e16 e17
  go_enter Try.func22, Try.ntmps22
  go_wp2
  go_ret
  exact ⟨ret_bb (by rw [E.out]), (Below.refl _ _).alloc (Nat.le_refl _) _⟩

set_option maxHeartbeats 800000 in
theorem access_any (op d n m imm kind : Int) (w : World) : Calls Try.prog 21 #[.agg #[.int .i64 op, .int .i64 d, .int .i64 n, .int .i64 m, .int .i64 imm, .int .i64 kind]] w fun e w' => e = .returned (.bool (GrG.loadB op || GrG.storeB op)) ∧ Below w.heap.size w w' := by
  obtain ⟨a0, a1, a2, a3, a4, a5, kb⟩ := ibox6 w op d n m imm kind _ rfl
  have KB := Lib.hid kb
  clear kb
  have LA := Lib.hid (fun w => load_any op d n m imm kind w)
  have SA := Lib.hid (fun w => store_any op d n m imm kind w)
  cases c : GrG.loadB op with
  | true =>
    go_enter Try.func21, Try.ntmps21
    go_upto_region 1 with fail
    obtain ⟨x0, hx0⟩ : ∃ x : Wb (w.alloc (.cells #[.int .i64 op, .int .i64 d, .int .i64 n, .int .i64 m, .int .i64 imm, .int .i64 kind] 23)), w.alloc (.cells #[.int .i64 op, .int .i64 d, .int .i64 n, .int .i64 m, .int .i64 imm, .int .i64 kind] 23) = x.at := ⟨⟨_, Below.refl _ _⟩, rfl⟩
    rw [hx0]
    clear hx0
    go_wp2_with fail
    refine (LA.out _).mono ?_
    rintro e w1 ⟨rfl, b⟩
    obtain ⟨x1, rfl⟩ := Wb.next b
    clear b
    go_wp2
    go_ret
    exact ⟨rfl, KB.out x1⟩
  | false =>
    go_enter Try.func21, Try.ntmps21
    go_upto_region 1 with fail
    obtain ⟨x0, hx0⟩ : ∃ x : Wb (w.alloc (.cells #[.int .i64 op, .int .i64 d, .int .i64 n, .int .i64 m, .int .i64 imm, .int .i64 kind] 23)), w.alloc (.cells #[.int .i64 op, .int .i64 d, .int .i64 n, .int .i64 m, .int .i64 imm, .int .i64 kind] 23) = x.at := ⟨⟨_, Below.refl _ _⟩, rfl⟩
    rw [hx0]
    clear hx0
    go_wp2_with fail
    refine (LA.out _).mono ?_
    rintro e w1 ⟨rfl, b⟩
    obtain ⟨x1, rfl⟩ := Wb.next b
    clear b
    go_wp2_with fail
    refine (SA.out _).mono ?_
    rintro e w1 ⟨rfl, b⟩
    obtain ⟨x2, rfl⟩ := Wb.next b
    clear b
    go_wp2
    go_ret
    exact ⟨rfl, KB.out x2⟩
end Go.Proofs.Ytnehdgapcgbdeaa
