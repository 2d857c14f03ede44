/-
  Layer 5, the laws' walks: RegsNext, RegsTells.
-/
import Derived.Test.YtnehdgapcgbdeaaGe
import Derived.Test.YtnehdgapcgbdeaaGi
import Derived.Test.YtnehdgapcgbdeaaGj
import Derived.Test.YtnehdgapcgbdeaaGk
import Derived.Test.YtnehdgapcgbdeaaRz
set_option linter.unusedSimpArgs false
set_option linter.unusedVariables false
namespace GrI
theorem imm_small {op d n m imm kind : Int} (h : right ⟨op, d, n, m, imm, kind⟩) : -33554432 ≤ imm ∧ imm ≤ 33554431 := by
  have ho := ops h
  simp only at ho
  rcases ho with rfl | rfl | rfl | rfl | rfl | rfl | rfl | rfl | rfl | rfl | rfl | rfl | rfl | rfl | rfl | rfl | rfl | rfl | rfl | rfl | rfl | rfl | rfl
  all_goals
    simp [right, parts, nums] at h
    omega
end GrI
namespace GrG
def goesB (op : Int) (t : Bool) : Bool := t && ((op == 14) || branchB op)
def nextV (op : Int) (t : Bool) (pc imm : Int) : Int := if goesB op t = true then pc + imm else pc + 1
end GrG
namespace Go.Proofs.Ytnehdgapcgbdeaa
open Go.RowKit
theorem pright_b (op d n m imm kind : Int) (b : Bool) (h : decide (GrI.right ⟨op, d, n, m, imm, kind⟩) = b) (w : World) :
    Calls Try.prog 9 #[.agg #[.int .i64 op, .int .i64 d, .int .i64 n, .int .i64 m, .int .i64 imm, .int .i64 kind]] w fun e w' => e = .returned (.bool b) ∧ Below w.heap.size w w' := by
  rw [← h]
  exact (irright_any ⟨op, d, n, m, imm, kind⟩ w).mono fun _ _ h => ⟨h.1, h.2 ▸ (Below.refl _ _).alloc (Nat.le_refl _) _⟩

theorem ret_i5 {a b : Int} (h : a = b) : Ending.returned (.int .i64 a) = .returned (.int .i64 b) := by rw [h]

set_option maxHeartbeats 1600000 in
theorem next_any (pc op d n m imm kind : Int) (t : Bool) (w : World) (p0 : 0 ≤ pc) (p1 : pc ≤ 1048576) (i0 : -33554432 ≤ imm) (i1 : imm ≤ 33554431) :
    Calls Try.prog 32 #[.int .i64 pc, .agg #[.int .i64 op, .int .i64 d, .int .i64 n, .int .i64 m, .int .i64 imm, .int .i64 kind], .bool t] w fun e w' => e = .returned (.int .i64 (GrG.nextV op t pc imm)) ∧ Below w.heap.size w w' := by
  cases t with
  | false =>
    have E := Lib.hid (show GrG.nextV op false pc imm = pc + 1 from rfl)
    obtain ⟨a0, a1, a2, a3, a4, a5, kb⟩ := ibox6 w op d n m imm kind _ rfl
    have KB := Lib.hid kb
    clear kb
    go_enter Try.func32, Try.ntmps32
    go_upto_region 1 with fail
    obtain ⟨x0, hx0⟩ : ∃ x : Wb (w.alloc (.cells #[.int .i64 op, .int .i64 d, .int .i64 n, .int .i64 m, .int .i64 imm, .int .i64 kind] 23)), w.alloc (.cells #[.int .i64 op, .int .i64 d, .int .i64 n, .int .i64 m, .int .i64 imm, .int .i64 kind] 23) = x.at := ⟨⟨_, Below.refl _ _⟩, rfl⟩
    rw [hx0]
    clear hx0
    go_wp2
    go_ret
    exact ⟨ret_i5 (by rw [E.out]), KB.out _⟩
  | true =>
    by_cases e14 : op = 14
    · subst e14
      have E := Lib.hid (show GrG.nextV 14 true pc imm = pc + imm from rfl)
      obtain ⟨a0, a1, a2, a3, a4, a5, kb⟩ := ibox6 w 14 d n m imm kind _ rfl
      have KB := Lib.hid kb
      clear kb
      go_enter Try.func32, Try.ntmps32
      go_upto_region 1 with fail
      obtain ⟨x0, hx0⟩ : ∃ x : Wb (w.alloc (.cells #[.int .i64 14, .int .i64 d, .int .i64 n, .int .i64 m, .int .i64 imm, .int .i64 kind] 23)), w.alloc (.cells #[.int .i64 14, .int .i64 d, .int .i64 n, .int .i64 m, .int .i64 imm, .int .i64 kind] 23) = x.at := ⟨⟨_, Below.refl _ _⟩, rfl⟩
      rw [hx0]
      clear hx0
      go_wp2
      go_ret
      exact ⟨ret_i5 (by rw [E.out]), KB.out _⟩
    · have q14 : (op == 14) = false := by simpa using e14
      clear e14
      cases br : GrG.branchB op with
      | false =>
        have E := Lib.hid (show GrG.nextV op true pc imm = pc + 1 by simp [GrG.nextV, GrG.goesB, q14, br])
        obtain ⟨a0, a1, a2, a3, a4, a5, kb⟩ := ibox6 w op d n m imm kind _ rfl
        have KB := Lib.hid kb
        clear kb
        go_enter Try.func32, Try.ntmps32
        go_upto_region 1 with fail
        obtain ⟨x0, hx0⟩ : ∃ x : Wb (w.alloc (.cells #[.int .i64 op, .int .i64 d, .int .i64 n, .int .i64 m, .int .i64 imm, .int .i64 kind] 23)), w.alloc (.cells #[.int .i64 op, .int .i64 d, .int .i64 n, .int .i64 m, .int .i64 imm, .int .i64 kind] 23) = x.at := ⟨⟨_, Below.refl _ _⟩, rfl⟩
        rw [hx0]
        clear hx0
        go_wp2_with fail
        refine (branch_any op d n m imm kind _).mono ?_
        rintro e w1 ⟨rfl, b⟩
        obtain ⟨x1, rfl⟩ := Wb.next b
        clear b
        go_wp2
        go_ret
        exact ⟨ret_i5 (by rw [E.out]), KB.out _⟩
      | true =>
        have E := Lib.hid (show GrG.nextV op true pc imm = pc + imm by simp [GrG.nextV, GrG.goesB, q14, br])
        obtain ⟨a0, a1, a2, a3, a4, a5, kb⟩ := ibox6 w op d n m imm kind _ rfl
        have KB := Lib.hid kb
        clear kb
        go_enter Try.func32, Try.ntmps32
        go_upto_region 1 with fail
        obtain ⟨x0, hx0⟩ : ∃ x : Wb (w.alloc (.cells #[.int .i64 op, .int .i64 d, .int .i64 n, .int .i64 m, .int .i64 imm, .int .i64 kind] 23)), w.alloc (.cells #[.int .i64 op, .int .i64 d, .int .i64 n, .int .i64 m, .int .i64 imm, .int .i64 kind] 23) = x.at := ⟨⟨_, Below.refl _ _⟩, rfl⟩
        rw [hx0]
        clear hx0
        go_wp2_with fail
        refine (branch_any op d n m imm kind _).mono ?_
        rintro e w1 ⟨rfl, b⟩
        obtain ⟨x1, rfl⟩ := Wb.next b
        clear b
        go_wp2
        go_ret
        exact ⟨ret_i5 (by rw [E.out]), KB.out _⟩

set_option maxHeartbeats 3200000 in
theorem RegsNext_walk (pc op d n m imm kind : Int) (t : Bool) (w : World) (hp : -9223372036854775808 ≤ pc ∧ pc ≤ 9223372036854775807) :
    Calls Try.prog 7 #[.int .i64 pc, .agg #[.int .i64 op, .int .i64 d, .int .i64 n, .int .i64 m, .int .i64 imm, .int .i64 kind], .bool t] w fun e w' => e = .returned (.bool true) ∧ Below w.heap.size w w' := by
  cases hr : decide (GrI.right ⟨op, d, n, m, imm, kind⟩) with
  | false =>
    have PR0 := Lib.hid (pright_b op d n m imm kind false hr)
    clear hr hp
    obtain ⟨a0, a1, a2, a3, a4, a5, kb⟩ := ibox6 w op d n m imm kind _ rfl
    have KB := Lib.hid kb
    clear kb
    go_enter Try.func7, Try.ntmps7
    go_upto_region 1 with fail
    obtain ⟨x0, hx0⟩ : ∃ x : Wb (w.alloc (.cells #[.int .i64 op, .int .i64 d, .int .i64 n, .int .i64 m, .int .i64 imm, .int .i64 kind] 23)), w.alloc (.cells #[.int .i64 op, .int .i64 d, .int .i64 n, .int .i64 m, .int .i64 imm, .int .i64 kind] 23) = x.at := ⟨⟨_, Below.refl _ _⟩, rfl⟩
    rw [hx0]
    clear hx0
    go_wp2_with fail
    refine (gawake_any _).mono ?_
    rintro e w1 ⟨rfl, b⟩
    obtain ⟨x1, rfl⟩ := Wb.next b
    clear b
    go_wp2_with fail
    refine (PR0.out _).mono ?_
    rintro e w1 ⟨rfl, b⟩
    obtain ⟨x2, rfl⟩ := Wb.next b
    clear b
    go_wp2
    go_ret
    exact ⟨rfl, KB.out _⟩
  | true =>
    have PR0 := Lib.hid (pright_b op d n m imm kind true hr)
    have hi := GrI.imm_small (by simpa using hr : GrI.right ⟨op, d, n, m, imm, kind⟩)
    clear hr
    by_cases c0 : pc < 0
    · have d0 : decide (pc < 0) = true := by simpa using c0
      clear hi hp
      obtain ⟨a0, a1, a2, a3, a4, a5, kb⟩ := ibox6 w op d n m imm kind _ rfl
      have KB := Lib.hid kb
      clear kb
      go_enter Try.func7, Try.ntmps7
      go_upto_region 1 with fail
      obtain ⟨x0, hx0⟩ : ∃ x : Wb (w.alloc (.cells #[.int .i64 op, .int .i64 d, .int .i64 n, .int .i64 m, .int .i64 imm, .int .i64 kind] 23)), w.alloc (.cells #[.int .i64 op, .int .i64 d, .int .i64 n, .int .i64 m, .int .i64 imm, .int .i64 kind] 23) = x.at := ⟨⟨_, Below.refl _ _⟩, rfl⟩
      rw [hx0]
      clear hx0
      go_wp2_with fail
      refine (gawake_any _).mono ?_
      rintro e w1 ⟨rfl, b⟩
      obtain ⟨x1, rfl⟩ := Wb.next b
      clear b
      go_wp2_with fail
      refine (PR0.out _).mono ?_
      rintro e w1 ⟨rfl, b⟩
      obtain ⟨x2, rfl⟩ := Wb.next b
      clear b
      go_wp2
      go_ret
      exact ⟨rfl, KB.out _⟩
    · have d0 : decide (pc < 0) = false := by simpa using c0
      by_cases c1 : 1048576 < pc
      · have d1 : decide (1048576 < pc) = true := by simpa using c1
        have d2 : decide (pc > 1048576) = true := by simpa using c1
        clear hi hp
        obtain ⟨a0, a1, a2, a3, a4, a5, kb⟩ := ibox6 w op d n m imm kind _ rfl
        have KB := Lib.hid kb
        clear kb
        go_enter Try.func7, Try.ntmps7
        go_upto_region 1 with fail
        obtain ⟨x0, hx0⟩ : ∃ x : Wb (w.alloc (.cells #[.int .i64 op, .int .i64 d, .int .i64 n, .int .i64 m, .int .i64 imm, .int .i64 kind] 23)), w.alloc (.cells #[.int .i64 op, .int .i64 d, .int .i64 n, .int .i64 m, .int .i64 imm, .int .i64 kind] 23) = x.at := ⟨⟨_, Below.refl _ _⟩, rfl⟩
        rw [hx0]
        clear hx0
        go_wp2_with fail
        refine (gawake_any _).mono ?_
        rintro e w1 ⟨rfl, b⟩
        obtain ⟨x1, rfl⟩ := Wb.next b
        clear b
        go_wp2_with fail
        refine (PR0.out _).mono ?_
        rintro e w1 ⟨rfl, b⟩
        obtain ⟨x2, rfl⟩ := Wb.next b
        clear b
        go_wp2
        go_ret
        exact ⟨rfl, KB.out _⟩
      · have d1 : decide (1048576 < pc) = false := by simpa using c1
        have p0 : 0 ≤ pc := by omega
        have p1 : pc ≤ 1048576 := by omega
        obtain ⟨i0, i1⟩ := hi
        clear hp c0 c1
        cases t with
        | false =>
          have E := Lib.hid (show GrG.nextV op false pc imm = pc + 1 from rfl)
          obtain ⟨a0, a1, a2, a3, a4, a5, kb⟩ := ibox6 w op d n m imm kind _ rfl
          have KB := Lib.hid kb
          clear kb
          have NX := Lib.hid (fun w => next_any pc op d n m imm kind false w p0 p1 i0 i1)
          have EV := Lib.hid E.out
          rw [E.out] at NX
          have PR := Lib.hid (fun w => PR0.out w)
          go_enter Try.func7, Try.ntmps7
          go_upto_region 1 with fail
          obtain ⟨x0, hx0⟩ : ∃ x : Wb (w.alloc (.cells #[.int .i64 op, .int .i64 d, .int .i64 n, .int .i64 m, .int .i64 imm, .int .i64 kind] 23)), w.alloc (.cells #[.int .i64 op, .int .i64 d, .int .i64 n, .int .i64 m, .int .i64 imm, .int .i64 kind] 23) = x.at := ⟨⟨_, Below.refl _ _⟩, rfl⟩
          rw [hx0]
          clear hx0
          go_wp2_with fail
          refine (gawake_any _).mono ?_
          rintro e w1 ⟨rfl, b⟩
          obtain ⟨x1, rfl⟩ := Wb.next b
          clear b
          go_wp2_with fail
          refine (PR.out _).mono ?_
          rintro e w1 ⟨rfl, b⟩
          obtain ⟨x2, rfl⟩ := Wb.next b
          clear b
          go_wp2_with fail
          refine (NX.out _).mono ?_
          rintro e w1 ⟨rfl, b⟩
          obtain ⟨x3, rfl⟩ := Wb.next b
          clear b
          go_wp2
          go_ret
          exact ⟨rfl, KB.out _⟩
        | true =>
          by_cases e14 : op = 14
          · subst e14
            have E := Lib.hid (show GrG.nextV 14 true pc imm = pc + imm from rfl)
            obtain ⟨a0, a1, a2, a3, a4, a5, kb⟩ := ibox6 w 14 d n m imm kind _ rfl
            have KB := Lib.hid kb
            clear kb
            have NX := Lib.hid (fun w => next_any pc 14 d n m imm kind true w p0 p1 i0 i1)
            have EV := Lib.hid E.out
            rw [E.out] at NX
            have PR := Lib.hid (fun w => PR0.out w)
            go_enter Try.func7, Try.ntmps7
            go_upto_region 1 with fail
            obtain ⟨x0, hx0⟩ : ∃ x : Wb (w.alloc (.cells #[.int .i64 14, .int .i64 d, .int .i64 n, .int .i64 m, .int .i64 imm, .int .i64 kind] 23)), w.alloc (.cells #[.int .i64 14, .int .i64 d, .int .i64 n, .int .i64 m, .int .i64 imm, .int .i64 kind] 23) = x.at := ⟨⟨_, Below.refl _ _⟩, rfl⟩
            rw [hx0]
            clear hx0
            go_wp2_with fail
            refine (gawake_any _).mono ?_
            rintro e w1 ⟨rfl, b⟩
            obtain ⟨x1, rfl⟩ := Wb.next b
            clear b
            go_wp2_with fail
            refine (PR.out _).mono ?_
            rintro e w1 ⟨rfl, b⟩
            obtain ⟨x2, rfl⟩ := Wb.next b
            clear b
            go_wp2_with fail
            refine (NX.out _).mono ?_
            rintro e w1 ⟨rfl, b⟩
            obtain ⟨x3, rfl⟩ := Wb.next b
            clear b
            go_wp2
            go_ret
            exact ⟨rfl, KB.out _⟩
          · have q14 : (op == 14) = false := by simpa using e14
            clear e14
            cases br : GrG.branchB op with
            | false =>
              have E := Lib.hid (show GrG.nextV op true pc imm = pc + 1 by simp [GrG.nextV, GrG.goesB, q14, br])
              obtain ⟨a0, a1, a2, a3, a4, a5, kb⟩ := ibox6 w op d n m imm kind _ rfl
              have KB := Lib.hid kb
              clear kb
              have NX := Lib.hid (fun w => next_any pc op d n m imm kind true w p0 p1 i0 i1)
              have EV := Lib.hid E.out
              rw [E.out] at NX
              have PR := Lib.hid (fun w => PR0.out w)
              go_enter Try.func7, Try.ntmps7
              go_upto_region 1 with fail
              obtain ⟨x0, hx0⟩ : ∃ x : Wb (w.alloc (.cells #[.int .i64 op, .int .i64 d, .int .i64 n, .int .i64 m, .int .i64 imm, .int .i64 kind] 23)), w.alloc (.cells #[.int .i64 op, .int .i64 d, .int .i64 n, .int .i64 m, .int .i64 imm, .int .i64 kind] 23) = x.at := ⟨⟨_, Below.refl _ _⟩, rfl⟩
              rw [hx0]
              clear hx0
              go_wp2_with fail
              refine (gawake_any _).mono ?_
              rintro e w1 ⟨rfl, b⟩
              obtain ⟨x1, rfl⟩ := Wb.next b
              clear b
              go_wp2_with fail
              refine (PR.out _).mono ?_
              rintro e w1 ⟨rfl, b⟩
              obtain ⟨x2, rfl⟩ := Wb.next b
              clear b
              go_wp2_with fail
              refine (pbranch_any op d n m imm kind _).mono ?_
              rintro e w1 ⟨rfl, b⟩
              obtain ⟨x3, rfl⟩ := Wb.next b
              clear b
              go_wp2_with fail
              refine (NX.out _).mono ?_
              rintro e w1 ⟨rfl, b⟩
              obtain ⟨x4, rfl⟩ := Wb.next b
              clear b
              go_wp2
              go_ret
              exact ⟨rfl, KB.out _⟩
            | true =>
              have E := Lib.hid (show GrG.nextV op true pc imm = pc + imm by simp [GrG.nextV, GrG.goesB, q14, br])
              obtain ⟨a0, a1, a2, a3, a4, a5, kb⟩ := ibox6 w op d n m imm kind _ rfl
              have KB := Lib.hid kb
              clear kb
              have NX := Lib.hid (fun w => next_any pc op d n m imm kind true w p0 p1 i0 i1)
              have EV := Lib.hid E.out
              rw [E.out] at NX
              have PR := Lib.hid (fun w => PR0.out w)
              go_enter Try.func7, Try.ntmps7
              go_upto_region 1 with fail
              obtain ⟨x0, hx0⟩ : ∃ x : Wb (w.alloc (.cells #[.int .i64 op, .int .i64 d, .int .i64 n, .int .i64 m, .int .i64 imm, .int .i64 kind] 23)), w.alloc (.cells #[.int .i64 op, .int .i64 d, .int .i64 n, .int .i64 m, .int .i64 imm, .int .i64 kind] 23) = x.at := ⟨⟨_, Below.refl _ _⟩, rfl⟩
              rw [hx0]
              clear hx0
              go_wp2_with fail
              refine (gawake_any _).mono ?_
              rintro e w1 ⟨rfl, b⟩
              obtain ⟨x1, rfl⟩ := Wb.next b
              clear b
              go_wp2_with fail
              refine (PR.out _).mono ?_
              rintro e w1 ⟨rfl, b⟩
              obtain ⟨x2, rfl⟩ := Wb.next b
              clear b
              go_wp2_with fail
              refine (pbranch_any op d n m imm kind _).mono ?_
              rintro e w1 ⟨rfl, b⟩
              obtain ⟨x3, rfl⟩ := Wb.next b
              clear b
              go_wp2_with fail
              refine (NX.out _).mono ?_
              rintro e w1 ⟨rfl, b⟩
              obtain ⟨x4, rfl⟩ := Wb.next b
              clear b
              go_wp2
              go_ret
              exact ⟨rfl, KB.out _⟩
end Go.Proofs.Ytnehdgapcgbdeaa
