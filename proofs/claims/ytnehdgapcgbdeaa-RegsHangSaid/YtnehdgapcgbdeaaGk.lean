/-
  Layer 5, the walks: which registers an instruction takes and sets: Sets.
-/
import Derived.Test.YtnehdgapcgbdeaaGi
set_option linter.unusedSimpArgs false
set_option linter.unusedVariables false
namespace Go.Proofs.Ytnehdgapcgbdeaa
open Go.RowKit

set_option maxHeartbeats 800000 in
theorem sets_1 (d n m imm kind : Int) (w : World) : Calls Try.prog 15 #[.agg #[.int .i64 1, .int .i64 d, .int .i64 n, .int .i64 m, .int .i64 imm, .int .i64 kind]] w (ToldPost (GrG.toldL (GrG.setsA 1 d)) w) := by
  obtain ⟨a0, a1, a2, a3, a4, a5, kb⟩ := ibox6 w 1 d n m imm kind _ rfl
  have KB := Lib.hid kb
  clear kb
  have E := Lib.hid (show GrG.toldL (GrG.setsA 1 d) = [] from rfl)
  go_enter Try.func15, Try.ntmps15
  go_upto_region 1 with fail
  obtain ⟨x0, hx0⟩ : ∃ x : Wb (w.alloc (.cells #[.int .i64 1, .int .i64 d, .int .i64 n, .int .i64 m, .int .i64 imm, .int .i64 kind] 23)), w.alloc (.cells #[.int .i64 1, .int .i64 d, .int .i64 n, .int .i64 m, .int .i64 imm, .int .i64 kind] 23) = x.at := ⟨⟨_, Below.refl _ _⟩, rfl⟩
  rw [hx0]
  clear hx0
  go_wp2
  go_ret
  exact ⟨_, rfl, .inl ⟨rfl, E.out⟩, KB.out _⟩

set_option maxHeartbeats 800000 in
theorem sets_2 (d n m imm kind : Int) (w : World) : Calls Try.prog 15 #[.agg #[.int .i64 2, .int .i64 d, .int .i64 n, .int .i64 m, .int .i64 imm, .int .i64 kind]] w (ToldPost (GrG.toldL (GrG.setsA 2 d)) w) := by
  obtain ⟨a0, a1, a2, a3, a4, a5, kb⟩ := ibox6 w 2 d n m imm kind _ rfl
  have KB := Lib.hid kb
  clear kb
  have E := Lib.hid (show GrG.toldL (GrG.setsA 2 d) = GrG.toldL [d] from rfl)
  go_enter Try.func15, Try.ntmps15
  go_upto_region 1 with fail
  obtain ⟨x0, hx0⟩ : ∃ x : Wb (w.alloc (.cells #[.int .i64 2, .int .i64 d, .int .i64 n, .int .i64 m, .int .i64 imm, .int .i64 kind] 23)), w.alloc (.cells #[.int .i64 2, .int .i64 d, .int .i64 n, .int .i64 m, .int .i64 imm, .int .i64 kind] 23) = x.at := ⟨⟨_, Below.refl _ _⟩, rfl⟩
  rw [hx0]
  clear hx0
  go_wp2_with fail
  refine (told_any _ 1 [d] _ (by simp) (iat_new _ _ _)).mono ?_
  rintro e w1 ⟨v, rfl, hv, b⟩
  obtain ⟨x9, rfl⟩ := Wb.next1 b
  have HV := Lib.hid hv
  clear b hv
  go_wp2
  go_ret
  exact ⟨v, rfl, by rw [E.out]; exact HV.out, KB.out x9⟩

set_option maxHeartbeats 800000 in
theorem sets_3 (d n m imm kind : Int) (w : World) : Calls Try.prog 15 #[.agg #[.int .i64 3, .int .i64 d, .int .i64 n, .int .i64 m, .int .i64 imm, .int .i64 kind]] w (ToldPost (GrG.toldL (GrG.setsA 3 d)) w) := by
  obtain ⟨a0, a1, a2, a3, a4, a5, kb⟩ := ibox6 w 3 d n m imm kind _ rfl
  have KB := Lib.hid kb
  clear kb
  have E := Lib.hid (show GrG.toldL (GrG.setsA 3 d) = [] from rfl)
  go_enter Try.func15, Try.ntmps15
  go_upto_region 1 with fail
  obtain ⟨x0, hx0⟩ : ∃ x : Wb (w.alloc (.cells #[.int .i64 3, .int .i64 d, .int .i64 n, .int .i64 m, .int .i64 imm, .int .i64 kind] 23)), w.alloc (.cells #[.int .i64 3, .int .i64 d, .int .i64 n, .int .i64 m, .int .i64 imm, .int .i64 kind] 23) = x.at := ⟨⟨_, Below.refl _ _⟩, rfl⟩
  rw [hx0]
  clear hx0
  go_wp2
  go_ret
  exact ⟨_, rfl, .inl ⟨rfl, E.out⟩, KB.out _⟩

set_option maxHeartbeats 800000 in
theorem sets_4 (d n m imm kind : Int) (w : World) : Calls Try.prog 15 #[.agg #[.int .i64 4, .int .i64 d, .int .i64 n, .int .i64 m, .int .i64 imm, .int .i64 kind]] w (ToldPost (GrG.toldL (GrG.setsA 4 d)) w) := by
  obtain ⟨a0, a1, a2, a3, a4, a5, kb⟩ := ibox6 w 4 d n m imm kind _ rfl
  have KB := Lib.hid kb
  clear kb
  have E := Lib.hid (show GrG.toldL (GrG.setsA 4 d) = GrG.toldL [d] from rfl)
  go_enter Try.func15, Try.ntmps15
  go_upto_region 1 with fail
  obtain ⟨x0, hx0⟩ : ∃ x : Wb (w.alloc (.cells #[.int .i64 4, .int .i64 d, .int .i64 n, .int .i64 m, .int .i64 imm, .int .i64 kind] 23)), w.alloc (.cells #[.int .i64 4, .int .i64 d, .int .i64 n, .int .i64 m, .int .i64 imm, .int .i64 kind] 23) = x.at := ⟨⟨_, Below.refl _ _⟩, rfl⟩
  rw [hx0]
  clear hx0
  go_wp2_with fail
  refine (told_any _ 1 [d] _ (by simp) (iat_new _ _ _)).mono ?_
  rintro e w1 ⟨v, rfl, hv, b⟩
  obtain ⟨x9, rfl⟩ := Wb.next1 b
  have HV := Lib.hid hv
  clear b hv
  go_wp2
  go_ret
  exact ⟨v, rfl, by rw [E.out]; exact HV.out, KB.out x9⟩

set_option maxHeartbeats 800000 in
theorem sets_5 (d n m imm kind : Int) (w : World) : Calls Try.prog 15 #[.agg #[.int .i64 5, .int .i64 d, .int .i64 n, .int .i64 m, .int .i64 imm, .int .i64 kind]] w (ToldPost (GrG.toldL (GrG.setsA 5 d)) w) := by
  obtain ⟨a0, a1, a2, a3, a4, a5, kb⟩ := ibox6 w 5 d n m imm kind _ rfl
  have KB := Lib.hid kb
  clear kb
  have E := Lib.hid (show GrG.toldL (GrG.setsA 5 d) = [] from rfl)
  go_enter Try.func15, Try.ntmps15
  go_upto_region 1 with fail
  obtain ⟨x0, hx0⟩ : ∃ x : Wb (w.alloc (.cells #[.int .i64 5, .int .i64 d, .int .i64 n, .int .i64 m, .int .i64 imm, .int .i64 kind] 23)), w.alloc (.cells #[.int .i64 5, .int .i64 d, .int .i64 n, .int .i64 m, .int .i64 imm, .int .i64 kind] 23) = x.at := ⟨⟨_, Below.refl _ _⟩, rfl⟩
  rw [hx0]
  clear hx0
  go_wp2
  go_ret
  exact ⟨_, rfl, .inl ⟨rfl, E.out⟩, KB.out _⟩

set_option maxHeartbeats 800000 in
theorem sets_6 (d n m imm kind : Int) (w : World) : Calls Try.prog 15 #[.agg #[.int .i64 6, .int .i64 d, .int .i64 n, .int .i64 m, .int .i64 imm, .int .i64 kind]] w (ToldPost (GrG.toldL (GrG.setsA 6 d)) w) := by
  obtain ⟨a0, a1, a2, a3, a4, a5, kb⟩ := ibox6 w 6 d n m imm kind _ rfl
  have KB := Lib.hid kb
  clear kb
  have E := Lib.hid (show GrG.toldL (GrG.setsA 6 d) = GrG.toldL [d] from rfl)
  go_enter Try.func15, Try.ntmps15
  go_upto_region 1 with fail
  obtain ⟨x0, hx0⟩ : ∃ x : Wb (w.alloc (.cells #[.int .i64 6, .int .i64 d, .int .i64 n, .int .i64 m, .int .i64 imm, .int .i64 kind] 23)), w.alloc (.cells #[.int .i64 6, .int .i64 d, .int .i64 n, .int .i64 m, .int .i64 imm, .int .i64 kind] 23) = x.at := ⟨⟨_, Below.refl _ _⟩, rfl⟩
  rw [hx0]
  clear hx0
  go_wp2_with fail
  refine (told_any _ 1 [d] _ (by simp) (iat_new _ _ _)).mono ?_
  rintro e w1 ⟨v, rfl, hv, b⟩
  obtain ⟨x9, rfl⟩ := Wb.next1 b
  have HV := Lib.hid hv
  clear b hv
  go_wp2
  go_ret
  exact ⟨v, rfl, by rw [E.out]; exact HV.out, KB.out x9⟩

set_option maxHeartbeats 800000 in
theorem sets_7 (d n m imm kind : Int) (w : World) : Calls Try.prog 15 #[.agg #[.int .i64 7, .int .i64 d, .int .i64 n, .int .i64 m, .int .i64 imm, .int .i64 kind]] w (ToldPost (GrG.toldL (GrG.setsA 7 d)) w) := by
  obtain ⟨a0, a1, a2, a3, a4, a5, kb⟩ := ibox6 w 7 d n m imm kind _ rfl
  have KB := Lib.hid kb
  clear kb
  have E := Lib.hid (show GrG.toldL (GrG.setsA 7 d) = GrG.toldL [d] from rfl)
  go_enter Try.func15, Try.ntmps15
  go_upto_region 1 with fail
  obtain ⟨x0, hx0⟩ : ∃ x : Wb (w.alloc (.cells #[.int .i64 7, .int .i64 d, .int .i64 n, .int .i64 m, .int .i64 imm, .int .i64 kind] 23)), w.alloc (.cells #[.int .i64 7, .int .i64 d, .int .i64 n, .int .i64 m, .int .i64 imm, .int .i64 kind] 23) = x.at := ⟨⟨_, Below.refl _ _⟩, rfl⟩
  rw [hx0]
  clear hx0
  go_wp2_with fail
  refine (told_any _ 1 [d] _ (by simp) (iat_new _ _ _)).mono ?_
  rintro e w1 ⟨v, rfl, hv, b⟩
  obtain ⟨x9, rfl⟩ := Wb.next1 b
  have HV := Lib.hid hv
  clear b hv
  go_wp2
  go_ret
  exact ⟨v, rfl, by rw [E.out]; exact HV.out, KB.out x9⟩

set_option maxHeartbeats 800000 in
theorem sets_8 (d n m imm kind : Int) (w : World) : Calls Try.prog 15 #[.agg #[.int .i64 8, .int .i64 d, .int .i64 n, .int .i64 m, .int .i64 imm, .int .i64 kind]] w (ToldPost (GrG.toldL (GrG.setsA 8 d)) w) := by
  obtain ⟨a0, a1, a2, a3, a4, a5, kb⟩ := ibox6 w 8 d n m imm kind _ rfl
  have KB := Lib.hid kb
  clear kb
  have E := Lib.hid (show GrG.toldL (GrG.setsA 8 d) = GrG.toldL [d] from rfl)
  go_enter Try.func15, Try.ntmps15
  go_upto_region 1 with fail
  obtain ⟨x0, hx0⟩ : ∃ x : Wb (w.alloc (.cells #[.int .i64 8, .int .i64 d, .int .i64 n, .int .i64 m, .int .i64 imm, .int .i64 kind] 23)), w.alloc (.cells #[.int .i64 8, .int .i64 d, .int .i64 n, .int .i64 m, .int .i64 imm, .int .i64 kind] 23) = x.at := ⟨⟨_, Below.refl _ _⟩, rfl⟩
  rw [hx0]
  clear hx0
  go_wp2_with fail
  refine (told_any _ 1 [d] _ (by simp) (iat_new _ _ _)).mono ?_
  rintro e w1 ⟨v, rfl, hv, b⟩
  obtain ⟨x9, rfl⟩ := Wb.next1 b
  have HV := Lib.hid hv
  clear b hv
  go_wp2
  go_ret
  exact ⟨v, rfl, by rw [E.out]; exact HV.out, KB.out x9⟩

set_option maxHeartbeats 800000 in
theorem sets_9 (d n m imm kind : Int) (w : World) : Calls Try.prog 15 #[.agg #[.int .i64 9, .int .i64 d, .int .i64 n, .int .i64 m, .int .i64 imm, .int .i64 kind]] w (ToldPost (GrG.toldL (GrG.setsA 9 d)) w) := by
  obtain ⟨a0, a1, a2, a3, a4, a5, kb⟩ := ibox6 w 9 d n m imm kind _ rfl
  have KB := Lib.hid kb
  clear kb
  have E := Lib.hid (show GrG.toldL (GrG.setsA 9 d) = GrG.toldL [d] from rfl)
  go_enter Try.func15, Try.ntmps15
  go_upto_region 1 with fail
  obtain ⟨x0, hx0⟩ : ∃ x : Wb (w.alloc (.cells #[.int .i64 9, .int .i64 d, .int .i64 n, .int .i64 m, .int .i64 imm, .int .i64 kind] 23)), w.alloc (.cells #[.int .i64 9, .int .i64 d, .int .i64 n, .int .i64 m, .int .i64 imm, .int .i64 kind] 23) = x.at := ⟨⟨_, Below.refl _ _⟩, rfl⟩
  rw [hx0]
  clear hx0
  go_wp2_with fail
  refine (told_any _ 1 [d] _ (by simp) (iat_new _ _ _)).mono ?_
  rintro e w1 ⟨v, rfl, hv, b⟩
  obtain ⟨x9, rfl⟩ := Wb.next1 b
  have HV := Lib.hid hv
  clear b hv
  go_wp2
  go_ret
  exact ⟨v, rfl, by rw [E.out]; exact HV.out, KB.out x9⟩

set_option maxHeartbeats 800000 in
theorem sets_10 (d n m imm kind : Int) (w : World) : Calls Try.prog 15 #[.agg #[.int .i64 10, .int .i64 d, .int .i64 n, .int .i64 m, .int .i64 imm, .int .i64 kind]] w (ToldPost (GrG.toldL (GrG.setsA 10 d)) w) := by
  obtain ⟨a0, a1, a2, a3, a4, a5, kb⟩ := ibox6 w 10 d n m imm kind _ rfl
  have KB := Lib.hid kb
  clear kb
  have E := Lib.hid (show GrG.toldL (GrG.setsA 10 d) = GrG.toldL [d] from rfl)
  go_enter Try.func15, Try.ntmps15
  go_upto_region 1 with fail
  obtain ⟨x0, hx0⟩ : ∃ x : Wb (w.alloc (.cells #[.int .i64 10, .int .i64 d, .int .i64 n, .int .i64 m, .int .i64 imm, .int .i64 kind] 23)), w.alloc (.cells #[.int .i64 10, .int .i64 d, .int .i64 n, .int .i64 m, .int .i64 imm, .int .i64 kind] 23) = x.at := ⟨⟨_, Below.refl _ _⟩, rfl⟩
  rw [hx0]
  clear hx0
  go_wp2_with fail
  refine (told_any _ 1 [d] _ (by simp) (iat_new _ _ _)).mono ?_
  rintro e w1 ⟨v, rfl, hv, b⟩
  obtain ⟨x9, rfl⟩ := Wb.next1 b
  have HV := Lib.hid hv
  clear b hv
  go_wp2
  go_ret
  exact ⟨v, rfl, by rw [E.out]; exact HV.out, KB.out x9⟩

set_option maxHeartbeats 800000 in
theorem sets_11 (d n m imm kind : Int) (w : World) : Calls Try.prog 15 #[.agg #[.int .i64 11, .int .i64 d, .int .i64 n, .int .i64 m, .int .i64 imm, .int .i64 kind]] w (ToldPost (GrG.toldL (GrG.setsA 11 d)) w) := by
  obtain ⟨a0, a1, a2, a3, a4, a5, kb⟩ := ibox6 w 11 d n m imm kind _ rfl
  have KB := Lib.hid kb
  clear kb
  have E := Lib.hid (show GrG.toldL (GrG.setsA 11 d) = GrG.toldL [d] from rfl)
  go_enter Try.func15, Try.ntmps15
  go_upto_region 1 with fail
  obtain ⟨x0, hx0⟩ : ∃ x : Wb (w.alloc (.cells #[.int .i64 11, .int .i64 d, .int .i64 n, .int .i64 m, .int .i64 imm, .int .i64 kind] 23)), w.alloc (.cells #[.int .i64 11, .int .i64 d, .int .i64 n, .int .i64 m, .int .i64 imm, .int .i64 kind] 23) = x.at := ⟨⟨_, Below.refl _ _⟩, rfl⟩
  rw [hx0]
  clear hx0
  go_wp2_with fail
  refine (told_any _ 1 [d] _ (by simp) (iat_new _ _ _)).mono ?_
  rintro e w1 ⟨v, rfl, hv, b⟩
  obtain ⟨x9, rfl⟩ := Wb.next1 b
  have HV := Lib.hid hv
  clear b hv
  go_wp2
  go_ret
  exact ⟨v, rfl, by rw [E.out]; exact HV.out, KB.out x9⟩

set_option maxHeartbeats 800000 in
theorem sets_12 (d n m imm kind : Int) (w : World) : Calls Try.prog 15 #[.agg #[.int .i64 12, .int .i64 d, .int .i64 n, .int .i64 m, .int .i64 imm, .int .i64 kind]] w (ToldPost (GrG.toldL (GrG.setsA 12 d)) w) := by
  obtain ⟨a0, a1, a2, a3, a4, a5, kb⟩ := ibox6 w 12 d n m imm kind _ rfl
  have KB := Lib.hid kb
  clear kb
  have E := Lib.hid (show GrG.toldL (GrG.setsA 12 d) = GrG.toldL [d] from rfl)
  go_enter Try.func15, Try.ntmps15
  go_upto_region 1 with fail
  obtain ⟨x0, hx0⟩ : ∃ x : Wb (w.alloc (.cells #[.int .i64 12, .int .i64 d, .int .i64 n, .int .i64 m, .int .i64 imm, .int .i64 kind] 23)), w.alloc (.cells #[.int .i64 12, .int .i64 d, .int .i64 n, .int .i64 m, .int .i64 imm, .int .i64 kind] 23) = x.at := ⟨⟨_, Below.refl _ _⟩, rfl⟩
  rw [hx0]
  clear hx0
  go_wp2_with fail
  refine (told_any _ 1 [d] _ (by simp) (iat_new _ _ _)).mono ?_
  rintro e w1 ⟨v, rfl, hv, b⟩
  obtain ⟨x9, rfl⟩ := Wb.next1 b
  have HV := Lib.hid hv
  clear b hv
  go_wp2
  go_ret
  exact ⟨v, rfl, by rw [E.out]; exact HV.out, KB.out x9⟩

set_option maxHeartbeats 800000 in
theorem sets_13 (d n m imm kind : Int) (w : World) : Calls Try.prog 15 #[.agg #[.int .i64 13, .int .i64 d, .int .i64 n, .int .i64 m, .int .i64 imm, .int .i64 kind]] w (ToldPost (GrG.toldL (GrG.setsA 13 d)) w) := by
  obtain ⟨a0, a1, a2, a3, a4, a5, kb⟩ := ibox6 w 13 d n m imm kind _ rfl
  have KB := Lib.hid kb
  clear kb
  have E := Lib.hid (show GrG.toldL (GrG.setsA 13 d) = GrG.toldL [d, 32] from rfl)
  go_enter Try.func15, Try.ntmps15
  go_upto_region 1 with fail
  obtain ⟨x0, hx0⟩ : ∃ x : Wb (w.alloc (.cells #[.int .i64 13, .int .i64 d, .int .i64 n, .int .i64 m, .int .i64 imm, .int .i64 kind] 23)), w.alloc (.cells #[.int .i64 13, .int .i64 d, .int .i64 n, .int .i64 m, .int .i64 imm, .int .i64 kind] 23) = x.at := ⟨⟨_, Below.refl _ _⟩, rfl⟩
  rw [hx0]
  clear hx0
  go_wp2_with fail
  refine (told_any _ 2 [d, 32] _ (by simp) (iat_new _ _ _)).mono ?_
  rintro e w1 ⟨v, rfl, hv, b⟩
  obtain ⟨x9, rfl⟩ := Wb.next1 b
  have HV := Lib.hid hv
  clear b hv
  go_wp2
  go_ret
  exact ⟨v, rfl, by rw [E.out]; exact HV.out, KB.out x9⟩

set_option maxHeartbeats 800000 in
theorem sets_14 (d n m imm kind : Int) (w : World) : Calls Try.prog 15 #[.agg #[.int .i64 14, .int .i64 d, .int .i64 n, .int .i64 m, .int .i64 imm, .int .i64 kind]] w (ToldPost (GrG.toldL (GrG.setsA 14 d)) w) := by
  obtain ⟨a0, a1, a2, a3, a4, a5, kb⟩ := ibox6 w 14 d n m imm kind _ rfl
  have KB := Lib.hid kb
  clear kb
  have E := Lib.hid (show GrG.toldL (GrG.setsA 14 d) = [] from rfl)
  go_enter Try.func15, Try.ntmps15
  go_upto_region 1 with fail
  obtain ⟨x0, hx0⟩ : ∃ x : Wb (w.alloc (.cells #[.int .i64 14, .int .i64 d, .int .i64 n, .int .i64 m, .int .i64 imm, .int .i64 kind] 23)), w.alloc (.cells #[.int .i64 14, .int .i64 d, .int .i64 n, .int .i64 m, .int .i64 imm, .int .i64 kind] 23) = x.at := ⟨⟨_, Below.refl _ _⟩, rfl⟩
  rw [hx0]
  clear hx0
  go_wp2
  go_ret
  exact ⟨_, rfl, .inl ⟨rfl, E.out⟩, KB.out _⟩

set_option maxHeartbeats 800000 in
theorem sets_15 (d n m imm kind : Int) (w : World) : Calls Try.prog 15 #[.agg #[.int .i64 15, .int .i64 d, .int .i64 n, .int .i64 m, .int .i64 imm, .int .i64 kind]] w (ToldPost (GrG.toldL (GrG.setsA 15 d)) w) := by
  obtain ⟨a0, a1, a2, a3, a4, a5, kb⟩ := ibox6 w 15 d n m imm kind _ rfl
  have KB := Lib.hid kb
  clear kb
  have E := Lib.hid (show GrG.toldL (GrG.setsA 15 d) = [] from rfl)
  go_enter Try.func15, Try.ntmps15
  go_upto_region 1 with fail
  obtain ⟨x0, hx0⟩ : ∃ x : Wb (w.alloc (.cells #[.int .i64 15, .int .i64 d, .int .i64 n, .int .i64 m, .int .i64 imm, .int .i64 kind] 23)), w.alloc (.cells #[.int .i64 15, .int .i64 d, .int .i64 n, .int .i64 m, .int .i64 imm, .int .i64 kind] 23) = x.at := ⟨⟨_, Below.refl _ _⟩, rfl⟩
  rw [hx0]
  clear hx0
  go_wp2
  go_ret
  exact ⟨_, rfl, .inl ⟨rfl, E.out⟩, KB.out _⟩

set_option maxHeartbeats 800000 in
theorem sets_16 (d n m imm kind : Int) (w : World) : Calls Try.prog 15 #[.agg #[.int .i64 16, .int .i64 d, .int .i64 n, .int .i64 m, .int .i64 imm, .int .i64 kind]] w (ToldPost (GrG.toldL (GrG.setsA 16 d)) w) := by
  obtain ⟨a0, a1, a2, a3, a4, a5, kb⟩ := ibox6 w 16 d n m imm kind _ rfl
  have KB := Lib.hid kb
  clear kb
  have E := Lib.hid (show GrG.toldL (GrG.setsA 16 d) = [] from rfl)
  go_enter Try.func15, Try.ntmps15
  go_upto_region 1 with fail
  obtain ⟨x0, hx0⟩ : ∃ x : Wb (w.alloc (.cells #[.int .i64 16, .int .i64 d, .int .i64 n, .int .i64 m, .int .i64 imm, .int .i64 kind] 23)), w.alloc (.cells #[.int .i64 16, .int .i64 d, .int .i64 n, .int .i64 m, .int .i64 imm, .int .i64 kind] 23) = x.at := ⟨⟨_, Below.refl _ _⟩, rfl⟩
  rw [hx0]
  clear hx0
  go_wp2
  go_ret
  exact ⟨_, rfl, .inl ⟨rfl, E.out⟩, KB.out _⟩

set_option maxHeartbeats 800000 in
theorem sets_17 (d n m imm kind : Int) (w : World) : Calls Try.prog 15 #[.agg #[.int .i64 17, .int .i64 d, .int .i64 n, .int .i64 m, .int .i64 imm, .int .i64 kind]] w (ToldPost (GrG.toldL (GrG.setsA 17 d)) w) := by
  obtain ⟨a0, a1, a2, a3, a4, a5, kb⟩ := ibox6 w 17 d n m imm kind _ rfl
  have KB := Lib.hid kb
  clear kb
  have E := Lib.hid (show GrG.toldL (GrG.setsA 17 d) = [] from rfl)
  go_enter Try.func15, Try.ntmps15
  go_upto_region 1 with fail
  obtain ⟨x0, hx0⟩ : ∃ x : Wb (w.alloc (.cells #[.int .i64 17, .int .i64 d, .int .i64 n, .int .i64 m, .int .i64 imm, .int .i64 kind] 23)), w.alloc (.cells #[.int .i64 17, .int .i64 d, .int .i64 n, .int .i64 m, .int .i64 imm, .int .i64 kind] 23) = x.at := ⟨⟨_, Below.refl _ _⟩, rfl⟩
  rw [hx0]
  clear hx0
  go_wp2
  go_ret
  exact ⟨_, rfl, .inl ⟨rfl, E.out⟩, KB.out _⟩

set_option maxHeartbeats 800000 in
theorem sets_18 (d n m imm kind : Int) (w : World) : Calls Try.prog 15 #[.agg #[.int .i64 18, .int .i64 d, .int .i64 n, .int .i64 m, .int .i64 imm, .int .i64 kind]] w (ToldPost (GrG.toldL (GrG.setsA 18 d)) w) := by
  obtain ⟨a0, a1, a2, a3, a4, a5, kb⟩ := ibox6 w 18 d n m imm kind _ rfl
  have KB := Lib.hid kb
  clear kb
  have E := Lib.hid (show GrG.toldL (GrG.setsA 18 d) = [] from rfl)
  go_enter Try.func15, Try.ntmps15
  go_upto_region 1 with fail
  obtain ⟨x0, hx0⟩ : ∃ x : Wb (w.alloc (.cells #[.int .i64 18, .int .i64 d, .int .i64 n, .int .i64 m, .int .i64 imm, .int .i64 kind] 23)), w.alloc (.cells #[.int .i64 18, .int .i64 d, .int .i64 n, .int .i64 m, .int .i64 imm, .int .i64 kind] 23) = x.at := ⟨⟨_, Below.refl _ _⟩, rfl⟩
  rw [hx0]
  clear hx0
  go_wp2
  go_ret
  exact ⟨_, rfl, .inl ⟨rfl, E.out⟩, KB.out _⟩

set_option maxHeartbeats 800000 in
theorem sets_19 (d n m imm kind : Int) (w : World) : Calls Try.prog 15 #[.agg #[.int .i64 19, .int .i64 d, .int .i64 n, .int .i64 m, .int .i64 imm, .int .i64 kind]] w (ToldPost (GrG.toldL (GrG.setsA 19 d)) w) := by
  obtain ⟨a0, a1, a2, a3, a4, a5, kb⟩ := ibox6 w 19 d n m imm kind _ rfl
  have KB := Lib.hid kb
  clear kb
  have E := Lib.hid (show GrG.toldL (GrG.setsA 19 d) = [] from rfl)
  go_enter Try.func15, Try.ntmps15
  go_upto_region 1 with fail
  obtain ⟨x0, hx0⟩ : ∃ x : Wb (w.alloc (.cells #[.int .i64 19, .int .i64 d, .int .i64 n, .int .i64 m, .int .i64 imm, .int .i64 kind] 23)), w.alloc (.cells #[.int .i64 19, .int .i64 d, .int .i64 n, .int .i64 m, .int .i64 imm, .int .i64 kind] 23) = x.at := ⟨⟨_, Below.refl _ _⟩, rfl⟩
  rw [hx0]
  clear hx0
  go_wp2
  go_ret
  exact ⟨_, rfl, .inl ⟨rfl, E.out⟩, KB.out _⟩

set_option maxHeartbeats 800000 in
theorem sets_20 (d n m imm kind : Int) (w : World) : Calls Try.prog 15 #[.agg #[.int .i64 20, .int .i64 d, .int .i64 n, .int .i64 m, .int .i64 imm, .int .i64 kind]] w (ToldPost (GrG.toldL (GrG.setsA 20 d)) w) := by
  obtain ⟨a0, a1, a2, a3, a4, a5, kb⟩ := ibox6 w 20 d n m imm kind _ rfl
  have KB := Lib.hid kb
  clear kb
  have E := Lib.hid (show GrG.toldL (GrG.setsA 20 d) = [] from rfl)
  go_enter Try.func15, Try.ntmps15
  go_upto_region 1 with fail
  obtain ⟨x0, hx0⟩ : ∃ x : Wb (w.alloc (.cells #[.int .i64 20, .int .i64 d, .int .i64 n, .int .i64 m, .int .i64 imm, .int .i64 kind] 23)), w.alloc (.cells #[.int .i64 20, .int .i64 d, .int .i64 n, .int .i64 m, .int .i64 imm, .int .i64 kind] 23) = x.at := ⟨⟨_, Below.refl _ _⟩, rfl⟩
  rw [hx0]
  clear hx0
  go_wp2
  go_ret
  exact ⟨_, rfl, .inl ⟨rfl, E.out⟩, KB.out _⟩

set_option maxHeartbeats 800000 in
theorem sets_21 (d n m imm kind : Int) (w : World) : Calls Try.prog 15 #[.agg #[.int .i64 21, .int .i64 d, .int .i64 n, .int .i64 m, .int .i64 imm, .int .i64 kind]] w (ToldPost (GrG.toldL (GrG.setsA 21 d)) w) := by
  obtain ⟨a0, a1, a2, a3, a4, a5, kb⟩ := ibox6 w 21 d n m imm kind _ rfl
  have KB := Lib.hid kb
  clear kb
  have E := Lib.hid (show GrG.toldL (GrG.setsA 21 d) = [] from rfl)
  go_enter Try.func15, Try.ntmps15
  go_upto_region 1 with fail
  obtain ⟨x0, hx0⟩ : ∃ x : Wb (w.alloc (.cells #[.int .i64 21, .int .i64 d, .int .i64 n, .int .i64 m, .int .i64 imm, .int .i64 kind] 23)), w.alloc (.cells #[.int .i64 21, .int .i64 d, .int .i64 n, .int .i64 m, .int .i64 imm, .int .i64 kind] 23) = x.at := ⟨⟨_, Below.refl _ _⟩, rfl⟩
  rw [hx0]
  clear hx0
  go_wp2
  go_ret
  exact ⟨_, rfl, .inl ⟨rfl, E.out⟩, KB.out _⟩

set_option maxHeartbeats 800000 in
theorem sets_22 (d n m imm kind : Int) (w : World) : Calls Try.prog 15 #[.agg #[.int .i64 22, .int .i64 d, .int .i64 n, .int .i64 m, .int .i64 imm, .int .i64 kind]] w (ToldPost (GrG.toldL (GrG.setsA 22 d)) w) := by
  obtain ⟨a0, a1, a2, a3, a4, a5, kb⟩ := ibox6 w 22 d n m imm kind _ rfl
  have KB := Lib.hid kb
  clear kb
  have E := Lib.hid (show GrG.toldL (GrG.setsA 22 d) = [] from rfl)
  go_enter Try.func15, Try.ntmps15
  go_upto_region 1 with fail
  obtain ⟨x0, hx0⟩ : ∃ x : Wb (w.alloc (.cells #[.int .i64 22, .int .i64 d, .int .i64 n, .int .i64 m, .int .i64 imm, .int .i64 kind] 23)), w.alloc (.cells #[.int .i64 22, .int .i64 d, .int .i64 n, .int .i64 m, .int .i64 imm, .int .i64 kind] 23) = x.at := ⟨⟨_, Below.refl _ _⟩, rfl⟩
  rw [hx0]
  clear hx0
  go_wp2
  go_ret
  exact ⟨_, rfl, .inl ⟨rfl, E.out⟩, KB.out _⟩

set_option maxHeartbeats 800000 in
theorem sets_23 (d n m imm kind : Int) (w : World) : Calls Try.prog 15 #[.agg #[.int .i64 23, .int .i64 d, .int .i64 n, .int .i64 m, .int .i64 imm, .int .i64 kind]] w (ToldPost (GrG.toldL (GrG.setsA 23 d)) w) := by
  obtain ⟨a0, a1, a2, a3, a4, a5, kb⟩ := ibox6 w 23 d n m imm kind _ rfl
  have KB := Lib.hid kb
  clear kb
  have E := Lib.hid (show GrG.toldL (GrG.setsA 23 d) = GrG.toldL [d] from rfl)
  go_enter Try.func15, Try.ntmps15
  go_upto_region 1 with fail
  obtain ⟨x0, hx0⟩ : ∃ x : Wb (w.alloc (.cells #[.int .i64 23, .int .i64 d, .int .i64 n, .int .i64 m, .int .i64 imm, .int .i64 kind] 23)), w.alloc (.cells #[.int .i64 23, .int .i64 d, .int .i64 n, .int .i64 m, .int .i64 imm, .int .i64 kind] 23) = x.at := ⟨⟨_, Below.refl _ _⟩, rfl⟩
  rw [hx0]
  clear hx0
  go_wp2_with fail
  refine (told_any _ 1 [d] _ (by simp) (iat_new _ _ _)).mono ?_
  rintro e w1 ⟨v, rfl, hv, b⟩
  obtain ⟨x9, rfl⟩ := Wb.next1 b
  have HV := Lib.hid hv
  clear b hv
  go_wp2
  go_ret
  exact ⟨v, rfl, by rw [E.out]; exact HV.out, KB.out x9⟩

theorem sets_any (op d n m imm kind : Int) (w : World) (ho : op = 1 ∨ op = 2 ∨ op = 3 ∨ op = 4 ∨ op = 5 ∨ op = 6 ∨ op = 7 ∨ op = 8 ∨ op = 9 ∨ op = 10 ∨ op = 11 ∨ op = 12 ∨ op = 13 ∨ op = 14 ∨ op = 15 ∨ op = 16 ∨ op = 17 ∨ op = 18 ∨ op = 19 ∨ op = 20 ∨ op = 21 ∨ op = 22 ∨ op = 23) : Calls Try.prog 15 #[.agg #[.int .i64 op, .int .i64 d, .int .i64 n, .int .i64 m, .int .i64 imm, .int .i64 kind]] w (ToldPost (GrG.toldL (GrG.setsA op d)) w) := by
  rcases ho with rfl | rfl | rfl | rfl | rfl | rfl | rfl | rfl | rfl | rfl | rfl | rfl | rfl | rfl | rfl | rfl | rfl | rfl | rfl | rfl | rfl | rfl | rfl
  · exact sets_1 d n m imm kind w
  · exact sets_2 d n m imm kind w
  · exact sets_3 d n m imm kind w
  · exact sets_4 d n m imm kind w
  · exact sets_5 d n m imm kind w
  · exact sets_6 d n m imm kind w
  · exact sets_7 d n m imm kind w
  · exact sets_8 d n m imm kind w
  · exact sets_9 d n m imm kind w
  · exact sets_10 d n m imm kind w
  · exact sets_11 d n m imm kind w
  · exact sets_12 d n m imm kind w
  · exact sets_13 d n m imm kind w
  · exact sets_14 d n m imm kind w
  · exact sets_15 d n m imm kind w
  · exact sets_16 d n m imm kind w
  · exact sets_17 d n m imm kind w
  · exact sets_18 d n m imm kind w
  · exact sets_19 d n m imm kind w
  · exact sets_20 d n m imm kind w
  · exact sets_21 d n m imm kind w
  · exact sets_22 d n m imm kind w
  · exact sets_23 d n m imm kind w

set_option maxHeartbeats 800000 in
theorem psets_1 (d n m imm kind : Int) (w : World) : Calls Try.prog 16 #[.agg #[.int .i64 1, .int .i64 d, .int .i64 n, .int .i64 m, .int .i64 imm, .int .i64 kind]] w (ToldPost (GrG.no31L (GrG.setsA 1 d)) w) := by
  obtain ⟨a0, a1, a2, a3, a4, a5, kb⟩ := ibox6 w 1 d n m imm kind _ rfl
  have KB := Lib.hid kb
  clear kb
  have E := Lib.hid (show GrG.no31L (GrG.setsA 1 d) = [] from rfl)
  have f1 : GrG.loadB 1 = false := rfl
  have f2 : GrG.storeB 1 = false := rfl
  go_enter Try.func16, Try.ntmps16
  go_upto_region 1 with fail
  obtain ⟨x0, hx0⟩ : ∃ x : Wb (w.alloc (.cells #[.int .i64 1, .int .i64 d, .int .i64 n, .int .i64 m, .int .i64 imm, .int .i64 kind] 23)), w.alloc (.cells #[.int .i64 1, .int .i64 d, .int .i64 n, .int .i64 m, .int .i64 imm, .int .i64 kind] 23) = x.at := ⟨⟨_, Below.refl _ _⟩, rfl⟩
  rw [hx0]
  clear hx0
  go_wp2_with fail
  refine (pload_any 1 d n m imm kind _).mono ?_
  rintro e w1 ⟨rfl, b⟩
  obtain ⟨x1, rfl⟩ := (Wb.next b)
  clear b
  go_wp2_with fail
  refine (is_below 1 _ 8 [6, 7, 8, 9, 10, 11, 12, 23] _ (by decide) (iat_new _ _ _)).mono ?_
  rintro e w1 ⟨rfl, b⟩
  obtain ⟨x2, rfl⟩ := (Wb.next1 b)
  clear b
  go_wp2
  go_ret
  exact ⟨_, rfl, .inl ⟨rfl, E.out⟩, KB.out _⟩

set_option maxHeartbeats 800000 in
theorem psets_2 (d n m imm kind : Int) (w : World) : Calls Try.prog 16 #[.agg #[.int .i64 2, .int .i64 d, .int .i64 n, .int .i64 m, .int .i64 imm, .int .i64 kind]] w (ToldPost (GrG.no31L (GrG.setsA 2 d)) w) := by
  obtain ⟨a0, a1, a2, a3, a4, a5, kb⟩ := ibox6 w 2 d n m imm kind _ rfl
  have KB := Lib.hid kb
  clear kb
  have E := Lib.hid (show GrG.no31L (GrG.setsA 2 d) = GrG.no31L [d] from rfl)
  have f1 : GrG.loadB 2 = true := rfl
  have f2 : GrG.storeB 2 = false := rfl
  go_enter Try.func16, Try.ntmps16
  go_upto_region 1 with fail
  obtain ⟨x0, hx0⟩ : ∃ x : Wb (w.alloc (.cells #[.int .i64 2, .int .i64 d, .int .i64 n, .int .i64 m, .int .i64 imm, .int .i64 kind] 23)), w.alloc (.cells #[.int .i64 2, .int .i64 d, .int .i64 n, .int .i64 m, .int .i64 imm, .int .i64 kind] 23) = x.at := ⟨⟨_, Below.refl _ _⟩, rfl⟩
  rw [hx0]
  clear hx0
  go_wp2_with fail
  refine (pload_any 2 d n m imm kind _).mono ?_
  rintro e w1 ⟨rfl, b⟩
  obtain ⟨x1, rfl⟩ := (Wb.next b)
  clear b
  go_wp2_with fail
  refine (no31_any _ 1 [d] _ (by simp) (iat_new _ _ _)).mono ?_
  rintro e w1 ⟨v, rfl, hv, b⟩
  obtain ⟨x9, rfl⟩ := Wb.next1 b
  have HV := Lib.hid hv
  clear b hv
  go_wp2
  go_ret
  exact ⟨v, rfl, by rw [E.out]; exact HV.out, KB.out x9⟩

set_option maxHeartbeats 800000 in
theorem psets_3 (d n m imm kind : Int) (w : World) : Calls Try.prog 16 #[.agg #[.int .i64 3, .int .i64 d, .int .i64 n, .int .i64 m, .int .i64 imm, .int .i64 kind]] w (ToldPost (GrG.no31L (GrG.setsA 3 d)) w) := by
  obtain ⟨a0, a1, a2, a3, a4, a5, kb⟩ := ibox6 w 3 d n m imm kind _ rfl
  have KB := Lib.hid kb
  clear kb
  have E := Lib.hid (show GrG.no31L (GrG.setsA 3 d) = [] from rfl)
  have f1 : GrG.loadB 3 = false := rfl
  have f2 : GrG.storeB 3 = true := rfl
  go_enter Try.func16, Try.ntmps16
  go_upto_region 1 with fail
  obtain ⟨x0, hx0⟩ : ∃ x : Wb (w.alloc (.cells #[.int .i64 3, .int .i64 d, .int .i64 n, .int .i64 m, .int .i64 imm, .int .i64 kind] 23)), w.alloc (.cells #[.int .i64 3, .int .i64 d, .int .i64 n, .int .i64 m, .int .i64 imm, .int .i64 kind] 23) = x.at := ⟨⟨_, Below.refl _ _⟩, rfl⟩
  rw [hx0]
  clear hx0
  go_wp2_with fail
  refine (pload_any 3 d n m imm kind _).mono ?_
  rintro e w1 ⟨rfl, b⟩
  obtain ⟨x1, rfl⟩ := (Wb.next b)
  clear b
  go_wp2_with fail
  refine (is_below 3 _ 8 [6, 7, 8, 9, 10, 11, 12, 23] _ (by decide) (iat_new _ _ _)).mono ?_
  rintro e w1 ⟨rfl, b⟩
  obtain ⟨x2, rfl⟩ := (Wb.next1 b)
  clear b
  go_wp2
  go_ret
  exact ⟨_, rfl, .inl ⟨rfl, E.out⟩, KB.out _⟩

set_option maxHeartbeats 800000 in
theorem psets_4 (d n m imm kind : Int) (w : World) : Calls Try.prog 16 #[.agg #[.int .i64 4, .int .i64 d, .int .i64 n, .int .i64 m, .int .i64 imm, .int .i64 kind]] w (ToldPost (GrG.no31L (GrG.setsA 4 d)) w) := by
  obtain ⟨a0, a1, a2, a3, a4, a5, kb⟩ := ibox6 w 4 d n m imm kind _ rfl
  have KB := Lib.hid kb
  clear kb
  have E := Lib.hid (show GrG.no31L (GrG.setsA 4 d) = GrG.no31L [d] from rfl)
  have f1 : GrG.loadB 4 = true := rfl
  have f2 : GrG.storeB 4 = false := rfl
  go_enter Try.func16, Try.ntmps16
  go_upto_region 1 with fail
  obtain ⟨x0, hx0⟩ : ∃ x : Wb (w.alloc (.cells #[.int .i64 4, .int .i64 d, .int .i64 n, .int .i64 m, .int .i64 imm, .int .i64 kind] 23)), w.alloc (.cells #[.int .i64 4, .int .i64 d, .int .i64 n, .int .i64 m, .int .i64 imm, .int .i64 kind] 23) = x.at := ⟨⟨_, Below.refl _ _⟩, rfl⟩
  rw [hx0]
  clear hx0
  go_wp2_with fail
  refine (pload_any 4 d n m imm kind _).mono ?_
  rintro e w1 ⟨rfl, b⟩
  obtain ⟨x1, rfl⟩ := (Wb.next b)
  clear b
  go_wp2_with fail
  refine (no31_any _ 1 [d] _ (by simp) (iat_new _ _ _)).mono ?_
  rintro e w1 ⟨v, rfl, hv, b⟩
  obtain ⟨x9, rfl⟩ := Wb.next1 b
  have HV := Lib.hid hv
  clear b hv
  go_wp2
  go_ret
  exact ⟨v, rfl, by rw [E.out]; exact HV.out, KB.out x9⟩

set_option maxHeartbeats 800000 in
theorem psets_5 (d n m imm kind : Int) (w : World) : Calls Try.prog 16 #[.agg #[.int .i64 5, .int .i64 d, .int .i64 n, .int .i64 m, .int .i64 imm, .int .i64 kind]] w (ToldPost (GrG.no31L (GrG.setsA 5 d)) w) := by
  obtain ⟨a0, a1, a2, a3, a4, a5, kb⟩ := ibox6 w 5 d n m imm kind _ rfl
  have KB := Lib.hid kb
  clear kb
  have E := Lib.hid (show GrG.no31L (GrG.setsA 5 d) = [] from rfl)
  have f1 : GrG.loadB 5 = false := rfl
  have f2 : GrG.storeB 5 = true := rfl
  go_enter Try.func16, Try.ntmps16
  go_upto_region 1 with fail
  obtain ⟨x0, hx0⟩ : ∃ x : Wb (w.alloc (.cells #[.int .i64 5, .int .i64 d, .int .i64 n, .int .i64 m, .int .i64 imm, .int .i64 kind] 23)), w.alloc (.cells #[.int .i64 5, .int .i64 d, .int .i64 n, .int .i64 m, .int .i64 imm, .int .i64 kind] 23) = x.at := ⟨⟨_, Below.refl _ _⟩, rfl⟩
  rw [hx0]
  clear hx0
  go_wp2_with fail
  refine (pload_any 5 d n m imm kind _).mono ?_
  rintro e w1 ⟨rfl, b⟩
  obtain ⟨x1, rfl⟩ := (Wb.next b)
  clear b
  go_wp2_with fail
  refine (is_below 5 _ 8 [6, 7, 8, 9, 10, 11, 12, 23] _ (by decide) (iat_new _ _ _)).mono ?_
  rintro e w1 ⟨rfl, b⟩
  obtain ⟨x2, rfl⟩ := (Wb.next1 b)
  clear b
  go_wp2
  go_ret
  exact ⟨_, rfl, .inl ⟨rfl, E.out⟩, KB.out _⟩

set_option maxHeartbeats 800000 in
theorem psets_6 (d n m imm kind : Int) (w : World) : Calls Try.prog 16 #[.agg #[.int .i64 6, .int .i64 d, .int .i64 n, .int .i64 m, .int .i64 imm, .int .i64 kind]] w (ToldPost (GrG.no31L (GrG.setsA 6 d)) w) := by
  obtain ⟨a0, a1, a2, a3, a4, a5, kb⟩ := ibox6 w 6 d n m imm kind _ rfl
  have KB := Lib.hid kb
  clear kb
  have E := Lib.hid (show GrG.no31L (GrG.setsA 6 d) = GrG.no31L [d] from rfl)
  have f1 : GrG.loadB 6 = false := rfl
  have f2 : GrG.storeB 6 = false := rfl
  go_enter Try.func16, Try.ntmps16
  go_upto_region 1 with fail
  obtain ⟨x0, hx0⟩ : ∃ x : Wb (w.alloc (.cells #[.int .i64 6, .int .i64 d, .int .i64 n, .int .i64 m, .int .i64 imm, .int .i64 kind] 23)), w.alloc (.cells #[.int .i64 6, .int .i64 d, .int .i64 n, .int .i64 m, .int .i64 imm, .int .i64 kind] 23) = x.at := ⟨⟨_, Below.refl _ _⟩, rfl⟩
  rw [hx0]
  clear hx0
  go_wp2_with fail
  refine (pload_any 6 d n m imm kind _).mono ?_
  rintro e w1 ⟨rfl, b⟩
  obtain ⟨x1, rfl⟩ := (Wb.next b)
  clear b
  go_wp2_with fail
  refine (is_below 6 _ 8 [6, 7, 8, 9, 10, 11, 12, 23] _ (by decide) (iat_new _ _ _)).mono ?_
  rintro e w1 ⟨rfl, b⟩
  obtain ⟨x2, rfl⟩ := (Wb.next1 b)
  clear b
  go_wp2_with fail
  refine (no31_any _ 1 [d] _ (by simp) (iat_new _ _ _)).mono ?_
  rintro e w1 ⟨v, rfl, hv, b⟩
  obtain ⟨x9, rfl⟩ := Wb.next1 b
  have HV := Lib.hid hv
  clear b hv
  go_wp2
  go_ret
  exact ⟨v, rfl, by rw [E.out]; exact HV.out, KB.out x9⟩

set_option maxHeartbeats 800000 in
theorem psets_7 (d n m imm kind : Int) (w : World) : Calls Try.prog 16 #[.agg #[.int .i64 7, .int .i64 d, .int .i64 n, .int .i64 m, .int .i64 imm, .int .i64 kind]] w (ToldPost (GrG.no31L (GrG.setsA 7 d)) w) := by
  obtain ⟨a0, a1, a2, a3, a4, a5, kb⟩ := ibox6 w 7 d n m imm kind _ rfl
  have KB := Lib.hid kb
  clear kb
  have E := Lib.hid (show GrG.no31L (GrG.setsA 7 d) = GrG.no31L [d] from rfl)
  have f1 : GrG.loadB 7 = false := rfl
  have f2 : GrG.storeB 7 = false := rfl
  go_enter Try.func16, Try.ntmps16
  go_upto_region 1 with fail
  obtain ⟨x0, hx0⟩ : ∃ x : Wb (w.alloc (.cells #[.int .i64 7, .int .i64 d, .int .i64 n, .int .i64 m, .int .i64 imm, .int .i64 kind] 23)), w.alloc (.cells #[.int .i64 7, .int .i64 d, .int .i64 n, .int .i64 m, .int .i64 imm, .int .i64 kind] 23) = x.at := ⟨⟨_, Below.refl _ _⟩, rfl⟩
  rw [hx0]
  clear hx0
  go_wp2_with fail
  refine (pload_any 7 d n m imm kind _).mono ?_
  rintro e w1 ⟨rfl, b⟩
  obtain ⟨x1, rfl⟩ := (Wb.next b)
  clear b
  go_wp2_with fail
  refine (is_below 7 _ 8 [6, 7, 8, 9, 10, 11, 12, 23] _ (by decide) (iat_new _ _ _)).mono ?_
  rintro e w1 ⟨rfl, b⟩
  obtain ⟨x2, rfl⟩ := (Wb.next1 b)
  clear b
  go_wp2_with fail
  refine (no31_any _ 1 [d] _ (by simp) (iat_new _ _ _)).mono ?_
  rintro e w1 ⟨v, rfl, hv, b⟩
  obtain ⟨x9, rfl⟩ := Wb.next1 b
  have HV := Lib.hid hv
  clear b hv
  go_wp2
  go_ret
  exact ⟨v, rfl, by rw [E.out]; exact HV.out, KB.out x9⟩

set_option maxHeartbeats 800000 in
theorem psets_8 (d n m imm kind : Int) (w : World) : Calls Try.prog 16 #[.agg #[.int .i64 8, .int .i64 d, .int .i64 n, .int .i64 m, .int .i64 imm, .int .i64 kind]] w (ToldPost (GrG.no31L (GrG.setsA 8 d)) w) := by
  obtain ⟨a0, a1, a2, a3, a4, a5, kb⟩ := ibox6 w 8 d n m imm kind _ rfl
  have KB := Lib.hid kb
  clear kb
  have E := Lib.hid (show GrG.no31L (GrG.setsA 8 d) = GrG.no31L [d] from rfl)
  have f1 : GrG.loadB 8 = false := rfl
  have f2 : GrG.storeB 8 = false := rfl
  go_enter Try.func16, Try.ntmps16
  go_upto_region 1 with fail
  obtain ⟨x0, hx0⟩ : ∃ x : Wb (w.alloc (.cells #[.int .i64 8, .int .i64 d, .int .i64 n, .int .i64 m, .int .i64 imm, .int .i64 kind] 23)), w.alloc (.cells #[.int .i64 8, .int .i64 d, .int .i64 n, .int .i64 m, .int .i64 imm, .int .i64 kind] 23) = x.at := ⟨⟨_, Below.refl _ _⟩, rfl⟩
  rw [hx0]
  clear hx0
  go_wp2_with fail
  refine (pload_any 8 d n m imm kind _).mono ?_
  rintro e w1 ⟨rfl, b⟩
  obtain ⟨x1, rfl⟩ := (Wb.next b)
  clear b
  go_wp2_with fail
  refine (is_below 8 _ 8 [6, 7, 8, 9, 10, 11, 12, 23] _ (by decide) (iat_new _ _ _)).mono ?_
  rintro e w1 ⟨rfl, b⟩
  obtain ⟨x2, rfl⟩ := (Wb.next1 b)
  clear b
  go_wp2_with fail
  refine (no31_any _ 1 [d] _ (by simp) (iat_new _ _ _)).mono ?_
  rintro e w1 ⟨v, rfl, hv, b⟩
  obtain ⟨x9, rfl⟩ := Wb.next1 b
  have HV := Lib.hid hv
  clear b hv
  go_wp2
  go_ret
  exact ⟨v, rfl, by rw [E.out]; exact HV.out, KB.out x9⟩

set_option maxHeartbeats 800000 in
theorem psets_9 (d n m imm kind : Int) (w : World) : Calls Try.prog 16 #[.agg #[.int .i64 9, .int .i64 d, .int .i64 n, .int .i64 m, .int .i64 imm, .int .i64 kind]] w (ToldPost (GrG.no31L (GrG.setsA 9 d)) w) := by
  obtain ⟨a0, a1, a2, a3, a4, a5, kb⟩ := ibox6 w 9 d n m imm kind _ rfl
  have KB := Lib.hid kb
  clear kb
  have E := Lib.hid (show GrG.no31L (GrG.setsA 9 d) = GrG.no31L [d] from rfl)
  have f1 : GrG.loadB 9 = false := rfl
  have f2 : GrG.storeB 9 = false := rfl
  go_enter Try.func16, Try.ntmps16
  go_upto_region 1 with fail
  obtain ⟨x0, hx0⟩ : ∃ x : Wb (w.alloc (.cells #[.int .i64 9, .int .i64 d, .int .i64 n, .int .i64 m, .int .i64 imm, .int .i64 kind] 23)), w.alloc (.cells #[.int .i64 9, .int .i64 d, .int .i64 n, .int .i64 m, .int .i64 imm, .int .i64 kind] 23) = x.at := ⟨⟨_, Below.refl _ _⟩, rfl⟩
  rw [hx0]
  clear hx0
  go_wp2_with fail
  refine (pload_any 9 d n m imm kind _).mono ?_
  rintro e w1 ⟨rfl, b⟩
  obtain ⟨x1, rfl⟩ := (Wb.next b)
  clear b
  go_wp2_with fail
  refine (is_below 9 _ 8 [6, 7, 8, 9, 10, 11, 12, 23] _ (by decide) (iat_new _ _ _)).mono ?_
  rintro e w1 ⟨rfl, b⟩
  obtain ⟨x2, rfl⟩ := (Wb.next1 b)
  clear b
  go_wp2_with fail
  refine (no31_any _ 1 [d] _ (by simp) (iat_new _ _ _)).mono ?_
  rintro e w1 ⟨v, rfl, hv, b⟩
  obtain ⟨x9, rfl⟩ := Wb.next1 b
  have HV := Lib.hid hv
  clear b hv
  go_wp2
  go_ret
  exact ⟨v, rfl, by rw [E.out]; exact HV.out, KB.out x9⟩

set_option maxHeartbeats 800000 in
theorem psets_10 (d n m imm kind : Int) (w : World) : Calls Try.prog 16 #[.agg #[.int .i64 10, .int .i64 d, .int .i64 n, .int .i64 m, .int .i64 imm, .int .i64 kind]] w (ToldPost (GrG.no31L (GrG.setsA 10 d)) w) := by
  obtain ⟨a0, a1, a2, a3, a4, a5, kb⟩ := ibox6 w 10 d n m imm kind _ rfl
  have KB := Lib.hid kb
  clear kb
  have E := Lib.hid (show GrG.no31L (GrG.setsA 10 d) = GrG.no31L [d] from rfl)
  have f1 : GrG.loadB 10 = false := rfl
  have f2 : GrG.storeB 10 = false := rfl
  go_enter Try.func16, Try.ntmps16
  go_upto_region 1 with fail
  obtain ⟨x0, hx0⟩ : ∃ x : Wb (w.alloc (.cells #[.int .i64 10, .int .i64 d, .int .i64 n, .int .i64 m, .int .i64 imm, .int .i64 kind] 23)), w.alloc (.cells #[.int .i64 10, .int .i64 d, .int .i64 n, .int .i64 m, .int .i64 imm, .int .i64 kind] 23) = x.at := ⟨⟨_, Below.refl _ _⟩, rfl⟩
  rw [hx0]
  clear hx0
  go_wp2_with fail
  refine (pload_any 10 d n m imm kind _).mono ?_
  rintro e w1 ⟨rfl, b⟩
  obtain ⟨x1, rfl⟩ := (Wb.next b)
  clear b
  go_wp2_with fail
  refine (is_below 10 _ 8 [6, 7, 8, 9, 10, 11, 12, 23] _ (by decide) (iat_new _ _ _)).mono ?_
  rintro e w1 ⟨rfl, b⟩
  obtain ⟨x2, rfl⟩ := (Wb.next1 b)
  clear b
  go_wp2_with fail
  refine (no31_any _ 1 [d] _ (by simp) (iat_new _ _ _)).mono ?_
  rintro e w1 ⟨v, rfl, hv, b⟩
  obtain ⟨x9, rfl⟩ := Wb.next1 b
  have HV := Lib.hid hv
  clear b hv
  go_wp2
  go_ret
  exact ⟨v, rfl, by rw [E.out]; exact HV.out, KB.out x9⟩

set_option maxHeartbeats 800000 in
theorem psets_11 (d n m imm kind : Int) (w : World) : Calls Try.prog 16 #[.agg #[.int .i64 11, .int .i64 d, .int .i64 n, .int .i64 m, .int .i64 imm, .int .i64 kind]] w (ToldPost (GrG.no31L (GrG.setsA 11 d)) w) := by
  obtain ⟨a0, a1, a2, a3, a4, a5, kb⟩ := ibox6 w 11 d n m imm kind _ rfl
  have KB := Lib.hid kb
  clear kb
  have E := Lib.hid (show GrG.no31L (GrG.setsA 11 d) = GrG.no31L [d] from rfl)
  have f1 : GrG.loadB 11 = false := rfl
  have f2 : GrG.storeB 11 = false := rfl
  go_enter Try.func16, Try.ntmps16
  go_upto_region 1 with fail
  obtain ⟨x0, hx0⟩ : ∃ x : Wb (w.alloc (.cells #[.int .i64 11, .int .i64 d, .int .i64 n, .int .i64 m, .int .i64 imm, .int .i64 kind] 23)), w.alloc (.cells #[.int .i64 11, .int .i64 d, .int .i64 n, .int .i64 m, .int .i64 imm, .int .i64 kind] 23) = x.at := ⟨⟨_, Below.refl _ _⟩, rfl⟩
  rw [hx0]
  clear hx0
  go_wp2_with fail
  refine (pload_any 11 d n m imm kind _).mono ?_
  rintro e w1 ⟨rfl, b⟩
  obtain ⟨x1, rfl⟩ := (Wb.next b)
  clear b
  go_wp2_with fail
  refine (is_below 11 _ 8 [6, 7, 8, 9, 10, 11, 12, 23] _ (by decide) (iat_new _ _ _)).mono ?_
  rintro e w1 ⟨rfl, b⟩
  obtain ⟨x2, rfl⟩ := (Wb.next1 b)
  clear b
  go_wp2_with fail
  refine (no31_any _ 1 [d] _ (by simp) (iat_new _ _ _)).mono ?_
  rintro e w1 ⟨v, rfl, hv, b⟩
  obtain ⟨x9, rfl⟩ := Wb.next1 b
  have HV := Lib.hid hv
  clear b hv
  go_wp2
  go_ret
  exact ⟨v, rfl, by rw [E.out]; exact HV.out, KB.out x9⟩

set_option maxHeartbeats 800000 in
theorem psets_12 (d n m imm kind : Int) (w : World) : Calls Try.prog 16 #[.agg #[.int .i64 12, .int .i64 d, .int .i64 n, .int .i64 m, .int .i64 imm, .int .i64 kind]] w (ToldPost (GrG.no31L (GrG.setsA 12 d)) w) := by
  obtain ⟨a0, a1, a2, a3, a4, a5, kb⟩ := ibox6 w 12 d n m imm kind _ rfl
  have KB := Lib.hid kb
  clear kb
  have E := Lib.hid (show GrG.no31L (GrG.setsA 12 d) = GrG.no31L [d] from rfl)
  have f1 : GrG.loadB 12 = false := rfl
  have f2 : GrG.storeB 12 = false := rfl
  go_enter Try.func16, Try.ntmps16
  go_upto_region 1 with fail
  obtain ⟨x0, hx0⟩ : ∃ x : Wb (w.alloc (.cells #[.int .i64 12, .int .i64 d, .int .i64 n, .int .i64 m, .int .i64 imm, .int .i64 kind] 23)), w.alloc (.cells #[.int .i64 12, .int .i64 d, .int .i64 n, .int .i64 m, .int .i64 imm, .int .i64 kind] 23) = x.at := ⟨⟨_, Below.refl _ _⟩, rfl⟩
  rw [hx0]
  clear hx0
  go_wp2_with fail
  refine (pload_any 12 d n m imm kind _).mono ?_
  rintro e w1 ⟨rfl, b⟩
  obtain ⟨x1, rfl⟩ := (Wb.next b)
  clear b
  go_wp2_with fail
  refine (is_below 12 _ 8 [6, 7, 8, 9, 10, 11, 12, 23] _ (by decide) (iat_new _ _ _)).mono ?_
  rintro e w1 ⟨rfl, b⟩
  obtain ⟨x2, rfl⟩ := (Wb.next1 b)
  clear b
  go_wp2_with fail
  refine (no31_any _ 1 [d] _ (by simp) (iat_new _ _ _)).mono ?_
  rintro e w1 ⟨v, rfl, hv, b⟩
  obtain ⟨x9, rfl⟩ := Wb.next1 b
  have HV := Lib.hid hv
  clear b hv
  go_wp2
  go_ret
  exact ⟨v, rfl, by rw [E.out]; exact HV.out, KB.out x9⟩

set_option maxHeartbeats 800000 in
theorem psets_13 (d n m imm kind : Int) (w : World) : Calls Try.prog 16 #[.agg #[.int .i64 13, .int .i64 d, .int .i64 n, .int .i64 m, .int .i64 imm, .int .i64 kind]] w (ToldPost (GrG.no31L (GrG.setsA 13 d)) w) := by
  obtain ⟨a0, a1, a2, a3, a4, a5, kb⟩ := ibox6 w 13 d n m imm kind _ rfl
  have KB := Lib.hid kb
  clear kb
  have E := Lib.hid (show GrG.no31L (GrG.setsA 13 d) = GrG.no31L [d, 32] from rfl)
  have f1 : GrG.loadB 13 = false := rfl
  have f2 : GrG.storeB 13 = false := rfl
  go_enter Try.func16, Try.ntmps16
  go_upto_region 1 with fail
  obtain ⟨x0, hx0⟩ : ∃ x : Wb (w.alloc (.cells #[.int .i64 13, .int .i64 d, .int .i64 n, .int .i64 m, .int .i64 imm, .int .i64 kind] 23)), w.alloc (.cells #[.int .i64 13, .int .i64 d, .int .i64 n, .int .i64 m, .int .i64 imm, .int .i64 kind] 23) = x.at := ⟨⟨_, Below.refl _ _⟩, rfl⟩
  rw [hx0]
  clear hx0
  go_wp2_with fail
  refine (pload_any 13 d n m imm kind _).mono ?_
  rintro e w1 ⟨rfl, b⟩
  obtain ⟨x1, rfl⟩ := (Wb.next b)
  clear b
  go_wp2_with fail
  refine (is_below 13 _ 8 [6, 7, 8, 9, 10, 11, 12, 23] _ (by decide) (iat_new _ _ _)).mono ?_
  rintro e w1 ⟨rfl, b⟩
  obtain ⟨x2, rfl⟩ := (Wb.next1 b)
  clear b
  go_wp2_with fail
  refine (no31_any _ 2 [d, 32] _ (by simp) (iat_new _ _ _)).mono ?_
  rintro e w1 ⟨v, rfl, hv, b⟩
  obtain ⟨x9, rfl⟩ := Wb.next1 b
  have HV := Lib.hid hv
  clear b hv
  go_wp2
  go_ret
  exact ⟨v, rfl, by rw [E.out]; exact HV.out, KB.out x9⟩

set_option maxHeartbeats 800000 in
theorem psets_14 (d n m imm kind : Int) (w : World) : Calls Try.prog 16 #[.agg #[.int .i64 14, .int .i64 d, .int .i64 n, .int .i64 m, .int .i64 imm, .int .i64 kind]] w (ToldPost (GrG.no31L (GrG.setsA 14 d)) w) := by
  obtain ⟨a0, a1, a2, a3, a4, a5, kb⟩ := ibox6 w 14 d n m imm kind _ rfl
  have KB := Lib.hid kb
  clear kb
  have E := Lib.hid (show GrG.no31L (GrG.setsA 14 d) = [] from rfl)
  have f1 : GrG.loadB 14 = false := rfl
  have f2 : GrG.storeB 14 = false := rfl
  go_enter Try.func16, Try.ntmps16
  go_upto_region 1 with fail
  obtain ⟨x0, hx0⟩ : ∃ x : Wb (w.alloc (.cells #[.int .i64 14, .int .i64 d, .int .i64 n, .int .i64 m, .int .i64 imm, .int .i64 kind] 23)), w.alloc (.cells #[.int .i64 14, .int .i64 d, .int .i64 n, .int .i64 m, .int .i64 imm, .int .i64 kind] 23) = x.at := ⟨⟨_, Below.refl _ _⟩, rfl⟩
  rw [hx0]
  clear hx0
  go_wp2_with fail
  refine (pload_any 14 d n m imm kind _).mono ?_
  rintro e w1 ⟨rfl, b⟩
  obtain ⟨x1, rfl⟩ := (Wb.next b)
  clear b
  go_wp2_with fail
  refine (is_below 14 _ 8 [6, 7, 8, 9, 10, 11, 12, 23] _ (by decide) (iat_new _ _ _)).mono ?_
  rintro e w1 ⟨rfl, b⟩
  obtain ⟨x2, rfl⟩ := (Wb.next1 b)
  clear b
  go_wp2
  go_ret
  exact ⟨_, rfl, .inl ⟨rfl, E.out⟩, KB.out _⟩

set_option maxHeartbeats 800000 in
theorem psets_15 (d n m imm kind : Int) (w : World) : Calls Try.prog 16 #[.agg #[.int .i64 15, .int .i64 d, .int .i64 n, .int .i64 m, .int .i64 imm, .int .i64 kind]] w (ToldPost (GrG.no31L (GrG.setsA 15 d)) w) := by
  obtain ⟨a0, a1, a2, a3, a4, a5, kb⟩ := ibox6 w 15 d n m imm kind _ rfl
  have KB := Lib.hid kb
  clear kb
  have E := Lib.hid (show GrG.no31L (GrG.setsA 15 d) = [] from rfl)
  have f1 : GrG.loadB 15 = false := rfl
  have f2 : GrG.storeB 15 = false := rfl
  go_enter Try.func16, Try.ntmps16
  go_upto_region 1 with fail
  obtain ⟨x0, hx0⟩ : ∃ x : Wb (w.alloc (.cells #[.int .i64 15, .int .i64 d, .int .i64 n, .int .i64 m, .int .i64 imm, .int .i64 kind] 23)), w.alloc (.cells #[.int .i64 15, .int .i64 d, .int .i64 n, .int .i64 m, .int .i64 imm, .int .i64 kind] 23) = x.at := ⟨⟨_, Below.refl _ _⟩, rfl⟩
  rw [hx0]
  clear hx0
  go_wp2_with fail
  refine (pload_any 15 d n m imm kind _).mono ?_
  rintro e w1 ⟨rfl, b⟩
  obtain ⟨x1, rfl⟩ := (Wb.next b)
  clear b
  go_wp2_with fail
  refine (is_below 15 _ 8 [6, 7, 8, 9, 10, 11, 12, 23] _ (by decide) (iat_new _ _ _)).mono ?_
  rintro e w1 ⟨rfl, b⟩
  obtain ⟨x2, rfl⟩ := (Wb.next1 b)
  clear b
  go_wp2
  go_ret
  exact ⟨_, rfl, .inl ⟨rfl, E.out⟩, KB.out _⟩

set_option maxHeartbeats 800000 in
theorem psets_16 (d n m imm kind : Int) (w : World) : Calls Try.prog 16 #[.agg #[.int .i64 16, .int .i64 d, .int .i64 n, .int .i64 m, .int .i64 imm, .int .i64 kind]] w (ToldPost (GrG.no31L (GrG.setsA 16 d)) w) := by
  obtain ⟨a0, a1, a2, a3, a4, a5, kb⟩ := ibox6 w 16 d n m imm kind _ rfl
  have KB := Lib.hid kb
  clear kb
  have E := Lib.hid (show GrG.no31L (GrG.setsA 16 d) = [] from rfl)
  have f1 : GrG.loadB 16 = false := rfl
  have f2 : GrG.storeB 16 = false := rfl
  go_enter Try.func16, Try.ntmps16
  go_upto_region 1 with fail
  obtain ⟨x0, hx0⟩ : ∃ x : Wb (w.alloc (.cells #[.int .i64 16, .int .i64 d, .int .i64 n, .int .i64 m, .int .i64 imm, .int .i64 kind] 23)), w.alloc (.cells #[.int .i64 16, .int .i64 d, .int .i64 n, .int .i64 m, .int .i64 imm, .int .i64 kind] 23) = x.at := ⟨⟨_, Below.refl _ _⟩, rfl⟩
  rw [hx0]
  clear hx0
  go_wp2_with fail
  refine (pload_any 16 d n m imm kind _).mono ?_
  rintro e w1 ⟨rfl, b⟩
  obtain ⟨x1, rfl⟩ := (Wb.next b)
  clear b
  go_wp2_with fail
  refine (is_below 16 _ 8 [6, 7, 8, 9, 10, 11, 12, 23] _ (by decide) (iat_new _ _ _)).mono ?_
  rintro e w1 ⟨rfl, b⟩
  obtain ⟨x2, rfl⟩ := (Wb.next1 b)
  clear b
  go_wp2
  go_ret
  exact ⟨_, rfl, .inl ⟨rfl, E.out⟩, KB.out _⟩

set_option maxHeartbeats 800000 in
theorem psets_17 (d n m imm kind : Int) (w : World) : Calls Try.prog 16 #[.agg #[.int .i64 17, .int .i64 d, .int .i64 n, .int .i64 m, .int .i64 imm, .int .i64 kind]] w (ToldPost (GrG.no31L (GrG.setsA 17 d)) w) := by
  obtain ⟨a0, a1, a2, a3, a4, a5, kb⟩ := ibox6 w 17 d n m imm kind _ rfl
  have KB := Lib.hid kb
  clear kb
  have E := Lib.hid (show GrG.no31L (GrG.setsA 17 d) = [] from rfl)
  have f1 : GrG.loadB 17 = false := rfl
  have f2 : GrG.storeB 17 = false := rfl
  go_enter Try.func16, Try.ntmps16
  go_upto_region 1 with fail
  obtain ⟨x0, hx0⟩ : ∃ x : Wb (w.alloc (.cells #[.int .i64 17, .int .i64 d, .int .i64 n, .int .i64 m, .int .i64 imm, .int .i64 kind] 23)), w.alloc (.cells #[.int .i64 17, .int .i64 d, .int .i64 n, .int .i64 m, .int .i64 imm, .int .i64 kind] 23) = x.at := ⟨⟨_, Below.refl _ _⟩, rfl⟩
  rw [hx0]
  clear hx0
  go_wp2_with fail
  refine (pload_any 17 d n m imm kind _).mono ?_
  rintro e w1 ⟨rfl, b⟩
  obtain ⟨x1, rfl⟩ := (Wb.next b)
  clear b
  go_wp2_with fail
  refine (is_below 17 _ 8 [6, 7, 8, 9, 10, 11, 12, 23] _ (by decide) (iat_new _ _ _)).mono ?_
  rintro e w1 ⟨rfl, b⟩
  obtain ⟨x2, rfl⟩ := (Wb.next1 b)
  clear b
  go_wp2
  go_ret
  exact ⟨_, rfl, .inl ⟨rfl, E.out⟩, KB.out _⟩

set_option maxHeartbeats 800000 in
theorem psets_18 (d n m imm kind : Int) (w : World) : Calls Try.prog 16 #[.agg #[.int .i64 18, .int .i64 d, .int .i64 n, .int .i64 m, .int .i64 imm, .int .i64 kind]] w (ToldPost (GrG.no31L (GrG.setsA 18 d)) w) := by
  obtain ⟨a0, a1, a2, a3, a4, a5, kb⟩ := ibox6 w 18 d n m imm kind _ rfl
  have KB := Lib.hid kb
  clear kb
  have E := Lib.hid (show GrG.no31L (GrG.setsA 18 d) = [] from rfl)
  have f1 : GrG.loadB 18 = false := rfl
  have f2 : GrG.storeB 18 = false := rfl
  go_enter Try.func16, Try.ntmps16
  go_upto_region 1 with fail
  obtain ⟨x0, hx0⟩ : ∃ x : Wb (w.alloc (.cells #[.int .i64 18, .int .i64 d, .int .i64 n, .int .i64 m, .int .i64 imm, .int .i64 kind] 23)), w.alloc (.cells #[.int .i64 18, .int .i64 d, .int .i64 n, .int .i64 m, .int .i64 imm, .int .i64 kind] 23) = x.at := ⟨⟨_, Below.refl _ _⟩, rfl⟩
  rw [hx0]
  clear hx0
  go_wp2_with fail
  refine (pload_any 18 d n m imm kind _).mono ?_
  rintro e w1 ⟨rfl, b⟩
  obtain ⟨x1, rfl⟩ := (Wb.next b)
  clear b
  go_wp2_with fail
  refine (is_below 18 _ 8 [6, 7, 8, 9, 10, 11, 12, 23] _ (by decide) (iat_new _ _ _)).mono ?_
  rintro e w1 ⟨rfl, b⟩
  obtain ⟨x2, rfl⟩ := (Wb.next1 b)
  clear b
  go_wp2
  go_ret
  exact ⟨_, rfl, .inl ⟨rfl, E.out⟩, KB.out _⟩

set_option maxHeartbeats 800000 in
theorem psets_19 (d n m imm kind : Int) (w : World) : Calls Try.prog 16 #[.agg #[.int .i64 19, .int .i64 d, .int .i64 n, .int .i64 m, .int .i64 imm, .int .i64 kind]] w (ToldPost (GrG.no31L (GrG.setsA 19 d)) w) := by
  obtain ⟨a0, a1, a2, a3, a4, a5, kb⟩ := ibox6 w 19 d n m imm kind _ rfl
  have KB := Lib.hid kb
  clear kb
  have E := Lib.hid (show GrG.no31L (GrG.setsA 19 d) = [] from rfl)
  have f1 : GrG.loadB 19 = false := rfl
  have f2 : GrG.storeB 19 = false := rfl
  go_enter Try.func16, Try.ntmps16
  go_upto_region 1 with fail
  obtain ⟨x0, hx0⟩ : ∃ x : Wb (w.alloc (.cells #[.int .i64 19, .int .i64 d, .int .i64 n, .int .i64 m, .int .i64 imm, .int .i64 kind] 23)), w.alloc (.cells #[.int .i64 19, .int .i64 d, .int .i64 n, .int .i64 m, .int .i64 imm, .int .i64 kind] 23) = x.at := ⟨⟨_, Below.refl _ _⟩, rfl⟩
  rw [hx0]
  clear hx0
  go_wp2_with fail
  refine (pload_any 19 d n m imm kind _).mono ?_
  rintro e w1 ⟨rfl, b⟩
  obtain ⟨x1, rfl⟩ := (Wb.next b)
  clear b
  go_wp2_with fail
  refine (is_below 19 _ 8 [6, 7, 8, 9, 10, 11, 12, 23] _ (by decide) (iat_new _ _ _)).mono ?_
  rintro e w1 ⟨rfl, b⟩
  obtain ⟨x2, rfl⟩ := (Wb.next1 b)
  clear b
  go_wp2
  go_ret
  exact ⟨_, rfl, .inl ⟨rfl, E.out⟩, KB.out _⟩

set_option maxHeartbeats 800000 in
theorem psets_20 (d n m imm kind : Int) (w : World) : Calls Try.prog 16 #[.agg #[.int .i64 20, .int .i64 d, .int .i64 n, .int .i64 m, .int .i64 imm, .int .i64 kind]] w (ToldPost (GrG.no31L (GrG.setsA 20 d)) w) := by
  obtain ⟨a0, a1, a2, a3, a4, a5, kb⟩ := ibox6 w 20 d n m imm kind _ rfl
  have KB := Lib.hid kb
  clear kb
  have E := Lib.hid (show GrG.no31L (GrG.setsA 20 d) = [] from rfl)
  have f1 : GrG.loadB 20 = false := rfl
  have f2 : GrG.storeB 20 = false := rfl
  go_enter Try.func16, Try.ntmps16
  go_upto_region 1 with fail
  obtain ⟨x0, hx0⟩ : ∃ x : Wb (w.alloc (.cells #[.int .i64 20, .int .i64 d, .int .i64 n, .int .i64 m, .int .i64 imm, .int .i64 kind] 23)), w.alloc (.cells #[.int .i64 20, .int .i64 d, .int .i64 n, .int .i64 m, .int .i64 imm, .int .i64 kind] 23) = x.at := ⟨⟨_, Below.refl _ _⟩, rfl⟩
  rw [hx0]
  clear hx0
  go_wp2_with fail
  refine (pload_any 20 d n m imm kind _).mono ?_
  rintro e w1 ⟨rfl, b⟩
  obtain ⟨x1, rfl⟩ := (Wb.next b)
  clear b
  go_wp2_with fail
  refine (is_below 20 _ 8 [6, 7, 8, 9, 10, 11, 12, 23] _ (by decide) (iat_new _ _ _)).mono ?_
  rintro e w1 ⟨rfl, b⟩
  obtain ⟨x2, rfl⟩ := (Wb.next1 b)
  clear b
  go_wp2
  go_ret
  exact ⟨_, rfl, .inl ⟨rfl, E.out⟩, KB.out _⟩

set_option maxHeartbeats 800000 in
theorem psets_21 (d n m imm kind : Int) (w : World) : Calls Try.prog 16 #[.agg #[.int .i64 21, .int .i64 d, .int .i64 n, .int .i64 m, .int .i64 imm, .int .i64 kind]] w (ToldPost (GrG.no31L (GrG.setsA 21 d)) w) := by
  obtain ⟨a0, a1, a2, a3, a4, a5, kb⟩ := ibox6 w 21 d n m imm kind _ rfl
  have KB := Lib.hid kb
  clear kb
  have E := Lib.hid (show GrG.no31L (GrG.setsA 21 d) = [] from rfl)
  have f1 : GrG.loadB 21 = false := rfl
  have f2 : GrG.storeB 21 = false := rfl
  go_enter Try.func16, Try.ntmps16
  go_upto_region 1 with fail
  obtain ⟨x0, hx0⟩ : ∃ x : Wb (w.alloc (.cells #[.int .i64 21, .int .i64 d, .int .i64 n, .int .i64 m, .int .i64 imm, .int .i64 kind] 23)), w.alloc (.cells #[.int .i64 21, .int .i64 d, .int .i64 n, .int .i64 m, .int .i64 imm, .int .i64 kind] 23) = x.at := ⟨⟨_, Below.refl _ _⟩, rfl⟩
  rw [hx0]
  clear hx0
  go_wp2_with fail
  refine (pload_any 21 d n m imm kind _).mono ?_
  rintro e w1 ⟨rfl, b⟩
  obtain ⟨x1, rfl⟩ := (Wb.next b)
  clear b
  go_wp2_with fail
  refine (is_below 21 _ 8 [6, 7, 8, 9, 10, 11, 12, 23] _ (by decide) (iat_new _ _ _)).mono ?_
  rintro e w1 ⟨rfl, b⟩
  obtain ⟨x2, rfl⟩ := (Wb.next1 b)
  clear b
  go_wp2
  go_ret
  exact ⟨_, rfl, .inl ⟨rfl, E.out⟩, KB.out _⟩

set_option maxHeartbeats 800000 in
theorem psets_22 (d n m imm kind : Int) (w : World) : Calls Try.prog 16 #[.agg #[.int .i64 22, .int .i64 d, .int .i64 n, .int .i64 m, .int .i64 imm, .int .i64 kind]] w (ToldPost (GrG.no31L (GrG.setsA 22 d)) w) := by
  obtain ⟨a0, a1, a2, a3, a4, a5, kb⟩ := ibox6 w 22 d n m imm kind _ rfl
  have KB := Lib.hid kb
  clear kb
  have E := Lib.hid (show GrG.no31L (GrG.setsA 22 d) = [] from rfl)
  have f1 : GrG.loadB 22 = false := rfl
  have f2 : GrG.storeB 22 = false := rfl
  go_enter Try.func16, Try.ntmps16
  go_upto_region 1 with fail
  obtain ⟨x0, hx0⟩ : ∃ x : Wb (w.alloc (.cells #[.int .i64 22, .int .i64 d, .int .i64 n, .int .i64 m, .int .i64 imm, .int .i64 kind] 23)), w.alloc (.cells #[.int .i64 22, .int .i64 d, .int .i64 n, .int .i64 m, .int .i64 imm, .int .i64 kind] 23) = x.at := ⟨⟨_, Below.refl _ _⟩, rfl⟩
  rw [hx0]
  clear hx0
  go_wp2_with fail
  refine (pload_any 22 d n m imm kind _).mono ?_
  rintro e w1 ⟨rfl, b⟩
  obtain ⟨x1, rfl⟩ := (Wb.next b)
  clear b
  go_wp2_with fail
  refine (is_below 22 _ 8 [6, 7, 8, 9, 10, 11, 12, 23] _ (by decide) (iat_new _ _ _)).mono ?_
  rintro e w1 ⟨rfl, b⟩
  obtain ⟨x2, rfl⟩ := (Wb.next1 b)
  clear b
  go_wp2
  go_ret
  exact ⟨_, rfl, .inl ⟨rfl, E.out⟩, KB.out _⟩

set_option maxHeartbeats 800000 in
theorem psets_23 (d n m imm kind : Int) (w : World) : Calls Try.prog 16 #[.agg #[.int .i64 23, .int .i64 d, .int .i64 n, .int .i64 m, .int .i64 imm, .int .i64 kind]] w (ToldPost (GrG.no31L (GrG.setsA 23 d)) w) := by
  obtain ⟨a0, a1, a2, a3, a4, a5, kb⟩ := ibox6 w 23 d n m imm kind _ rfl
  have KB := Lib.hid kb
  clear kb
  have E := Lib.hid (show GrG.no31L (GrG.setsA 23 d) = GrG.no31L [d] from rfl)
  have f1 : GrG.loadB 23 = false := rfl
  have f2 : GrG.storeB 23 = false := rfl
  go_enter Try.func16, Try.ntmps16
  go_upto_region 1 with fail
  obtain ⟨x0, hx0⟩ : ∃ x : Wb (w.alloc (.cells #[.int .i64 23, .int .i64 d, .int .i64 n, .int .i64 m, .int .i64 imm, .int .i64 kind] 23)), w.alloc (.cells #[.int .i64 23, .int .i64 d, .int .i64 n, .int .i64 m, .int .i64 imm, .int .i64 kind] 23) = x.at := ⟨⟨_, Below.refl _ _⟩, rfl⟩
  rw [hx0]
  clear hx0
  go_wp2_with fail
  refine (pload_any 23 d n m imm kind _).mono ?_
  rintro e w1 ⟨rfl, b⟩
  obtain ⟨x1, rfl⟩ := (Wb.next b)
  clear b
  go_wp2_with fail
  refine (is_below 23 _ 8 [6, 7, 8, 9, 10, 11, 12, 23] _ (by decide) (iat_new _ _ _)).mono ?_
  rintro e w1 ⟨rfl, b⟩
  obtain ⟨x2, rfl⟩ := (Wb.next1 b)
  clear b
  go_wp2_with fail
  refine (no31_any _ 1 [d] _ (by simp) (iat_new _ _ _)).mono ?_
  rintro e w1 ⟨v, rfl, hv, b⟩
  obtain ⟨x9, rfl⟩ := Wb.next1 b
  have HV := Lib.hid hv
  clear b hv
  go_wp2
  go_ret
  exact ⟨v, rfl, by rw [E.out]; exact HV.out, KB.out x9⟩

theorem psets_any (op d n m imm kind : Int) (w : World) (ho : op = 1 ∨ op = 2 ∨ op = 3 ∨ op = 4 ∨ op = 5 ∨ op = 6 ∨ op = 7 ∨ op = 8 ∨ op = 9 ∨ op = 10 ∨ op = 11 ∨ op = 12 ∨ op = 13 ∨ op = 14 ∨ op = 15 ∨ op = 16 ∨ op = 17 ∨ op = 18 ∨ op = 19 ∨ op = 20 ∨ op = 21 ∨ op = 22 ∨ op = 23) : Calls Try.prog 16 #[.agg #[.int .i64 op, .int .i64 d, .int .i64 n, .int .i64 m, .int .i64 imm, .int .i64 kind]] w (ToldPost (GrG.no31L (GrG.setsA op d)) w) := by
  rcases ho with rfl | rfl | rfl | rfl | rfl | rfl | rfl | rfl | rfl | rfl | rfl | rfl | rfl | rfl | rfl | rfl | rfl | rfl | rfl | rfl | rfl | rfl | rfl
  · exact psets_1 d n m imm kind w
  · exact psets_2 d n m imm kind w
  · exact psets_3 d n m imm kind w
  · exact psets_4 d n m imm kind w
  · exact psets_5 d n m imm kind w
  · exact psets_6 d n m imm kind w
  · exact psets_7 d n m imm kind w
  · exact psets_8 d n m imm kind w
  · exact psets_9 d n m imm kind w
  · exact psets_10 d n m imm kind w
  · exact psets_11 d n m imm kind w
  · exact psets_12 d n m imm kind w
  · exact psets_13 d n m imm kind w
  · exact psets_14 d n m imm kind w
  · exact psets_15 d n m imm kind w
  · exact psets_16 d n m imm kind w
  · exact psets_17 d n m imm kind w
  · exact psets_18 d n m imm kind w
  · exact psets_19 d n m imm kind w
  · exact psets_20 d n m imm kind w
  · exact psets_21 d n m imm kind w
  · exact psets_22 d n m imm kind w
  · exact psets_23 d n m imm kind w
end Go.Proofs.Ytnehdgapcgbdeaa
