/-
  Layer 5, the walks: which registers an instruction takes and sets: Data.
-/
import Derived.Test.YtnehdgapcgbdeaaGi
set_option linter.unusedSimpArgs false
set_option linter.unusedVariables false
namespace Go.Proofs.Ytnehdgapcgbdeaa
open Go.RowKit

set_option maxHeartbeats 800000 in
theorem data_1 (d n m imm kind : Int) (w : World) : Calls Try.prog 13 #[.agg #[.int .i64 1, .int .i64 d, .int .i64 n, .int .i64 m, .int .i64 imm, .int .i64 kind]] w (ToldPost (GrG.toldL (GrG.dataA 1 d n m)) w) := by
  obtain ⟨a0, a1, a2, a3, a4, a5, kb⟩ := ibox6 w 1 d n m imm kind _ rfl
  have KB := Lib.hid kb
  clear kb
  have E := Lib.hid (show GrG.toldL (GrG.dataA 1 d n m) = [] from rfl)
  go_enter Try.func13, Try.ntmps13
  go_upto_region 1 with fail
  obtain ⟨x0, hx0⟩ : ∃ x : Wb (w.alloc (.cells #[.int .i64 1, .int .i64 d, .int .i64 n, .int .i64 m, .int .i64 imm, .int .i64 kind] 23)), w.alloc (.cells #[.int .i64 1, .int .i64 d, .int .i64 n, .int .i64 m, .int .i64 imm, .int .i64 kind] 23) = x.at := ⟨⟨_, Below.refl _ _⟩, rfl⟩
  rw [hx0]
  clear hx0
  go_wp2
  go_ret
  exact ⟨_, rfl, .inl ⟨rfl, E.out⟩, KB.out _⟩

set_option maxHeartbeats 800000 in
theorem data_2 (d n m imm kind : Int) (w : World) : Calls Try.prog 13 #[.agg #[.int .i64 2, .int .i64 d, .int .i64 n, .int .i64 m, .int .i64 imm, .int .i64 kind]] w (ToldPost (GrG.toldL (GrG.dataA 2 d n m)) w) := by
  obtain ⟨a0, a1, a2, a3, a4, a5, kb⟩ := ibox6 w 2 d n m imm kind _ rfl
  have KB := Lib.hid kb
  clear kb
  have E := Lib.hid (show GrG.toldL (GrG.dataA 2 d n m) = [] from rfl)
  go_enter Try.func13, Try.ntmps13
  go_upto_region 1 with fail
  obtain ⟨x0, hx0⟩ : ∃ x : Wb (w.alloc (.cells #[.int .i64 2, .int .i64 d, .int .i64 n, .int .i64 m, .int .i64 imm, .int .i64 kind] 23)), w.alloc (.cells #[.int .i64 2, .int .i64 d, .int .i64 n, .int .i64 m, .int .i64 imm, .int .i64 kind] 23) = x.at := ⟨⟨_, Below.refl _ _⟩, rfl⟩
  rw [hx0]
  clear hx0
  go_wp2
  go_ret
  exact ⟨_, rfl, .inl ⟨rfl, E.out⟩, KB.out _⟩

set_option maxHeartbeats 800000 in
theorem data_3 (d n m imm kind : Int) (w : World) : Calls Try.prog 13 #[.agg #[.int .i64 3, .int .i64 d, .int .i64 n, .int .i64 m, .int .i64 imm, .int .i64 kind]] w (ToldPost (GrG.toldL (GrG.dataA 3 d n m)) w) := by
  obtain ⟨a0, a1, a2, a3, a4, a5, kb⟩ := ibox6 w 3 d n m imm kind _ rfl
  have KB := Lib.hid kb
  clear kb
  have E := Lib.hid (show GrG.toldL (GrG.dataA 3 d n m) = GrG.toldL [d] from rfl)
  go_enter Try.func13, Try.ntmps13
  go_upto_region 1 with fail
  obtain ⟨x0, hx0⟩ : ∃ x : Wb (w.alloc (.cells #[.int .i64 3, .int .i64 d, .int .i64 n, .int .i64 m, .int .i64 imm, .int .i64 kind] 23)), w.alloc (.cells #[.int .i64 3, .int .i64 d, .int .i64 n, .int .i64 m, .int .i64 imm, .int .i64 kind] 23) = x.at := ⟨⟨_, Below.refl _ _⟩, rfl⟩
  rw [hx0]
  clear hx0
  go_wp2_with fail
  refine (told_any _ 1 [d] _ (by simp) (iat_new _ _ _)).mono ?_
  rintro e w1 ⟨v, rfl, hv, b⟩
  obtain ⟨x9, rfl⟩ := Wb.next1 b
  have HV := Lib.hid hv
  clear b hv
  go_wp2
  go_ret
  exact ⟨v, rfl, by rw [E.out]; exact HV.out, KB.out x9⟩

set_option maxHeartbeats 800000 in
theorem data_4 (d n m imm kind : Int) (w : World) : Calls Try.prog 13 #[.agg #[.int .i64 4, .int .i64 d, .int .i64 n, .int .i64 m, .int .i64 imm, .int .i64 kind]] w (ToldPost (GrG.toldL (GrG.dataA 4 d n m)) w) := by
  obtain ⟨a0, a1, a2, a3, a4, a5, kb⟩ := ibox6 w 4 d n m imm kind _ rfl
  have KB := Lib.hid kb
  clear kb
  have E := Lib.hid (show GrG.toldL (GrG.dataA 4 d n m) = [] from rfl)
  go_enter Try.func13, Try.ntmps13
  go_upto_region 1 with fail
  obtain ⟨x0, hx0⟩ : ∃ x : Wb (w.alloc (.cells #[.int .i64 4, .int .i64 d, .int .i64 n, .int .i64 m, .int .i64 imm, .int .i64 kind] 23)), w.alloc (.cells #[.int .i64 4, .int .i64 d, .int .i64 n, .int .i64 m, .int .i64 imm, .int .i64 kind] 23) = x.at := ⟨⟨_, Below.refl _ _⟩, rfl⟩
  rw [hx0]
  clear hx0
  go_wp2
  go_ret
  exact ⟨_, rfl, .inl ⟨rfl, E.out⟩, KB.out _⟩

set_option maxHeartbeats 800000 in
theorem data_5 (d n m imm kind : Int) (w : World) : Calls Try.prog 13 #[.agg #[.int .i64 5, .int .i64 d, .int .i64 n, .int .i64 m, .int .i64 imm, .int .i64 kind]] w (ToldPost (GrG.toldL (GrG.dataA 5 d n m)) w) := by
  obtain ⟨a0, a1, a2, a3, a4, a5, kb⟩ := ibox6 w 5 d n m imm kind _ rfl
  have KB := Lib.hid kb
  clear kb
  have E := Lib.hid (show GrG.toldL (GrG.dataA 5 d n m) = GrG.toldL [d] from rfl)
  go_enter Try.func13, Try.ntmps13
  go_upto_region 1 with fail
  obtain ⟨x0, hx0⟩ : ∃ x : Wb (w.alloc (.cells #[.int .i64 5, .int .i64 d, .int .i64 n, .int .i64 m, .int .i64 imm, .int .i64 kind] 23)), w.alloc (.cells #[.int .i64 5, .int .i64 d, .int .i64 n, .int .i64 m, .int .i64 imm, .int .i64 kind] 23) = x.at := ⟨⟨_, Below.refl _ _⟩, rfl⟩
  rw [hx0]
  clear hx0
  go_wp2_with fail
  refine (told_any _ 1 [d] _ (by simp) (iat_new _ _ _)).mono ?_
  rintro e w1 ⟨v, rfl, hv, b⟩
  obtain ⟨x9, rfl⟩ := Wb.next1 b
  have HV := Lib.hid hv
  clear b hv
  go_wp2
  go_ret
  exact ⟨v, rfl, by rw [E.out]; exact HV.out, KB.out x9⟩

set_option maxHeartbeats 800000 in
theorem data_6 (d n m imm kind : Int) (w : World) : Calls Try.prog 13 #[.agg #[.int .i64 6, .int .i64 d, .int .i64 n, .int .i64 m, .int .i64 imm, .int .i64 kind]] w (ToldPost (GrG.toldL (GrG.dataA 6 d n m)) w) := by
  obtain ⟨a0, a1, a2, a3, a4, a5, kb⟩ := ibox6 w 6 d n m imm kind _ rfl
  have KB := Lib.hid kb
  clear kb
  have E := Lib.hid (show GrG.toldL (GrG.dataA 6 d n m) = [] from rfl)
  go_enter Try.func13, Try.ntmps13
  go_upto_region 1 with fail
  obtain ⟨x0, hx0⟩ : ∃ x : Wb (w.alloc (.cells #[.int .i64 6, .int .i64 d, .int .i64 n, .int .i64 m, .int .i64 imm, .int .i64 kind] 23)), w.alloc (.cells #[.int .i64 6, .int .i64 d, .int .i64 n, .int .i64 m, .int .i64 imm, .int .i64 kind] 23) = x.at := ⟨⟨_, Below.refl _ _⟩, rfl⟩
  rw [hx0]
  clear hx0
  go_wp2
  go_ret
  exact ⟨_, rfl, .inl ⟨rfl, E.out⟩, KB.out _⟩

set_option maxHeartbeats 800000 in
theorem data_7 (d n m imm kind : Int) (w : World) : Calls Try.prog 13 #[.agg #[.int .i64 7, .int .i64 d, .int .i64 n, .int .i64 m, .int .i64 imm, .int .i64 kind]] w (ToldPost (GrG.toldL (GrG.dataA 7 d n m)) w) := by
  obtain ⟨a0, a1, a2, a3, a4, a5, kb⟩ := ibox6 w 7 d n m imm kind _ rfl
  have KB := Lib.hid kb
  clear kb
  have E := Lib.hid (show GrG.toldL (GrG.dataA 7 d n m) = GrG.toldL [n] from rfl)
  go_enter Try.func13, Try.ntmps13
  go_upto_region 1 with fail
  obtain ⟨x0, hx0⟩ : ∃ x : Wb (w.alloc (.cells #[.int .i64 7, .int .i64 d, .int .i64 n, .int .i64 m, .int .i64 imm, .int .i64 kind] 23)), w.alloc (.cells #[.int .i64 7, .int .i64 d, .int .i64 n, .int .i64 m, .int .i64 imm, .int .i64 kind] 23) = x.at := ⟨⟨_, Below.refl _ _⟩, rfl⟩
  rw [hx0]
  clear hx0
  go_wp2_with fail
  refine (told_any _ 1 [n] _ (by simp) (iat_new _ _ _)).mono ?_
  rintro e w1 ⟨v, rfl, hv, b⟩
  obtain ⟨x9, rfl⟩ := Wb.next1 b
  have HV := Lib.hid hv
  clear b hv
  go_wp2
  go_ret
  exact ⟨v, rfl, by rw [E.out]; exact HV.out, KB.out x9⟩

set_option maxHeartbeats 800000 in
theorem data_8 (d n m imm kind : Int) (w : World) : Calls Try.prog 13 #[.agg #[.int .i64 8, .int .i64 d, .int .i64 n, .int .i64 m, .int .i64 imm, .int .i64 kind]] w (ToldPost (GrG.toldL (GrG.dataA 8 d n m)) w) := by
  obtain ⟨a0, a1, a2, a3, a4, a5, kb⟩ := ibox6 w 8 d n m imm kind _ rfl
  have KB := Lib.hid kb
  clear kb
  have E := Lib.hid (show GrG.toldL (GrG.dataA 8 d n m) = GrG.toldL [n, m] from rfl)
  go_enter Try.func13, Try.ntmps13
  go_upto_region 1 with fail
  obtain ⟨x0, hx0⟩ : ∃ x : Wb (w.alloc (.cells #[.int .i64 8, .int .i64 d, .int .i64 n, .int .i64 m, .int .i64 imm, .int .i64 kind] 23)), w.alloc (.cells #[.int .i64 8, .int .i64 d, .int .i64 n, .int .i64 m, .int .i64 imm, .int .i64 kind] 23) = x.at := ⟨⟨_, Below.refl _ _⟩, rfl⟩
  rw [hx0]
  clear hx0
  go_wp2_with fail
  refine (told_any _ 2 [n, m] _ (by simp) (iat_new _ _ _)).mono ?_
  rintro e w1 ⟨v, rfl, hv, b⟩
  obtain ⟨x9, rfl⟩ := Wb.next1 b
  have HV := Lib.hid hv
  clear b hv
  go_wp2
  go_ret
  exact ⟨v, rfl, by rw [E.out]; exact HV.out, KB.out x9⟩

set_option maxHeartbeats 800000 in
theorem data_9 (d n m imm kind : Int) (w : World) : Calls Try.prog 13 #[.agg #[.int .i64 9, .int .i64 d, .int .i64 n, .int .i64 m, .int .i64 imm, .int .i64 kind]] w (ToldPost (GrG.toldL (GrG.dataA 9 d n m)) w) := by
  obtain ⟨a0, a1, a2, a3, a4, a5, kb⟩ := ibox6 w 9 d n m imm kind _ rfl
  have KB := Lib.hid kb
  clear kb
  have E := Lib.hid (show GrG.toldL (GrG.dataA 9 d n m) = GrG.toldL [n, m] from rfl)
  go_enter Try.func13, Try.ntmps13
  go_upto_region 1 with fail
  obtain ⟨x0, hx0⟩ : ∃ x : Wb (w.alloc (.cells #[.int .i64 9, .int .i64 d, .int .i64 n, .int .i64 m, .int .i64 imm, .int .i64 kind] 23)), w.alloc (.cells #[.int .i64 9, .int .i64 d, .int .i64 n, .int .i64 m, .int .i64 imm, .int .i64 kind] 23) = x.at := ⟨⟨_, Below.refl _ _⟩, rfl⟩
  rw [hx0]
  clear hx0
  go_wp2_with fail
  refine (told_any _ 2 [n, m] _ (by simp) (iat_new _ _ _)).mono ?_
  rintro e w1 ⟨v, rfl, hv, b⟩
  obtain ⟨x9, rfl⟩ := Wb.next1 b
  have HV := Lib.hid hv
  clear b hv
  go_wp2
  go_ret
  exact ⟨v, rfl, by rw [E.out]; exact HV.out, KB.out x9⟩

set_option maxHeartbeats 800000 in
theorem data_10 (d n m imm kind : Int) (w : World) : Calls Try.prog 13 #[.agg #[.int .i64 10, .int .i64 d, .int .i64 n, .int .i64 m, .int .i64 imm, .int .i64 kind]] w (ToldPost (GrG.toldL (GrG.dataA 10 d n m)) w) := by
  obtain ⟨a0, a1, a2, a3, a4, a5, kb⟩ := ibox6 w 10 d n m imm kind _ rfl
  have KB := Lib.hid kb
  clear kb
  have E := Lib.hid (show GrG.toldL (GrG.dataA 10 d n m) = GrG.toldL [n, m] from rfl)
  go_enter Try.func13, Try.ntmps13
  go_upto_region 1 with fail
  obtain ⟨x0, hx0⟩ : ∃ x : Wb (w.alloc (.cells #[.int .i64 10, .int .i64 d, .int .i64 n, .int .i64 m, .int .i64 imm, .int .i64 kind] 23)), w.alloc (.cells #[.int .i64 10, .int .i64 d, .int .i64 n, .int .i64 m, .int .i64 imm, .int .i64 kind] 23) = x.at := ⟨⟨_, Below.refl _ _⟩, rfl⟩
  rw [hx0]
  clear hx0
  go_wp2_with fail
  refine (told_any _ 2 [n, m] _ (by simp) (iat_new _ _ _)).mono ?_
  rintro e w1 ⟨v, rfl, hv, b⟩
  obtain ⟨x9, rfl⟩ := Wb.next1 b
  have HV := Lib.hid hv
  clear b hv
  go_wp2
  go_ret
  exact ⟨v, rfl, by rw [E.out]; exact HV.out, KB.out x9⟩

set_option maxHeartbeats 800000 in
theorem data_11 (d n m imm kind : Int) (w : World) : Calls Try.prog 13 #[.agg #[.int .i64 11, .int .i64 d, .int .i64 n, .int .i64 m, .int .i64 imm, .int .i64 kind]] w (ToldPost (GrG.toldL (GrG.dataA 11 d n m)) w) := by
  obtain ⟨a0, a1, a2, a3, a4, a5, kb⟩ := ibox6 w 11 d n m imm kind _ rfl
  have KB := Lib.hid kb
  clear kb
  have E := Lib.hid (show GrG.toldL (GrG.dataA 11 d n m) = GrG.toldL [n, m] from rfl)
  go_enter Try.func13, Try.ntmps13
  go_upto_region 1 with fail
  obtain ⟨x0, hx0⟩ : ∃ x : Wb (w.alloc (.cells #[.int .i64 11, .int .i64 d, .int .i64 n, .int .i64 m, .int .i64 imm, .int .i64 kind] 23)), w.alloc (.cells #[.int .i64 11, .int .i64 d, .int .i64 n, .int .i64 m, .int .i64 imm, .int .i64 kind] 23) = x.at := ⟨⟨_, Below.refl _ _⟩, rfl⟩
  rw [hx0]
  clear hx0
  go_wp2_with fail
  refine (told_any _ 2 [n, m] _ (by simp) (iat_new _ _ _)).mono ?_
  rintro e w1 ⟨v, rfl, hv, b⟩
  obtain ⟨x9, rfl⟩ := Wb.next1 b
  have HV := Lib.hid hv
  clear b hv
  go_wp2
  go_ret
  exact ⟨v, rfl, by rw [E.out]; exact HV.out, KB.out x9⟩

set_option maxHeartbeats 800000 in
theorem data_12 (d n m imm kind : Int) (w : World) : Calls Try.prog 13 #[.agg #[.int .i64 12, .int .i64 d, .int .i64 n, .int .i64 m, .int .i64 imm, .int .i64 kind]] w (ToldPost (GrG.toldL (GrG.dataA 12 d n m)) w) := by
  obtain ⟨a0, a1, a2, a3, a4, a5, kb⟩ := ibox6 w 12 d n m imm kind _ rfl
  have KB := Lib.hid kb
  clear kb
  have E := Lib.hid (show GrG.toldL (GrG.dataA 12 d n m) = GrG.toldL [n, m] from rfl)
  go_enter Try.func13, Try.ntmps13
  go_upto_region 1 with fail
  obtain ⟨x0, hx0⟩ : ∃ x : Wb (w.alloc (.cells #[.int .i64 12, .int .i64 d, .int .i64 n, .int .i64 m, .int .i64 imm, .int .i64 kind] 23)), w.alloc (.cells #[.int .i64 12, .int .i64 d, .int .i64 n, .int .i64 m, .int .i64 imm, .int .i64 kind] 23) = x.at := ⟨⟨_, Below.refl _ _⟩, rfl⟩
  rw [hx0]
  clear hx0
  go_wp2_with fail
  refine (told_any _ 2 [n, m] _ (by simp) (iat_new _ _ _)).mono ?_
  rintro e w1 ⟨v, rfl, hv, b⟩
  obtain ⟨x9, rfl⟩ := Wb.next1 b
  have HV := Lib.hid hv
  clear b hv
  go_wp2
  go_ret
  exact ⟨v, rfl, by rw [E.out]; exact HV.out, KB.out x9⟩

set_option maxHeartbeats 800000 in
theorem data_13 (d n m imm kind : Int) (w : World) : Calls Try.prog 13 #[.agg #[.int .i64 13, .int .i64 d, .int .i64 n, .int .i64 m, .int .i64 imm, .int .i64 kind]] w (ToldPost (GrG.toldL (GrG.dataA 13 d n m)) w) := by
  obtain ⟨a0, a1, a2, a3, a4, a5, kb⟩ := ibox6 w 13 d n m imm kind _ rfl
  have KB := Lib.hid kb
  clear kb
  have E := Lib.hid (show GrG.toldL (GrG.dataA 13 d n m) = GrG.toldL [n, m] from rfl)
  go_enter Try.func13, Try.ntmps13
  go_upto_region 1 with fail
  obtain ⟨x0, hx0⟩ : ∃ x : Wb (w.alloc (.cells #[.int .i64 13, .int .i64 d, .int .i64 n, .int .i64 m, .int .i64 imm, .int .i64 kind] 23)), w.alloc (.cells #[.int .i64 13, .int .i64 d, .int .i64 n, .int .i64 m, .int .i64 imm, .int .i64 kind] 23) = x.at := ⟨⟨_, Below.refl _ _⟩, rfl⟩
  rw [hx0]
  clear hx0
  go_wp2_with fail
  refine (told_any _ 2 [n, m] _ (by simp) (iat_new _ _ _)).mono ?_
  rintro e w1 ⟨v, rfl, hv, b⟩
  obtain ⟨x9, rfl⟩ := Wb.next1 b
  have HV := Lib.hid hv
  clear b hv
  go_wp2
  go_ret
  exact ⟨v, rfl, by rw [E.out]; exact HV.out, KB.out x9⟩

set_option maxHeartbeats 800000 in
theorem data_14 (d n m imm kind : Int) (w : World) : Calls Try.prog 13 #[.agg #[.int .i64 14, .int .i64 d, .int .i64 n, .int .i64 m, .int .i64 imm, .int .i64 kind]] w (ToldPost (GrG.toldL (GrG.dataA 14 d n m)) w) := by
  obtain ⟨a0, a1, a2, a3, a4, a5, kb⟩ := ibox6 w 14 d n m imm kind _ rfl
  have KB := Lib.hid kb
  clear kb
  have E := Lib.hid (show GrG.toldL (GrG.dataA 14 d n m) = [] from rfl)
  go_enter Try.func13, Try.ntmps13
  go_upto_region 1 with fail
  obtain ⟨x0, hx0⟩ : ∃ x : Wb (w.alloc (.cells #[.int .i64 14, .int .i64 d, .int .i64 n, .int .i64 m, .int .i64 imm, .int .i64 kind] 23)), w.alloc (.cells #[.int .i64 14, .int .i64 d, .int .i64 n, .int .i64 m, .int .i64 imm, .int .i64 kind] 23) = x.at := ⟨⟨_, Below.refl _ _⟩, rfl⟩
  rw [hx0]
  clear hx0
  go_wp2
  go_ret
  exact ⟨_, rfl, .inl ⟨rfl, E.out⟩, KB.out _⟩

set_option maxHeartbeats 800000 in
theorem data_15 (d n m imm kind : Int) (w : World) : Calls Try.prog 13 #[.agg #[.int .i64 15, .int .i64 d, .int .i64 n, .int .i64 m, .int .i64 imm, .int .i64 kind]] w (ToldPost (GrG.toldL (GrG.dataA 15 d n m)) w) := by
  obtain ⟨a0, a1, a2, a3, a4, a5, kb⟩ := ibox6 w 15 d n m imm kind _ rfl
  have KB := Lib.hid kb
  clear kb
  have E := Lib.hid (show GrG.toldL (GrG.dataA 15 d n m) = GrG.toldL [d] from rfl)
  go_enter Try.func13, Try.ntmps13
  go_upto_region 1 with fail
  obtain ⟨x0, hx0⟩ : ∃ x : Wb (w.alloc (.cells #[.int .i64 15, .int .i64 d, .int .i64 n, .int .i64 m, .int .i64 imm, .int .i64 kind] 23)), w.alloc (.cells #[.int .i64 15, .int .i64 d, .int .i64 n, .int .i64 m, .int .i64 imm, .int .i64 kind] 23) = x.at := ⟨⟨_, Below.refl _ _⟩, rfl⟩
  rw [hx0]
  clear hx0
  go_wp2_with fail
  refine (told_any _ 1 [d] _ (by simp) (iat_new _ _ _)).mono ?_
  rintro e w1 ⟨v, rfl, hv, b⟩
  obtain ⟨x9, rfl⟩ := Wb.next1 b
  have HV := Lib.hid hv
  clear b hv
  go_wp2
  go_ret
  exact ⟨v, rfl, by rw [E.out]; exact HV.out, KB.out x9⟩

set_option maxHeartbeats 800000 in
theorem data_16 (d n m imm kind : Int) (w : World) : Calls Try.prog 13 #[.agg #[.int .i64 16, .int .i64 d, .int .i64 n, .int .i64 m, .int .i64 imm, .int .i64 kind]] w (ToldPost (GrG.toldL (GrG.dataA 16 d n m)) w) := by
  obtain ⟨a0, a1, a2, a3, a4, a5, kb⟩ := ibox6 w 16 d n m imm kind _ rfl
  have KB := Lib.hid kb
  clear kb
  have E := Lib.hid (show GrG.toldL (GrG.dataA 16 d n m) = GrG.toldL [d] from rfl)
  go_enter Try.func13, Try.ntmps13
  go_upto_region 1 with fail
  obtain ⟨x0, hx0⟩ : ∃ x : Wb (w.alloc (.cells #[.int .i64 16, .int .i64 d, .int .i64 n, .int .i64 m, .int .i64 imm, .int .i64 kind] 23)), w.alloc (.cells #[.int .i64 16, .int .i64 d, .int .i64 n, .int .i64 m, .int .i64 imm, .int .i64 kind] 23) = x.at := ⟨⟨_, Below.refl _ _⟩, rfl⟩
  rw [hx0]
  clear hx0
  go_wp2_with fail
  refine (told_any _ 1 [d] _ (by simp) (iat_new _ _ _)).mono ?_
  rintro e w1 ⟨v, rfl, hv, b⟩
  obtain ⟨x9, rfl⟩ := Wb.next1 b
  have HV := Lib.hid hv
  clear b hv
  go_wp2
  go_ret
  exact ⟨v, rfl, by rw [E.out]; exact HV.out, KB.out x9⟩

set_option maxHeartbeats 800000 in
theorem data_17 (d n m imm kind : Int) (w : World) : Calls Try.prog 13 #[.agg #[.int .i64 17, .int .i64 d, .int .i64 n, .int .i64 m, .int .i64 imm, .int .i64 kind]] w (ToldPost (GrG.toldL (GrG.dataA 17 d n m)) w) := by
  obtain ⟨a0, a1, a2, a3, a4, a5, kb⟩ := ibox6 w 17 d n m imm kind _ rfl
  have KB := Lib.hid kb
  clear kb
  have E := Lib.hid (show GrG.toldL (GrG.dataA 17 d n m) = GrG.toldL [32] from rfl)
  go_enter Try.func13, Try.ntmps13
  go_upto_region 1 with fail
  obtain ⟨x0, hx0⟩ : ∃ x : Wb (w.alloc (.cells #[.int .i64 17, .int .i64 d, .int .i64 n, .int .i64 m, .int .i64 imm, .int .i64 kind] 23)), w.alloc (.cells #[.int .i64 17, .int .i64 d, .int .i64 n, .int .i64 m, .int .i64 imm, .int .i64 kind] 23) = x.at := ⟨⟨_, Below.refl _ _⟩, rfl⟩
  rw [hx0]
  clear hx0
  go_wp2_with fail
  refine (told_any _ 1 [32] _ (by simp) (iat_new _ _ _)).mono ?_
  rintro e w1 ⟨v, rfl, hv, b⟩
  obtain ⟨x9, rfl⟩ := Wb.next1 b
  have HV := Lib.hid hv
  clear b hv
  go_wp2
  go_ret
  exact ⟨v, rfl, by rw [E.out]; exact HV.out, KB.out x9⟩

set_option maxHeartbeats 800000 in
theorem data_18 (d n m imm kind : Int) (w : World) : Calls Try.prog 13 #[.agg #[.int .i64 18, .int .i64 d, .int .i64 n, .int .i64 m, .int .i64 imm, .int .i64 kind]] w (ToldPost (GrG.toldL (GrG.dataA 18 d n m)) w) := by
  obtain ⟨a0, a1, a2, a3, a4, a5, kb⟩ := ibox6 w 18 d n m imm kind _ rfl
  have KB := Lib.hid kb
  clear kb
  have E := Lib.hid (show GrG.toldL (GrG.dataA 18 d n m) = [] from rfl)
  go_enter Try.func13, Try.ntmps13
  go_upto_region 1 with fail
  obtain ⟨x0, hx0⟩ : ∃ x : Wb (w.alloc (.cells #[.int .i64 18, .int .i64 d, .int .i64 n, .int .i64 m, .int .i64 imm, .int .i64 kind] 23)), w.alloc (.cells #[.int .i64 18, .int .i64 d, .int .i64 n, .int .i64 m, .int .i64 imm, .int .i64 kind] 23) = x.at := ⟨⟨_, Below.refl _ _⟩, rfl⟩
  rw [hx0]
  clear hx0
  go_wp2
  go_ret
  exact ⟨_, rfl, .inl ⟨rfl, E.out⟩, KB.out _⟩

set_option maxHeartbeats 800000 in
theorem data_19 (d n m imm kind : Int) (w : World) : Calls Try.prog 13 #[.agg #[.int .i64 19, .int .i64 d, .int .i64 n, .int .i64 m, .int .i64 imm, .int .i64 kind]] w (ToldPost (GrG.toldL (GrG.dataA 19 d n m)) w) := by
  obtain ⟨a0, a1, a2, a3, a4, a5, kb⟩ := ibox6 w 19 d n m imm kind _ rfl
  have KB := Lib.hid kb
  clear kb
  have E := Lib.hid (show GrG.toldL (GrG.dataA 19 d n m) = [] from rfl)
  go_enter Try.func13, Try.ntmps13
  go_upto_region 1 with fail
  obtain ⟨x0, hx0⟩ : ∃ x : Wb (w.alloc (.cells #[.int .i64 19, .int .i64 d, .int .i64 n, .int .i64 m, .int .i64 imm, .int .i64 kind] 23)), w.alloc (.cells #[.int .i64 19, .int .i64 d, .int .i64 n, .int .i64 m, .int .i64 imm, .int .i64 kind] 23) = x.at := ⟨⟨_, Below.refl _ _⟩, rfl⟩
  rw [hx0]
  clear hx0
  go_wp2
  go_ret
  exact ⟨_, rfl, .inl ⟨rfl, E.out⟩, KB.out _⟩

set_option maxHeartbeats 800000 in
theorem data_20 (d n m imm kind : Int) (w : World) : Calls Try.prog 13 #[.agg #[.int .i64 20, .int .i64 d, .int .i64 n, .int .i64 m, .int .i64 imm, .int .i64 kind]] w (ToldPost (GrG.toldL (GrG.dataA 20 d n m)) w) := by
  obtain ⟨a0, a1, a2, a3, a4, a5, kb⟩ := ibox6 w 20 d n m imm kind _ rfl
  have KB := Lib.hid kb
  clear kb
  have E := Lib.hid (show GrG.toldL (GrG.dataA 20 d n m) = [] from rfl)
  go_enter Try.func13, Try.ntmps13
  go_upto_region 1 with fail
  obtain ⟨x0, hx0⟩ : ∃ x : Wb (w.alloc (.cells #[.int .i64 20, .int .i64 d, .int .i64 n, .int .i64 m, .int .i64 imm, .int .i64 kind] 23)), w.alloc (.cells #[.int .i64 20, .int .i64 d, .int .i64 n, .int .i64 m, .int .i64 imm, .int .i64 kind] 23) = x.at := ⟨⟨_, Below.refl _ _⟩, rfl⟩
  rw [hx0]
  clear hx0
  go_wp2
  go_ret
  exact ⟨_, rfl, .inl ⟨rfl, E.out⟩, KB.out _⟩

set_option maxHeartbeats 800000 in
theorem data_21 (d n m imm kind : Int) (w : World) : Calls Try.prog 13 #[.agg #[.int .i64 21, .int .i64 d, .int .i64 n, .int .i64 m, .int .i64 imm, .int .i64 kind]] w (ToldPost (GrG.toldL (GrG.dataA 21 d n m)) w) := by
  obtain ⟨a0, a1, a2, a3, a4, a5, kb⟩ := ibox6 w 21 d n m imm kind _ rfl
  have KB := Lib.hid kb
  clear kb
  have E := Lib.hid (show GrG.toldL (GrG.dataA 21 d n m) = GrG.toldL [d] from rfl)
  go_enter Try.func13, Try.ntmps13
  go_upto_region 1 with fail
  obtain ⟨x0, hx0⟩ : ∃ x : Wb (w.alloc (.cells #[.int .i64 21, .int .i64 d, .int .i64 n, .int .i64 m, .int .i64 imm, .int .i64 kind] 23)), w.alloc (.cells #[.int .i64 21, .int .i64 d, .int .i64 n, .int .i64 m, .int .i64 imm, .int .i64 kind] 23) = x.at := ⟨⟨_, Below.refl _ _⟩, rfl⟩
  rw [hx0]
  clear hx0
  go_wp2_with fail
  refine (told_any _ 1 [d] _ (by simp) (iat_new _ _ _)).mono ?_
  rintro e w1 ⟨v, rfl, hv, b⟩
  obtain ⟨x9, rfl⟩ := Wb.next1 b
  have HV := Lib.hid hv
  clear b hv
  go_wp2
  go_ret
  exact ⟨v, rfl, by rw [E.out]; exact HV.out, KB.out x9⟩

set_option maxHeartbeats 800000 in
theorem data_22 (d n m imm kind : Int) (w : World) : Calls Try.prog 13 #[.agg #[.int .i64 22, .int .i64 d, .int .i64 n, .int .i64 m, .int .i64 imm, .int .i64 kind]] w (ToldPost (GrG.toldL (GrG.dataA 22 d n m)) w) := by
  obtain ⟨a0, a1, a2, a3, a4, a5, kb⟩ := ibox6 w 22 d n m imm kind _ rfl
  have KB := Lib.hid kb
  clear kb
  have E := Lib.hid (show GrG.toldL (GrG.dataA 22 d n m) = [] from rfl)
  go_enter Try.func13, Try.ntmps13
  go_upto_region 1 with fail
  obtain ⟨x0, hx0⟩ : ∃ x : Wb (w.alloc (.cells #[.int .i64 22, .int .i64 d, .int .i64 n, .int .i64 m, .int .i64 imm, .int .i64 kind] 23)), w.alloc (.cells #[.int .i64 22, .int .i64 d, .int .i64 n, .int .i64 m, .int .i64 imm, .int .i64 kind] 23) = x.at := ⟨⟨_, Below.refl _ _⟩, rfl⟩
  rw [hx0]
  clear hx0
  go_wp2
  go_ret
  exact ⟨_, rfl, .inl ⟨rfl, E.out⟩, KB.out _⟩

set_option maxHeartbeats 800000 in
theorem data_23 (d n m imm kind : Int) (w : World) : Calls Try.prog 13 #[.agg #[.int .i64 23, .int .i64 d, .int .i64 n, .int .i64 m, .int .i64 imm, .int .i64 kind]] w (ToldPost (GrG.toldL (GrG.dataA 23 d n m)) w) := by
  obtain ⟨a0, a1, a2, a3, a4, a5, kb⟩ := ibox6 w 23 d n m imm kind _ rfl
  have KB := Lib.hid kb
  clear kb
  have E := Lib.hid (show GrG.toldL (GrG.dataA 23 d n m) = [] from rfl)
  go_enter Try.func13, Try.ntmps13
  go_upto_region 1 with fail
  obtain ⟨x0, hx0⟩ : ∃ x : Wb (w.alloc (.cells #[.int .i64 23, .int .i64 d, .int .i64 n, .int .i64 m, .int .i64 imm, .int .i64 kind] 23)), w.alloc (.cells #[.int .i64 23, .int .i64 d, .int .i64 n, .int .i64 m, .int .i64 imm, .int .i64 kind] 23) = x.at := ⟨⟨_, Below.refl _ _⟩, rfl⟩
  rw [hx0]
  clear hx0
  go_wp2
  go_ret
  exact ⟨_, rfl, .inl ⟨rfl, E.out⟩, KB.out _⟩

theorem data_any (op d n m imm kind : Int) (w : World) (ho : op = 1 ∨ op = 2 ∨ op = 3 ∨ op = 4 ∨ op = 5 ∨ op = 6 ∨ op = 7 ∨ op = 8 ∨ op = 9 ∨ op = 10 ∨ op = 11 ∨ op = 12 ∨ op = 13 ∨ op = 14 ∨ op = 15 ∨ op = 16 ∨ op = 17 ∨ op = 18 ∨ op = 19 ∨ op = 20 ∨ op = 21 ∨ op = 22 ∨ op = 23) : Calls Try.prog 13 #[.agg #[.int .i64 op, .int .i64 d, .int .i64 n, .int .i64 m, .int .i64 imm, .int .i64 kind]] w (ToldPost (GrG.toldL (GrG.dataA op d n m)) w) := by
  rcases ho with rfl | rfl | rfl | rfl | rfl | rfl | rfl | rfl | rfl | rfl | rfl | rfl | rfl | rfl | rfl | rfl | rfl | rfl | rfl | rfl | rfl | rfl | rfl
  · exact data_1 d n m imm kind w
  · exact data_2 d n m imm kind w
  · exact data_3 d n m imm kind w
  · exact data_4 d n m imm kind w
  · exact data_5 d n m imm kind w
  · exact data_6 d n m imm kind w
  · exact data_7 d n m imm kind w
  · exact data_8 d n m imm kind w
  · exact data_9 d n m imm kind w
  · exact data_10 d n m imm kind w
  · exact data_11 d n m imm kind w
  · exact data_12 d n m imm kind w
  · exact data_13 d n m imm kind w
  · exact data_14 d n m imm kind w
  · exact data_15 d n m imm kind w
  · exact data_16 d n m imm kind w
  · exact data_17 d n m imm kind w
  · exact data_18 d n m imm kind w
  · exact data_19 d n m imm kind w
  · exact data_20 d n m imm kind w
  · exact data_21 d n m imm kind w
  · exact data_22 d n m imm kind w
  · exact data_23 d n m imm kind w

set_option maxHeartbeats 800000 in
theorem pdata_1 (d n m imm kind : Int) (w : World) : Calls Try.prog 14 #[.agg #[.int .i64 1, .int .i64 d, .int .i64 n, .int .i64 m, .int .i64 imm, .int .i64 kind]] w (ToldPost (GrG.no31L (GrG.dataA 1 d n m)) w) := by
  obtain ⟨a0, a1, a2, a3, a4, a5, kb⟩ := ibox6 w 1 d n m imm kind _ rfl
  have KB := Lib.hid kb
  clear kb
  have E := Lib.hid (show GrG.no31L (GrG.dataA 1 d n m) = [] from rfl)
  have f1 : GrG.loadB 1 = false := rfl
  have f2 : GrG.storeB 1 = false := rfl
  go_enter Try.func14, Try.ntmps14
  go_upto_region 1 with fail
  obtain ⟨x0, hx0⟩ : ∃ x : Wb (w.alloc (.cells #[.int .i64 1, .int .i64 d, .int .i64 n, .int .i64 m, .int .i64 imm, .int .i64 kind] 23)), w.alloc (.cells #[.int .i64 1, .int .i64 d, .int .i64 n, .int .i64 m, .int .i64 imm, .int .i64 kind] 23) = x.at := ⟨⟨_, Below.refl _ _⟩, rfl⟩
  rw [hx0]
  clear hx0
  go_wp2_with fail
  refine (pstore_any 1 d n m imm kind _).mono ?_
  rintro e w1 ⟨rfl, b⟩
  obtain ⟨x1, rfl⟩ := (Wb.next b)
  clear b
  go_wp2_with fail
  refine (is_below 1 _ 3 [15, 16, 21] _ (by decide) (iat_new _ _ _)).mono ?_
  rintro e w1 ⟨rfl, b⟩
  obtain ⟨x2, rfl⟩ := (Wb.next1 b)
  clear b
  go_wp2_with fail
  refine (is_below 1 _ 6 [8, 9, 10, 11, 12, 13] _ (by decide) (iat_new _ _ _)).mono ?_
  rintro e w1 ⟨rfl, b⟩
  obtain ⟨x3, rfl⟩ := (Wb.next1 b)
  clear b
  go_wp2
  go_ret
  exact ⟨_, rfl, .inl ⟨rfl, E.out⟩, KB.out _⟩

set_option maxHeartbeats 800000 in
theorem pdata_2 (d n m imm kind : Int) (w : World) : Calls Try.prog 14 #[.agg #[.int .i64 2, .int .i64 d, .int .i64 n, .int .i64 m, .int .i64 imm, .int .i64 kind]] w (ToldPost (GrG.no31L (GrG.dataA 2 d n m)) w) := by
  obtain ⟨a0, a1, a2, a3, a4, a5, kb⟩ := ibox6 w 2 d n m imm kind _ rfl
  have KB := Lib.hid kb
  clear kb
  have E := Lib.hid (show GrG.no31L (GrG.dataA 2 d n m) = [] from rfl)
  have f1 : GrG.loadB 2 = true := rfl
  have f2 : GrG.storeB 2 = false := rfl
  go_enter Try.func14, Try.ntmps14
  go_upto_region 1 with fail
  obtain ⟨x0, hx0⟩ : ∃ x : Wb (w.alloc (.cells #[.int .i64 2, .int .i64 d, .int .i64 n, .int .i64 m, .int .i64 imm, .int .i64 kind] 23)), w.alloc (.cells #[.int .i64 2, .int .i64 d, .int .i64 n, .int .i64 m, .int .i64 imm, .int .i64 kind] 23) = x.at := ⟨⟨_, Below.refl _ _⟩, rfl⟩
  rw [hx0]
  clear hx0
  go_wp2_with fail
  refine (pstore_any 2 d n m imm kind _).mono ?_
  rintro e w1 ⟨rfl, b⟩
  obtain ⟨x1, rfl⟩ := (Wb.next b)
  clear b
  go_wp2_with fail
  refine (is_below 2 _ 3 [15, 16, 21] _ (by decide) (iat_new _ _ _)).mono ?_
  rintro e w1 ⟨rfl, b⟩
  obtain ⟨x2, rfl⟩ := (Wb.next1 b)
  clear b
  go_wp2_with fail
  refine (is_below 2 _ 6 [8, 9, 10, 11, 12, 13] _ (by decide) (iat_new _ _ _)).mono ?_
  rintro e w1 ⟨rfl, b⟩
  obtain ⟨x3, rfl⟩ := (Wb.next1 b)
  clear b
  go_wp2
  go_ret
  exact ⟨_, rfl, .inl ⟨rfl, E.out⟩, KB.out _⟩

set_option maxHeartbeats 800000 in
theorem pdata_3 (d n m imm kind : Int) (w : World) : Calls Try.prog 14 #[.agg #[.int .i64 3, .int .i64 d, .int .i64 n, .int .i64 m, .int .i64 imm, .int .i64 kind]] w (ToldPost (GrG.no31L (GrG.dataA 3 d n m)) w) := by
  obtain ⟨a0, a1, a2, a3, a4, a5, kb⟩ := ibox6 w 3 d n m imm kind _ rfl
  have KB := Lib.hid kb
  clear kb
  have E := Lib.hid (show GrG.no31L (GrG.dataA 3 d n m) = GrG.no31L [d] from rfl)
  have f1 : GrG.loadB 3 = false := rfl
  have f2 : GrG.storeB 3 = true := rfl
  go_enter Try.func14, Try.ntmps14
  go_upto_region 1 with fail
  obtain ⟨x0, hx0⟩ : ∃ x : Wb (w.alloc (.cells #[.int .i64 3, .int .i64 d, .int .i64 n, .int .i64 m, .int .i64 imm, .int .i64 kind] 23)), w.alloc (.cells #[.int .i64 3, .int .i64 d, .int .i64 n, .int .i64 m, .int .i64 imm, .int .i64 kind] 23) = x.at := ⟨⟨_, Below.refl _ _⟩, rfl⟩
  rw [hx0]
  clear hx0
  go_wp2_with fail
  refine (pstore_any 3 d n m imm kind _).mono ?_
  rintro e w1 ⟨rfl, b⟩
  obtain ⟨x1, rfl⟩ := (Wb.next b)
  clear b
  go_wp2_with fail
  refine (no31_any _ 1 [d] _ (by simp) (iat_new _ _ _)).mono ?_
  rintro e w1 ⟨v, rfl, hv, b⟩
  obtain ⟨x9, rfl⟩ := Wb.next1 b
  have HV := Lib.hid hv
  clear b hv
  go_wp2
  go_ret
  exact ⟨v, rfl, by rw [E.out]; exact HV.out, KB.out x9⟩

set_option maxHeartbeats 800000 in
theorem pdata_4 (d n m imm kind : Int) (w : World) : Calls Try.prog 14 #[.agg #[.int .i64 4, .int .i64 d, .int .i64 n, .int .i64 m, .int .i64 imm, .int .i64 kind]] w (ToldPost (GrG.no31L (GrG.dataA 4 d n m)) w) := by
  obtain ⟨a0, a1, a2, a3, a4, a5, kb⟩ := ibox6 w 4 d n m imm kind _ rfl
  have KB := Lib.hid kb
  clear kb
  have E := Lib.hid (show GrG.no31L (GrG.dataA 4 d n m) = [] from rfl)
  have f1 : GrG.loadB 4 = true := rfl
  have f2 : GrG.storeB 4 = false := rfl
  go_enter Try.func14, Try.ntmps14
  go_upto_region 1 with fail
  obtain ⟨x0, hx0⟩ : ∃ x : Wb (w.alloc (.cells #[.int .i64 4, .int .i64 d, .int .i64 n, .int .i64 m, .int .i64 imm, .int .i64 kind] 23)), w.alloc (.cells #[.int .i64 4, .int .i64 d, .int .i64 n, .int .i64 m, .int .i64 imm, .int .i64 kind] 23) = x.at := ⟨⟨_, Below.refl _ _⟩, rfl⟩
  rw [hx0]
  clear hx0
  go_wp2_with fail
  refine (pstore_any 4 d n m imm kind _).mono ?_
  rintro e w1 ⟨rfl, b⟩
  obtain ⟨x1, rfl⟩ := (Wb.next b)
  clear b
  go_wp2_with fail
  refine (is_below 4 _ 3 [15, 16, 21] _ (by decide) (iat_new _ _ _)).mono ?_
  rintro e w1 ⟨rfl, b⟩
  obtain ⟨x2, rfl⟩ := (Wb.next1 b)
  clear b
  go_wp2_with fail
  refine (is_below 4 _ 6 [8, 9, 10, 11, 12, 13] _ (by decide) (iat_new _ _ _)).mono ?_
  rintro e w1 ⟨rfl, b⟩
  obtain ⟨x3, rfl⟩ := (Wb.next1 b)
  clear b
  go_wp2
  go_ret
  exact ⟨_, rfl, .inl ⟨rfl, E.out⟩, KB.out _⟩

set_option maxHeartbeats 800000 in
theorem pdata_5 (d n m imm kind : Int) (w : World) : Calls Try.prog 14 #[.agg #[.int .i64 5, .int .i64 d, .int .i64 n, .int .i64 m, .int .i64 imm, .int .i64 kind]] w (ToldPost (GrG.no31L (GrG.dataA 5 d n m)) w) := by
  obtain ⟨a0, a1, a2, a3, a4, a5, kb⟩ := ibox6 w 5 d n m imm kind _ rfl
  have KB := Lib.hid kb
  clear kb
  have E := Lib.hid (show GrG.no31L (GrG.dataA 5 d n m) = GrG.no31L [d] from rfl)
  have f1 : GrG.loadB 5 = false := rfl
  have f2 : GrG.storeB 5 = true := rfl
  go_enter Try.func14, Try.ntmps14
  go_upto_region 1 with fail
  obtain ⟨x0, hx0⟩ : ∃ x : Wb (w.alloc (.cells #[.int .i64 5, .int .i64 d, .int .i64 n, .int .i64 m, .int .i64 imm, .int .i64 kind] 23)), w.alloc (.cells #[.int .i64 5, .int .i64 d, .int .i64 n, .int .i64 m, .int .i64 imm, .int .i64 kind] 23) = x.at := ⟨⟨_, Below.refl _ _⟩, rfl⟩
  rw [hx0]
  clear hx0
  go_wp2_with fail
  refine (pstore_any 5 d n m imm kind _).mono ?_
  rintro e w1 ⟨rfl, b⟩
  obtain ⟨x1, rfl⟩ := (Wb.next b)
  clear b
  go_wp2_with fail
  refine (no31_any _ 1 [d] _ (by simp) (iat_new _ _ _)).mono ?_
  rintro e w1 ⟨v, rfl, hv, b⟩
  obtain ⟨x9, rfl⟩ := Wb.next1 b
  have HV := Lib.hid hv
  clear b hv
  go_wp2
  go_ret
  exact ⟨v, rfl, by rw [E.out]; exact HV.out, KB.out x9⟩

set_option maxHeartbeats 800000 in
theorem pdata_6 (d n m imm kind : Int) (w : World) : Calls Try.prog 14 #[.agg #[.int .i64 6, .int .i64 d, .int .i64 n, .int .i64 m, .int .i64 imm, .int .i64 kind]] w (ToldPost (GrG.no31L (GrG.dataA 6 d n m)) w) := by
  obtain ⟨a0, a1, a2, a3, a4, a5, kb⟩ := ibox6 w 6 d n m imm kind _ rfl
  have KB := Lib.hid kb
  clear kb
  have E := Lib.hid (show GrG.no31L (GrG.dataA 6 d n m) = [] from rfl)
  have f1 : GrG.loadB 6 = false := rfl
  have f2 : GrG.storeB 6 = false := rfl
  go_enter Try.func14, Try.ntmps14
  go_upto_region 1 with fail
  obtain ⟨x0, hx0⟩ : ∃ x : Wb (w.alloc (.cells #[.int .i64 6, .int .i64 d, .int .i64 n, .int .i64 m, .int .i64 imm, .int .i64 kind] 23)), w.alloc (.cells #[.int .i64 6, .int .i64 d, .int .i64 n, .int .i64 m, .int .i64 imm, .int .i64 kind] 23) = x.at := ⟨⟨_, Below.refl _ _⟩, rfl⟩
  rw [hx0]
  clear hx0
  go_wp2_with fail
  refine (pstore_any 6 d n m imm kind _).mono ?_
  rintro e w1 ⟨rfl, b⟩
  obtain ⟨x1, rfl⟩ := (Wb.next b)
  clear b
  go_wp2_with fail
  refine (is_below 6 _ 3 [15, 16, 21] _ (by decide) (iat_new _ _ _)).mono ?_
  rintro e w1 ⟨rfl, b⟩
  obtain ⟨x2, rfl⟩ := (Wb.next1 b)
  clear b
  go_wp2_with fail
  refine (is_below 6 _ 6 [8, 9, 10, 11, 12, 13] _ (by decide) (iat_new _ _ _)).mono ?_
  rintro e w1 ⟨rfl, b⟩
  obtain ⟨x3, rfl⟩ := (Wb.next1 b)
  clear b
  go_wp2
  go_ret
  exact ⟨_, rfl, .inl ⟨rfl, E.out⟩, KB.out _⟩

set_option maxHeartbeats 800000 in
theorem pdata_7 (d n m imm kind : Int) (w : World) : Calls Try.prog 14 #[.agg #[.int .i64 7, .int .i64 d, .int .i64 n, .int .i64 m, .int .i64 imm, .int .i64 kind]] w (ToldPost (GrG.no31L (GrG.dataA 7 d n m)) w) := by
  obtain ⟨a0, a1, a2, a3, a4, a5, kb⟩ := ibox6 w 7 d n m imm kind _ rfl
  have KB := Lib.hid kb
  clear kb
  have E := Lib.hid (show GrG.no31L (GrG.dataA 7 d n m) = GrG.no31L [n] from rfl)
  have f1 : GrG.loadB 7 = false := rfl
  have f2 : GrG.storeB 7 = false := rfl
  go_enter Try.func14, Try.ntmps14
  go_upto_region 1 with fail
  obtain ⟨x0, hx0⟩ : ∃ x : Wb (w.alloc (.cells #[.int .i64 7, .int .i64 d, .int .i64 n, .int .i64 m, .int .i64 imm, .int .i64 kind] 23)), w.alloc (.cells #[.int .i64 7, .int .i64 d, .int .i64 n, .int .i64 m, .int .i64 imm, .int .i64 kind] 23) = x.at := ⟨⟨_, Below.refl _ _⟩, rfl⟩
  rw [hx0]
  clear hx0
  go_wp2_with fail
  refine (pstore_any 7 d n m imm kind _).mono ?_
  rintro e w1 ⟨rfl, b⟩
  obtain ⟨x1, rfl⟩ := (Wb.next b)
  clear b
  go_wp2_with fail
  refine (is_below 7 _ 3 [15, 16, 21] _ (by decide) (iat_new _ _ _)).mono ?_
  rintro e w1 ⟨rfl, b⟩
  obtain ⟨x2, rfl⟩ := (Wb.next1 b)
  clear b
  go_wp2_with fail
  refine (no31_any _ 1 [n] _ (by simp) (iat_new _ _ _)).mono ?_
  rintro e w1 ⟨v, rfl, hv, b⟩
  obtain ⟨x9, rfl⟩ := Wb.next1 b
  have HV := Lib.hid hv
  clear b hv
  go_wp2
  go_ret
  exact ⟨v, rfl, by rw [E.out]; exact HV.out, KB.out x9⟩

set_option maxHeartbeats 800000 in
theorem pdata_8 (d n m imm kind : Int) (w : World) : Calls Try.prog 14 #[.agg #[.int .i64 8, .int .i64 d, .int .i64 n, .int .i64 m, .int .i64 imm, .int .i64 kind]] w (ToldPost (GrG.no31L (GrG.dataA 8 d n m)) w) := by
  obtain ⟨a0, a1, a2, a3, a4, a5, kb⟩ := ibox6 w 8 d n m imm kind _ rfl
  have KB := Lib.hid kb
  clear kb
  have E := Lib.hid (show GrG.no31L (GrG.dataA 8 d n m) = GrG.no31L [n, m] from rfl)
  have f1 : GrG.loadB 8 = false := rfl
  have f2 : GrG.storeB 8 = false := rfl
  go_enter Try.func14, Try.ntmps14
  go_upto_region 1 with fail
  obtain ⟨x0, hx0⟩ : ∃ x : Wb (w.alloc (.cells #[.int .i64 8, .int .i64 d, .int .i64 n, .int .i64 m, .int .i64 imm, .int .i64 kind] 23)), w.alloc (.cells #[.int .i64 8, .int .i64 d, .int .i64 n, .int .i64 m, .int .i64 imm, .int .i64 kind] 23) = x.at := ⟨⟨_, Below.refl _ _⟩, rfl⟩
  rw [hx0]
  clear hx0
  go_wp2_with fail
  refine (pstore_any 8 d n m imm kind _).mono ?_
  rintro e w1 ⟨rfl, b⟩
  obtain ⟨x1, rfl⟩ := (Wb.next b)
  clear b
  go_wp2_with fail
  refine (is_below 8 _ 3 [15, 16, 21] _ (by decide) (iat_new _ _ _)).mono ?_
  rintro e w1 ⟨rfl, b⟩
  obtain ⟨x2, rfl⟩ := (Wb.next1 b)
  clear b
  go_wp2_with fail
  refine (is_below 8 _ 6 [8, 9, 10, 11, 12, 13] _ (by decide) (iat_new _ _ _)).mono ?_
  rintro e w1 ⟨rfl, b⟩
  obtain ⟨x3, rfl⟩ := (Wb.next1 b)
  clear b
  go_wp2_with fail
  refine (no31_any _ 2 [n, m] _ (by simp) (iat_new _ _ _)).mono ?_
  rintro e w1 ⟨v, rfl, hv, b⟩
  obtain ⟨x9, rfl⟩ := Wb.next1 b
  have HV := Lib.hid hv
  clear b hv
  go_wp2
  go_ret
  exact ⟨v, rfl, by rw [E.out]; exact HV.out, KB.out x9⟩

set_option maxHeartbeats 800000 in
theorem pdata_9 (d n m imm kind : Int) (w : World) : Calls Try.prog 14 #[.agg #[.int .i64 9, .int .i64 d, .int .i64 n, .int .i64 m, .int .i64 imm, .int .i64 kind]] w (ToldPost (GrG.no31L (GrG.dataA 9 d n m)) w) := by
  obtain ⟨a0, a1, a2, a3, a4, a5, kb⟩ := ibox6 w 9 d n m imm kind _ rfl
  have KB := Lib.hid kb
  clear kb
  have E := Lib.hid (show GrG.no31L (GrG.dataA 9 d n m) = GrG.no31L [n, m] from rfl)
  have f1 : GrG.loadB 9 = false := rfl
  have f2 : GrG.storeB 9 = false := rfl
  go_enter Try.func14, Try.ntmps14
  go_upto_region 1 with fail
  obtain ⟨x0, hx0⟩ : ∃ x : Wb (w.alloc (.cells #[.int .i64 9, .int .i64 d, .int .i64 n, .int .i64 m, .int .i64 imm, .int .i64 kind] 23)), w.alloc (.cells #[.int .i64 9, .int .i64 d, .int .i64 n, .int .i64 m, .int .i64 imm, .int .i64 kind] 23) = x.at := ⟨⟨_, Below.refl _ _⟩, rfl⟩
  rw [hx0]
  clear hx0
  go_wp2_with fail
  refine (pstore_any 9 d n m imm kind _).mono ?_
  rintro e w1 ⟨rfl, b⟩
  obtain ⟨x1, rfl⟩ := (Wb.next b)
  clear b
  go_wp2_with fail
  refine (is_below 9 _ 3 [15, 16, 21] _ (by decide) (iat_new _ _ _)).mono ?_
  rintro e w1 ⟨rfl, b⟩
  obtain ⟨x2, rfl⟩ := (Wb.next1 b)
  clear b
  go_wp2_with fail
  refine (is_below 9 _ 6 [8, 9, 10, 11, 12, 13] _ (by decide) (iat_new _ _ _)).mono ?_
  rintro e w1 ⟨rfl, b⟩
  obtain ⟨x3, rfl⟩ := (Wb.next1 b)
  clear b
  go_wp2_with fail
  refine (no31_any _ 2 [n, m] _ (by simp) (iat_new _ _ _)).mono ?_
  rintro e w1 ⟨v, rfl, hv, b⟩
  obtain ⟨x9, rfl⟩ := Wb.next1 b
  have HV := Lib.hid hv
  clear b hv
  go_wp2
  go_ret
  exact ⟨v, rfl, by rw [E.out]; exact HV.out, KB.out x9⟩

set_option maxHeartbeats 800000 in
theorem pdata_10 (d n m imm kind : Int) (w : World) : Calls Try.prog 14 #[.agg #[.int .i64 10, .int .i64 d, .int .i64 n, .int .i64 m, .int .i64 imm, .int .i64 kind]] w (ToldPost (GrG.no31L (GrG.dataA 10 d n m)) w) := by
  obtain ⟨a0, a1, a2, a3, a4, a5, kb⟩ := ibox6 w 10 d n m imm kind _ rfl
  have KB := Lib.hid kb
  clear kb
  have E := Lib.hid (show GrG.no31L (GrG.dataA 10 d n m) = GrG.no31L [n, m] from rfl)
  have f1 : GrG.loadB 10 = false := rfl
  have f2 : GrG.storeB 10 = false := rfl
  go_enter Try.func14, Try.ntmps14
  go_upto_region 1 with fail
  obtain ⟨x0, hx0⟩ : ∃ x : Wb (w.alloc (.cells #[.int .i64 10, .int .i64 d, .int .i64 n, .int .i64 m, .int .i64 imm, .int .i64 kind] 23)), w.alloc (.cells #[.int .i64 10, .int .i64 d, .int .i64 n, .int .i64 m, .int .i64 imm, .int .i64 kind] 23) = x.at := ⟨⟨_, Below.refl _ _⟩, rfl⟩
  rw [hx0]
  clear hx0
  go_wp2_with fail
  refine (pstore_any 10 d n m imm kind _).mono ?_
  rintro e w1 ⟨rfl, b⟩
  obtain ⟨x1, rfl⟩ := (Wb.next b)
  clear b
  go_wp2_with fail
  refine (is_below 10 _ 3 [15, 16, 21] _ (by decide) (iat_new _ _ _)).mono ?_
  rintro e w1 ⟨rfl, b⟩
  obtain ⟨x2, rfl⟩ := (Wb.next1 b)
  clear b
  go_wp2_with fail
  refine (is_below 10 _ 6 [8, 9, 10, 11, 12, 13] _ (by decide) (iat_new _ _ _)).mono ?_
  rintro e w1 ⟨rfl, b⟩
  obtain ⟨x3, rfl⟩ := (Wb.next1 b)
  clear b
  go_wp2_with fail
  refine (no31_any _ 2 [n, m] _ (by simp) (iat_new _ _ _)).mono ?_
  rintro e w1 ⟨v, rfl, hv, b⟩
  obtain ⟨x9, rfl⟩ := Wb.next1 b
  have HV := Lib.hid hv
  clear b hv
  go_wp2
  go_ret
  exact ⟨v, rfl, by rw [E.out]; exact HV.out, KB.out x9⟩

set_option maxHeartbeats 800000 in
theorem pdata_11 (d n m imm kind : Int) (w : World) : Calls Try.prog 14 #[.agg #[.int .i64 11, .int .i64 d, .int .i64 n, .int .i64 m, .int .i64 imm, .int .i64 kind]] w (ToldPost (GrG.no31L (GrG.dataA 11 d n m)) w) := by
  obtain ⟨a0, a1, a2, a3, a4, a5, kb⟩ := ibox6 w 11 d n m imm kind _ rfl
  have KB := Lib.hid kb
  clear kb
  have E := Lib.hid (show GrG.no31L (GrG.dataA 11 d n m) = GrG.no31L [n, m] from rfl)
  have f1 : GrG.loadB 11 = false := rfl
  have f2 : GrG.storeB 11 = false := rfl
  go_enter Try.func14, Try.ntmps14
  go_upto_region 1 with fail
  obtain ⟨x0, hx0⟩ : ∃ x : Wb (w.alloc (.cells #[.int .i64 11, .int .i64 d, .int .i64 n, .int .i64 m, .int .i64 imm, .int .i64 kind] 23)), w.alloc (.cells #[.int .i64 11, .int .i64 d, .int .i64 n, .int .i64 m, .int .i64 imm, .int .i64 kind] 23) = x.at := ⟨⟨_, Below.refl _ _⟩, rfl⟩
  rw [hx0]
  clear hx0
  go_wp2_with fail
  refine (pstore_any 11 d n m imm kind _).mono ?_
  rintro e w1 ⟨rfl, b⟩
  obtain ⟨x1, rfl⟩ := (Wb.next b)
  clear b
  go_wp2_with fail
  refine (is_below 11 _ 3 [15, 16, 21] _ (by decide) (iat_new _ _ _)).mono ?_
  rintro e w1 ⟨rfl, b⟩
  obtain ⟨x2, rfl⟩ := (Wb.next1 b)
  clear b
  go_wp2_with fail
  refine (is_below 11 _ 6 [8, 9, 10, 11, 12, 13] _ (by decide) (iat_new _ _ _)).mono ?_
  rintro e w1 ⟨rfl, b⟩
  obtain ⟨x3, rfl⟩ := (Wb.next1 b)
  clear b
  go_wp2_with fail
  refine (no31_any _ 2 [n, m] _ (by simp) (iat_new _ _ _)).mono ?_
  rintro e w1 ⟨v, rfl, hv, b⟩
  obtain ⟨x9, rfl⟩ := Wb.next1 b
  have HV := Lib.hid hv
  clear b hv
  go_wp2
  go_ret
  exact ⟨v, rfl, by rw [E.out]; exact HV.out, KB.out x9⟩

set_option maxHeartbeats 800000 in
theorem pdata_12 (d n m imm kind : Int) (w : World) : Calls Try.prog 14 #[.agg #[.int .i64 12, .int .i64 d, .int .i64 n, .int .i64 m, .int .i64 imm, .int .i64 kind]] w (ToldPost (GrG.no31L (GrG.dataA 12 d n m)) w) := by
  obtain ⟨a0, a1, a2, a3, a4, a5, kb⟩ := ibox6 w 12 d n m imm kind _ rfl
  have KB := Lib.hid kb
  clear kb
  have E := Lib.hid (show GrG.no31L (GrG.dataA 12 d n m) = GrG.no31L [n, m] from rfl)
  have f1 : GrG.loadB 12 = false := rfl
  have f2 : GrG.storeB 12 = false := rfl
  go_enter Try.func14, Try.ntmps14
  go_upto_region 1 with fail
  obtain ⟨x0, hx0⟩ : ∃ x : Wb (w.alloc (.cells #[.int .i64 12, .int .i64 d, .int .i64 n, .int .i64 m, .int .i64 imm, .int .i64 kind] 23)), w.alloc (.cells #[.int .i64 12, .int .i64 d, .int .i64 n, .int .i64 m, .int .i64 imm, .int .i64 kind] 23) = x.at := ⟨⟨_, Below.refl _ _⟩, rfl⟩
  rw [hx0]
  clear hx0
  go_wp2_with fail
  refine (pstore_any 12 d n m imm kind _).mono ?_
  rintro e w1 ⟨rfl, b⟩
  obtain ⟨x1, rfl⟩ := (Wb.next b)
  clear b
  go_wp2_with fail
  refine (is_below 12 _ 3 [15, 16, 21] _ (by decide) (iat_new _ _ _)).mono ?_
  rintro e w1 ⟨rfl, b⟩
  obtain ⟨x2, rfl⟩ := (Wb.next1 b)
  clear b
  go_wp2_with fail
  refine (is_below 12 _ 6 [8, 9, 10, 11, 12, 13] _ (by decide) (iat_new _ _ _)).mono ?_
  rintro e w1 ⟨rfl, b⟩
  obtain ⟨x3, rfl⟩ := (Wb.next1 b)
  clear b
  go_wp2_with fail
  refine (no31_any _ 2 [n, m] _ (by simp) (iat_new _ _ _)).mono ?_
  rintro e w1 ⟨v, rfl, hv, b⟩
  obtain ⟨x9, rfl⟩ := Wb.next1 b
  have HV := Lib.hid hv
  clear b hv
  go_wp2
  go_ret
  exact ⟨v, rfl, by rw [E.out]; exact HV.out, KB.out x9⟩

set_option maxHeartbeats 800000 in
theorem pdata_13 (d n m imm kind : Int) (w : World) : Calls Try.prog 14 #[.agg #[.int .i64 13, .int .i64 d, .int .i64 n, .int .i64 m, .int .i64 imm, .int .i64 kind]] w (ToldPost (GrG.no31L (GrG.dataA 13 d n m)) w) := by
  obtain ⟨a0, a1, a2, a3, a4, a5, kb⟩ := ibox6 w 13 d n m imm kind _ rfl
  have KB := Lib.hid kb
  clear kb
  have E := Lib.hid (show GrG.no31L (GrG.dataA 13 d n m) = GrG.no31L [n, m] from rfl)
  have f1 : GrG.loadB 13 = false := rfl
  have f2 : GrG.storeB 13 = false := rfl
  go_enter Try.func14, Try.ntmps14
  go_upto_region 1 with fail
  obtain ⟨x0, hx0⟩ : ∃ x : Wb (w.alloc (.cells #[.int .i64 13, .int .i64 d, .int .i64 n, .int .i64 m, .int .i64 imm, .int .i64 kind] 23)), w.alloc (.cells #[.int .i64 13, .int .i64 d, .int .i64 n, .int .i64 m, .int .i64 imm, .int .i64 kind] 23) = x.at := ⟨⟨_, Below.refl _ _⟩, rfl⟩
  rw [hx0]
  clear hx0
  go_wp2_with fail
  refine (pstore_any 13 d n m imm kind _).mono ?_
  rintro e w1 ⟨rfl, b⟩
  obtain ⟨x1, rfl⟩ := (Wb.next b)
  clear b
  go_wp2_with fail
  refine (is_below 13 _ 3 [15, 16, 21] _ (by decide) (iat_new _ _ _)).mono ?_
  rintro e w1 ⟨rfl, b⟩
  obtain ⟨x2, rfl⟩ := (Wb.next1 b)
  clear b
  go_wp2_with fail
  refine (is_below 13 _ 6 [8, 9, 10, 11, 12, 13] _ (by decide) (iat_new _ _ _)).mono ?_
  rintro e w1 ⟨rfl, b⟩
  obtain ⟨x3, rfl⟩ := (Wb.next1 b)
  clear b
  go_wp2_with fail
  refine (no31_any _ 2 [n, m] _ (by simp) (iat_new _ _ _)).mono ?_
  rintro e w1 ⟨v, rfl, hv, b⟩
  obtain ⟨x9, rfl⟩ := Wb.next1 b
  have HV := Lib.hid hv
  clear b hv
  go_wp2
  go_ret
  exact ⟨v, rfl, by rw [E.out]; exact HV.out, KB.out x9⟩

set_option maxHeartbeats 800000 in
theorem pdata_14 (d n m imm kind : Int) (w : World) : Calls Try.prog 14 #[.agg #[.int .i64 14, .int .i64 d, .int .i64 n, .int .i64 m, .int .i64 imm, .int .i64 kind]] w (ToldPost (GrG.no31L (GrG.dataA 14 d n m)) w) := by
  obtain ⟨a0, a1, a2, a3, a4, a5, kb⟩ := ibox6 w 14 d n m imm kind _ rfl
  have KB := Lib.hid kb
  clear kb
  have E := Lib.hid (show GrG.no31L (GrG.dataA 14 d n m) = [] from rfl)
  have f1 : GrG.loadB 14 = false := rfl
  have f2 : GrG.storeB 14 = false := rfl
  go_enter Try.func14, Try.ntmps14
  go_upto_region 1 with fail
  obtain ⟨x0, hx0⟩ : ∃ x : Wb (w.alloc (.cells #[.int .i64 14, .int .i64 d, .int .i64 n, .int .i64 m, .int .i64 imm, .int .i64 kind] 23)), w.alloc (.cells #[.int .i64 14, .int .i64 d, .int .i64 n, .int .i64 m, .int .i64 imm, .int .i64 kind] 23) = x.at := ⟨⟨_, Below.refl _ _⟩, rfl⟩
  rw [hx0]
  clear hx0
  go_wp2_with fail
  refine (pstore_any 14 d n m imm kind _).mono ?_
  rintro e w1 ⟨rfl, b⟩
  obtain ⟨x1, rfl⟩ := (Wb.next b)
  clear b
  go_wp2_with fail
  refine (is_below 14 _ 3 [15, 16, 21] _ (by decide) (iat_new _ _ _)).mono ?_
  rintro e w1 ⟨rfl, b⟩
  obtain ⟨x2, rfl⟩ := (Wb.next1 b)
  clear b
  go_wp2_with fail
  refine (is_below 14 _ 6 [8, 9, 10, 11, 12, 13] _ (by decide) (iat_new _ _ _)).mono ?_
  rintro e w1 ⟨rfl, b⟩
  obtain ⟨x3, rfl⟩ := (Wb.next1 b)
  clear b
  go_wp2
  go_ret
  exact ⟨_, rfl, .inl ⟨rfl, E.out⟩, KB.out _⟩

set_option maxHeartbeats 800000 in
theorem pdata_15 (d n m imm kind : Int) (w : World) : Calls Try.prog 14 #[.agg #[.int .i64 15, .int .i64 d, .int .i64 n, .int .i64 m, .int .i64 imm, .int .i64 kind]] w (ToldPost (GrG.no31L (GrG.dataA 15 d n m)) w) := by
  obtain ⟨a0, a1, a2, a3, a4, a5, kb⟩ := ibox6 w 15 d n m imm kind _ rfl
  have KB := Lib.hid kb
  clear kb
  have E := Lib.hid (show GrG.no31L (GrG.dataA 15 d n m) = GrG.no31L [d] from rfl)
  have f1 : GrG.loadB 15 = false := rfl
  have f2 : GrG.storeB 15 = false := rfl
  go_enter Try.func14, Try.ntmps14
  go_upto_region 1 with fail
  obtain ⟨x0, hx0⟩ : ∃ x : Wb (w.alloc (.cells #[.int .i64 15, .int .i64 d, .int .i64 n, .int .i64 m, .int .i64 imm, .int .i64 kind] 23)), w.alloc (.cells #[.int .i64 15, .int .i64 d, .int .i64 n, .int .i64 m, .int .i64 imm, .int .i64 kind] 23) = x.at := ⟨⟨_, Below.refl _ _⟩, rfl⟩
  rw [hx0]
  clear hx0
  go_wp2_with fail
  refine (pstore_any 15 d n m imm kind _).mono ?_
  rintro e w1 ⟨rfl, b⟩
  obtain ⟨x1, rfl⟩ := (Wb.next b)
  clear b
  go_wp2_with fail
  refine (is_below 15 _ 3 [15, 16, 21] _ (by decide) (iat_new _ _ _)).mono ?_
  rintro e w1 ⟨rfl, b⟩
  obtain ⟨x2, rfl⟩ := (Wb.next1 b)
  clear b
  go_wp2_with fail
  refine (no31_any _ 1 [d] _ (by simp) (iat_new _ _ _)).mono ?_
  rintro e w1 ⟨v, rfl, hv, b⟩
  obtain ⟨x9, rfl⟩ := Wb.next1 b
  have HV := Lib.hid hv
  clear b hv
  go_wp2
  go_ret
  exact ⟨v, rfl, by rw [E.out]; exact HV.out, KB.out x9⟩

set_option maxHeartbeats 800000 in
theorem pdata_16 (d n m imm kind : Int) (w : World) : Calls Try.prog 14 #[.agg #[.int .i64 16, .int .i64 d, .int .i64 n, .int .i64 m, .int .i64 imm, .int .i64 kind]] w (ToldPost (GrG.no31L (GrG.dataA 16 d n m)) w) := by
  obtain ⟨a0, a1, a2, a3, a4, a5, kb⟩ := ibox6 w 16 d n m imm kind _ rfl
  have KB := Lib.hid kb
  clear kb
  have E := Lib.hid (show GrG.no31L (GrG.dataA 16 d n m) = GrG.no31L [d] from rfl)
  have f1 : GrG.loadB 16 = false := rfl
  have f2 : GrG.storeB 16 = false := rfl
  go_enter Try.func14, Try.ntmps14
  go_upto_region 1 with fail
  obtain ⟨x0, hx0⟩ : ∃ x : Wb (w.alloc (.cells #[.int .i64 16, .int .i64 d, .int .i64 n, .int .i64 m, .int .i64 imm, .int .i64 kind] 23)), w.alloc (.cells #[.int .i64 16, .int .i64 d, .int .i64 n, .int .i64 m, .int .i64 imm, .int .i64 kind] 23) = x.at := ⟨⟨_, Below.refl _ _⟩, rfl⟩
  rw [hx0]
  clear hx0
  go_wp2_with fail
  refine (pstore_any 16 d n m imm kind _).mono ?_
  rintro e w1 ⟨rfl, b⟩
  obtain ⟨x1, rfl⟩ := (Wb.next b)
  clear b
  go_wp2_with fail
  refine (is_below 16 _ 3 [15, 16, 21] _ (by decide) (iat_new _ _ _)).mono ?_
  rintro e w1 ⟨rfl, b⟩
  obtain ⟨x2, rfl⟩ := (Wb.next1 b)
  clear b
  go_wp2_with fail
  refine (no31_any _ 1 [d] _ (by simp) (iat_new _ _ _)).mono ?_
  rintro e w1 ⟨v, rfl, hv, b⟩
  obtain ⟨x9, rfl⟩ := Wb.next1 b
  have HV := Lib.hid hv
  clear b hv
  go_wp2
  go_ret
  exact ⟨v, rfl, by rw [E.out]; exact HV.out, KB.out x9⟩

set_option maxHeartbeats 800000 in
theorem pdata_17 (d n m imm kind : Int) (w : World) : Calls Try.prog 14 #[.agg #[.int .i64 17, .int .i64 d, .int .i64 n, .int .i64 m, .int .i64 imm, .int .i64 kind]] w (ToldPost (GrG.no31L (GrG.dataA 17 d n m)) w) := by
  obtain ⟨a0, a1, a2, a3, a4, a5, kb⟩ := ibox6 w 17 d n m imm kind _ rfl
  have KB := Lib.hid kb
  clear kb
  have E := Lib.hid (show GrG.no31L (GrG.dataA 17 d n m) = GrG.no31L [32] from rfl)
  have f1 : GrG.loadB 17 = false := rfl
  have f2 : GrG.storeB 17 = false := rfl
  go_enter Try.func14, Try.ntmps14
  go_upto_region 1 with fail
  obtain ⟨x0, hx0⟩ : ∃ x : Wb (w.alloc (.cells #[.int .i64 17, .int .i64 d, .int .i64 n, .int .i64 m, .int .i64 imm, .int .i64 kind] 23)), w.alloc (.cells #[.int .i64 17, .int .i64 d, .int .i64 n, .int .i64 m, .int .i64 imm, .int .i64 kind] 23) = x.at := ⟨⟨_, Below.refl _ _⟩, rfl⟩
  rw [hx0]
  clear hx0
  go_wp2_with fail
  refine (pstore_any 17 d n m imm kind _).mono ?_
  rintro e w1 ⟨rfl, b⟩
  obtain ⟨x1, rfl⟩ := (Wb.next b)
  clear b
  go_wp2_with fail
  refine (is_below 17 _ 3 [15, 16, 21] _ (by decide) (iat_new _ _ _)).mono ?_
  rintro e w1 ⟨rfl, b⟩
  obtain ⟨x2, rfl⟩ := (Wb.next1 b)
  clear b
  go_wp2_with fail
  refine (is_below 17 _ 6 [8, 9, 10, 11, 12, 13] _ (by decide) (iat_new _ _ _)).mono ?_
  rintro e w1 ⟨rfl, b⟩
  obtain ⟨x3, rfl⟩ := (Wb.next1 b)
  clear b
  go_wp2
  go_ret
  exact ⟨_, rfl, .inr ⟨_, 1, rfl, by rw [E.out]; exact iat_new _ [32] _⟩, (KB.out _).alloc (KB.out _).size _⟩

set_option maxHeartbeats 800000 in
theorem pdata_18 (d n m imm kind : Int) (w : World) : Calls Try.prog 14 #[.agg #[.int .i64 18, .int .i64 d, .int .i64 n, .int .i64 m, .int .i64 imm, .int .i64 kind]] w (ToldPost (GrG.no31L (GrG.dataA 18 d n m)) w) := by
  obtain ⟨a0, a1, a2, a3, a4, a5, kb⟩ := ibox6 w 18 d n m imm kind _ rfl
  have KB := Lib.hid kb
  clear kb
  have E := Lib.hid (show GrG.no31L (GrG.dataA 18 d n m) = [] from rfl)
  have f1 : GrG.loadB 18 = false := rfl
  have f2 : GrG.storeB 18 = false := rfl
  go_enter Try.func14, Try.ntmps14
  go_upto_region 1 with fail
  obtain ⟨x0, hx0⟩ : ∃ x : Wb (w.alloc (.cells #[.int .i64 18, .int .i64 d, .int .i64 n, .int .i64 m, .int .i64 imm, .int .i64 kind] 23)), w.alloc (.cells #[.int .i64 18, .int .i64 d, .int .i64 n, .int .i64 m, .int .i64 imm, .int .i64 kind] 23) = x.at := ⟨⟨_, Below.refl _ _⟩, rfl⟩
  rw [hx0]
  clear hx0
  go_wp2_with fail
  refine (pstore_any 18 d n m imm kind _).mono ?_
  rintro e w1 ⟨rfl, b⟩
  obtain ⟨x1, rfl⟩ := (Wb.next b)
  clear b
  go_wp2_with fail
  refine (is_below 18 _ 3 [15, 16, 21] _ (by decide) (iat_new _ _ _)).mono ?_
  rintro e w1 ⟨rfl, b⟩
  obtain ⟨x2, rfl⟩ := (Wb.next1 b)
  clear b
  go_wp2_with fail
  refine (is_below 18 _ 6 [8, 9, 10, 11, 12, 13] _ (by decide) (iat_new _ _ _)).mono ?_
  rintro e w1 ⟨rfl, b⟩
  obtain ⟨x3, rfl⟩ := (Wb.next1 b)
  clear b
  go_wp2
  go_ret
  exact ⟨_, rfl, .inl ⟨rfl, E.out⟩, KB.out _⟩

set_option maxHeartbeats 800000 in
theorem pdata_19 (d n m imm kind : Int) (w : World) : Calls Try.prog 14 #[.agg #[.int .i64 19, .int .i64 d, .int .i64 n, .int .i64 m, .int .i64 imm, .int .i64 kind]] w (ToldPost (GrG.no31L (GrG.dataA 19 d n m)) w) := by
  obtain ⟨a0, a1, a2, a3, a4, a5, kb⟩ := ibox6 w 19 d n m imm kind _ rfl
  have KB := Lib.hid kb
  clear kb
  have E := Lib.hid (show GrG.no31L (GrG.dataA 19 d n m) = [] from rfl)
  have f1 : GrG.loadB 19 = false := rfl
  have f2 : GrG.storeB 19 = false := rfl
  go_enter Try.func14, Try.ntmps14
  go_upto_region 1 with fail
  obtain ⟨x0, hx0⟩ : ∃ x : Wb (w.alloc (.cells #[.int .i64 19, .int .i64 d, .int .i64 n, .int .i64 m, .int .i64 imm, .int .i64 kind] 23)), w.alloc (.cells #[.int .i64 19, .int .i64 d, .int .i64 n, .int .i64 m, .int .i64 imm, .int .i64 kind] 23) = x.at := ⟨⟨_, Below.refl _ _⟩, rfl⟩
  rw [hx0]
  clear hx0
  go_wp2_with fail
  refine (pstore_any 19 d n m imm kind _).mono ?_
  rintro e w1 ⟨rfl, b⟩
  obtain ⟨x1, rfl⟩ := (Wb.next b)
  clear b
  go_wp2_with fail
  refine (is_below 19 _ 3 [15, 16, 21] _ (by decide) (iat_new _ _ _)).mono ?_
  rintro e w1 ⟨rfl, b⟩
  obtain ⟨x2, rfl⟩ := (Wb.next1 b)
  clear b
  go_wp2_with fail
  refine (is_below 19 _ 6 [8, 9, 10, 11, 12, 13] _ (by decide) (iat_new _ _ _)).mono ?_
  rintro e w1 ⟨rfl, b⟩
  obtain ⟨x3, rfl⟩ := (Wb.next1 b)
  clear b
  go_wp2
  go_ret
  exact ⟨_, rfl, .inl ⟨rfl, E.out⟩, KB.out _⟩

set_option maxHeartbeats 800000 in
theorem pdata_20 (d n m imm kind : Int) (w : World) : Calls Try.prog 14 #[.agg #[.int .i64 20, .int .i64 d, .int .i64 n, .int .i64 m, .int .i64 imm, .int .i64 kind]] w (ToldPost (GrG.no31L (GrG.dataA 20 d n m)) w) := by
  obtain ⟨a0, a1, a2, a3, a4, a5, kb⟩ := ibox6 w 20 d n m imm kind _ rfl
  have KB := Lib.hid kb
  clear kb
  have E := Lib.hid (show GrG.no31L (GrG.dataA 20 d n m) = [] from rfl)
  have f1 : GrG.loadB 20 = false := rfl
  have f2 : GrG.storeB 20 = false := rfl
  go_enter Try.func14, Try.ntmps14
  go_upto_region 1 with fail
  obtain ⟨x0, hx0⟩ : ∃ x : Wb (w.alloc (.cells #[.int .i64 20, .int .i64 d, .int .i64 n, .int .i64 m, .int .i64 imm, .int .i64 kind] 23)), w.alloc (.cells #[.int .i64 20, .int .i64 d, .int .i64 n, .int .i64 m, .int .i64 imm, .int .i64 kind] 23) = x.at := ⟨⟨_, Below.refl _ _⟩, rfl⟩
  rw [hx0]
  clear hx0
  go_wp2_with fail
  refine (pstore_any 20 d n m imm kind _).mono ?_
  rintro e w1 ⟨rfl, b⟩
  obtain ⟨x1, rfl⟩ := (Wb.next b)
  clear b
  go_wp2_with fail
  refine (is_below 20 _ 3 [15, 16, 21] _ (by decide) (iat_new _ _ _)).mono ?_
  rintro e w1 ⟨rfl, b⟩
  obtain ⟨x2, rfl⟩ := (Wb.next1 b)
  clear b
  go_wp2_with fail
  refine (is_below 20 _ 6 [8, 9, 10, 11, 12, 13] _ (by decide) (iat_new _ _ _)).mono ?_
  rintro e w1 ⟨rfl, b⟩
  obtain ⟨x3, rfl⟩ := (Wb.next1 b)
  clear b
  go_wp2
  go_ret
  exact ⟨_, rfl, .inl ⟨rfl, E.out⟩, KB.out _⟩

set_option maxHeartbeats 800000 in
theorem pdata_21 (d n m imm kind : Int) (w : World) : Calls Try.prog 14 #[.agg #[.int .i64 21, .int .i64 d, .int .i64 n, .int .i64 m, .int .i64 imm, .int .i64 kind]] w (ToldPost (GrG.no31L (GrG.dataA 21 d n m)) w) := by
  obtain ⟨a0, a1, a2, a3, a4, a5, kb⟩ := ibox6 w 21 d n m imm kind _ rfl
  have KB := Lib.hid kb
  clear kb
  have E := Lib.hid (show GrG.no31L (GrG.dataA 21 d n m) = GrG.no31L [d] from rfl)
  have f1 : GrG.loadB 21 = false := rfl
  have f2 : GrG.storeB 21 = false := rfl
  go_enter Try.func14, Try.ntmps14
  go_upto_region 1 with fail
  obtain ⟨x0, hx0⟩ : ∃ x : Wb (w.alloc (.cells #[.int .i64 21, .int .i64 d, .int .i64 n, .int .i64 m, .int .i64 imm, .int .i64 kind] 23)), w.alloc (.cells #[.int .i64 21, .int .i64 d, .int .i64 n, .int .i64 m, .int .i64 imm, .int .i64 kind] 23) = x.at := ⟨⟨_, Below.refl _ _⟩, rfl⟩
  rw [hx0]
  clear hx0
  go_wp2_with fail
  refine (pstore_any 21 d n m imm kind _).mono ?_
  rintro e w1 ⟨rfl, b⟩
  obtain ⟨x1, rfl⟩ := (Wb.next b)
  clear b
  go_wp2_with fail
  refine (is_below 21 _ 3 [15, 16, 21] _ (by decide) (iat_new _ _ _)).mono ?_
  rintro e w1 ⟨rfl, b⟩
  obtain ⟨x2, rfl⟩ := (Wb.next1 b)
  clear b
  go_wp2_with fail
  refine (no31_any _ 1 [d] _ (by simp) (iat_new _ _ _)).mono ?_
  rintro e w1 ⟨v, rfl, hv, b⟩
  obtain ⟨x9, rfl⟩ := Wb.next1 b
  have HV := Lib.hid hv
  clear b hv
  go_wp2
  go_ret
  exact ⟨v, rfl, by rw [E.out]; exact HV.out, KB.out x9⟩

set_option maxHeartbeats 800000 in
theorem pdata_22 (d n m imm kind : Int) (w : World) : Calls Try.prog 14 #[.agg #[.int .i64 22, .int .i64 d, .int .i64 n, .int .i64 m, .int .i64 imm, .int .i64 kind]] w (ToldPost (GrG.no31L (GrG.dataA 22 d n m)) w) := by
  obtain ⟨a0, a1, a2, a3, a4, a5, kb⟩ := ibox6 w 22 d n m imm kind _ rfl
  have KB := Lib.hid kb
  clear kb
  have E := Lib.hid (show GrG.no31L (GrG.dataA 22 d n m) = [] from rfl)
  have f1 : GrG.loadB 22 = false := rfl
  have f2 : GrG.storeB 22 = false := rfl
  go_enter Try.func14, Try.ntmps14
  go_upto_region 1 with fail
  obtain ⟨x0, hx0⟩ : ∃ x : Wb (w.alloc (.cells #[.int .i64 22, .int .i64 d, .int .i64 n, .int .i64 m, .int .i64 imm, .int .i64 kind] 23)), w.alloc (.cells #[.int .i64 22, .int .i64 d, .int .i64 n, .int .i64 m, .int .i64 imm, .int .i64 kind] 23) = x.at := ⟨⟨_, Below.refl _ _⟩, rfl⟩
  rw [hx0]
  clear hx0
  go_wp2_with fail
  refine (pstore_any 22 d n m imm kind _).mono ?_
  rintro e w1 ⟨rfl, b⟩
  obtain ⟨x1, rfl⟩ := (Wb.next b)
  clear b
  go_wp2_with fail
  refine (is_below 22 _ 3 [15, 16, 21] _ (by decide) (iat_new _ _ _)).mono ?_
  rintro e w1 ⟨rfl, b⟩
  obtain ⟨x2, rfl⟩ := (Wb.next1 b)
  clear b
  go_wp2_with fail
  refine (is_below 22 _ 6 [8, 9, 10, 11, 12, 13] _ (by decide) (iat_new _ _ _)).mono ?_
  rintro e w1 ⟨rfl, b⟩
  obtain ⟨x3, rfl⟩ := (Wb.next1 b)
  clear b
  go_wp2
  go_ret
  exact ⟨_, rfl, .inl ⟨rfl, E.out⟩, KB.out _⟩

set_option maxHeartbeats 800000 in
theorem pdata_23 (d n m imm kind : Int) (w : World) : Calls Try.prog 14 #[.agg #[.int .i64 23, .int .i64 d, .int .i64 n, .int .i64 m, .int .i64 imm, .int .i64 kind]] w (ToldPost (GrG.no31L (GrG.dataA 23 d n m)) w) := by
  obtain ⟨a0, a1, a2, a3, a4, a5, kb⟩ := ibox6 w 23 d n m imm kind _ rfl
  have KB := Lib.hid kb
  clear kb
  have E := Lib.hid (show GrG.no31L (GrG.dataA 23 d n m) = [] from rfl)
  have f1 : GrG.loadB 23 = false := rfl
  have f2 : GrG.storeB 23 = false := rfl
  go_enter Try.func14, Try.ntmps14
  go_upto_region 1 with fail
  obtain ⟨x0, hx0⟩ : ∃ x : Wb (w.alloc (.cells #[.int .i64 23, .int .i64 d, .int .i64 n, .int .i64 m, .int .i64 imm, .int .i64 kind] 23)), w.alloc (.cells #[.int .i64 23, .int .i64 d, .int .i64 n, .int .i64 m, .int .i64 imm, .int .i64 kind] 23) = x.at := ⟨⟨_, Below.refl _ _⟩, rfl⟩
  rw [hx0]
  clear hx0
  go_wp2_with fail
  refine (pstore_any 23 d n m imm kind _).mono ?_
  rintro e w1 ⟨rfl, b⟩
  obtain ⟨x1, rfl⟩ := (Wb.next b)
  clear b
  go_wp2_with fail
  refine (is_below 23 _ 3 [15, 16, 21] _ (by decide) (iat_new _ _ _)).mono ?_
  rintro e w1 ⟨rfl, b⟩
  obtain ⟨x2, rfl⟩ := (Wb.next1 b)
  clear b
  go_wp2_with fail
  refine (is_below 23 _ 6 [8, 9, 10, 11, 12, 13] _ (by decide) (iat_new _ _ _)).mono ?_
  rintro e w1 ⟨rfl, b⟩
  obtain ⟨x3, rfl⟩ := (Wb.next1 b)
  clear b
  go_wp2
  go_ret
  exact ⟨_, rfl, .inl ⟨rfl, E.out⟩, KB.out _⟩

theorem pdata_any (op d n m imm kind : Int) (w : World) (ho : op = 1 ∨ op = 2 ∨ op = 3 ∨ op = 4 ∨ op = 5 ∨ op = 6 ∨ op = 7 ∨ op = 8 ∨ op = 9 ∨ op = 10 ∨ op = 11 ∨ op = 12 ∨ op = 13 ∨ op = 14 ∨ op = 15 ∨ op = 16 ∨ op = 17 ∨ op = 18 ∨ op = 19 ∨ op = 20 ∨ op = 21 ∨ op = 22 ∨ op = 23) : Calls Try.prog 14 #[.agg #[.int .i64 op, .int .i64 d, .int .i64 n, .int .i64 m, .int .i64 imm, .int .i64 kind]] w (ToldPost (GrG.no31L (GrG.dataA op d n m)) w) := by
  rcases ho with rfl | rfl | rfl | rfl | rfl | rfl | rfl | rfl | rfl | rfl | rfl | rfl | rfl | rfl | rfl | rfl | rfl | rfl | rfl | rfl | rfl | rfl | rfl
  · exact pdata_1 d n m imm kind w
  · exact pdata_2 d n m imm kind w
  · exact pdata_3 d n m imm kind w
  · exact pdata_4 d n m imm kind w
  · exact pdata_5 d n m imm kind w
  · exact pdata_6 d n m imm kind w
  · exact pdata_7 d n m imm kind w
  · exact pdata_8 d n m imm kind w
  · exact pdata_9 d n m imm kind w
  · exact pdata_10 d n m imm kind w
  · exact pdata_11 d n m imm kind w
  · exact pdata_12 d n m imm kind w
  · exact pdata_13 d n m imm kind w
  · exact pdata_14 d n m imm kind w
  · exact pdata_15 d n m imm kind w
  · exact pdata_16 d n m imm kind w
  · exact pdata_17 d n m imm kind w
  · exact pdata_18 d n m imm kind w
  · exact pdata_19 d n m imm kind w
  · exact pdata_20 d n m imm kind w
  · exact pdata_21 d n m imm kind w
  · exact pdata_22 d n m imm kind w
  · exact pdata_23 d n m imm kind w
end Go.Proofs.Ytnehdgapcgbdeaa
