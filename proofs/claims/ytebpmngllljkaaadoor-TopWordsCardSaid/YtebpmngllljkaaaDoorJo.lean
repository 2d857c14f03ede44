/-
  Layer 3, the code's walks: Right of an operation that there isn't, Encode of what is not right.
  Layer 3, the code's walks: Encode of what is right, and Encode, whatever it gets, op from 1 to 23.
-/
import Derived.Test.YtebpmngllljkaaaDoorMk
import Derived.Test.YtebpmngllljkaaaDoorJe
import Derived.Test.YtebpmngllljkaaaDoorJg
import Derived.Test.YtebpmngllljkaaaDoorJl
import Derived.Test.YtebpmngllljkaaaDoorJj
set_option linter.unusedSimpArgs false
set_option linter.unusedVariables false
namespace Go.Proofs.YtebpmngllljkaaaDoor
open Go.RowKit

set_option maxHeartbeats 1600000 in
theorem xenc_no (op d n m imm kind : Int) (w : World) (hs : ShAt w)
    (RI : ∀ w, ShAt w → Calls Tryd.prog 20 #[.agg #[.int .i64 op, .int .i64 d, .int .i64 n, .int .i64 m, .int .i64 imm, .int .i64 kind]] w fun e w' => e = .returned (.int .i64 30) ∧ Below w.heap.size w w') :
    Calls Tryd.prog 21 #[.agg #[.int .i64 op, .int .i64 d, .int .i64 n, .int .i64 m, .int .i64 imm, .int .i64 kind]] w fun e w' => e = .returned (.tuple #[.int .u32 0, .int .i64 30]) ∧ Below w.heap.size w w' := by
  have RI := Lib.hid RI
  have HS := Lib.hid hs
  clear hs
  go_enter Tryd.func21, Tryd.ntmps21
  go_wp2_with fail
  refine (RI.out _ (HS.out.alloc _)).mono ?_
  rintro e w1 ⟨rfl, b1⟩
  have KB := Lib.hid (((Below.refl _ _).alloc (Nat.le_refl _) _).trans (b1.mono (by simp)) : Below w.heap.size w w1)
  clear b1
  go_wp2
  go_ret2
  exact ⟨rfl, KB.out⟩

theorem xenc_bad (op d n m imm kind : Int) (w : World) (hs : ShAt w) (h0 : 1 ≤ op) (h1 : op ≤ 23) (hb0 : -9223372036854775808 ≤ imm) (hb1 : imm ≤ 9223372036854775807) (hr : ¬ GrI.right ⟨op, d, n, m, imm, kind⟩) :
    Calls Tryd.prog 21 #[.agg #[.int .i64 op, .int .i64 d, .int .i64 n, .int .i64 m, .int .i64 imm, .int .i64 kind]] w fun e w' => e = .returned (.tuple #[.int .u32 0, .int .i64 30]) ∧ Below w.heap.size w w' := by
  refine xenc_no op d n m imm kind w hs fun w hs => ?_
  have h : op = 1 ∨ op = 2 ∨ op = 3 ∨ op = 4 ∨ op = 5 ∨ op = 6 ∨ op = 7 ∨ op = 8 ∨ op = 9 ∨ op = 10 ∨ op = 11 ∨ op = 12 ∨ op = 13 ∨ op = 14 ∨ op = 15 ∨ op = 16 ∨ op = 17 ∨ op = 18 ∨ op = 19 ∨ op = 20 ∨ op = 21 ∨ op = 22 ∨ op = 23 := by omega
  have hc : GrI.code (decide (GrI.right ⟨op, d, n, m, imm, kind⟩)) = 30 := by simp [GrI.code, hr]
  rcases h with rfl | rfl | rfl | rfl | rfl | rfl | rfl | rfl | rfl | rfl | rfl | rfl | rfl | rfl | rfl | rfl | rfl | rfl | rfl | rfl | rfl | rfl | rfl
  · rw [← hc]; exact xright_1 d n m imm kind w hs hb0 hb1
  · rw [← hc]; exact xright_2 d n m imm kind w hs hb0 hb1
  · rw [← hc]; exact xright_3 d n m imm kind w hs hb0 hb1
  · rw [← hc]; exact xright_4 d n m imm kind w hs hb0 hb1
  · rw [← hc]; exact xright_5 d n m imm kind w hs hb0 hb1
  · rw [← hc]; exact xright_6 d n m imm kind w hs hb0 hb1
  · rw [← hc]; exact xright_7 d n m imm kind w hs hb0 hb1
  · rw [← hc]; exact xright_8 d n m imm kind w hs hb0 hb1
  · rw [← hc]; exact xright_9 d n m imm kind w hs hb0 hb1
  · rw [← hc]; exact xright_10 d n m imm kind w hs hb0 hb1
  · rw [← hc]; exact xright_11 d n m imm kind w hs hb0 hb1
  · rw [← hc]; exact xright_12 d n m imm kind w hs hb0 hb1
  · rw [← hc]; exact xright_13 d n m imm kind w hs hb0 hb1
  · rw [← hc]; exact xright_14 d n m imm kind w hs hb0 hb1
  · rw [← hc]; exact xright_15 d n m imm kind w hs hb0 hb1
  · rw [← hc]; exact xright_16 d n m imm kind w hs hb0 hb1
  · rw [← hc]; exact xright_17 d n m imm kind w hs hb0 hb1
  · rw [← hc]; exact xright_18 d n m imm kind w hs hb0 hb1
  · rw [← hc]; exact xright_19 d n m imm kind w hs hb0 hb1
  · rw [← hc]; exact xright_20 d n m imm kind w hs hb0 hb1
  · rw [← hc]; exact xright_21 d n m imm kind w hs hb0 hb1
  · rw [← hc]; exact xright_22 d n m imm kind w hs hb0 hb1
  · rw [← hc]; exact xright_23 d n m imm kind w hs hb0 hb1
end Go.Proofs.YtebpmngllljkaaaDoor

namespace Go.Proofs.YtebpmngllljkaaaDoor
open Go.RowKit
theorem enc_zs_1 (d n m imm kind : Int) (hr : GrI.right ⟨1, d, n, m, imm, kind⟩) : d = 0 ∧ n = 0 ∧ m = 0 ∧ imm = 0 ∧ kind = 0 := by
  simp [GrI.right, GrI.parts, GrI.nums] at hr
  omega
theorem enc_zs_2 (d n m imm kind : Int) (hr : GrI.right ⟨2, d, n, m, imm, kind⟩) : m = 0 ∧ kind = 0 := by
  simp [GrI.right, GrI.parts, GrI.nums] at hr
  omega
theorem enc_zs_3 (d n m imm kind : Int) (hr : GrI.right ⟨3, d, n, m, imm, kind⟩) : m = 0 ∧ kind = 0 := by
  simp [GrI.right, GrI.parts, GrI.nums] at hr
  omega
theorem enc_zs_4 (d n m imm kind : Int) (hr : GrI.right ⟨4, d, n, m, imm, kind⟩) : m = 0 ∧ imm = 0 ∧ kind = 0 := by
  simp [GrI.right, GrI.parts, GrI.nums] at hr
  omega
theorem enc_zs_5 (d n m imm kind : Int) (hr : GrI.right ⟨5, d, n, m, imm, kind⟩) : m = 0 ∧ imm = 0 ∧ kind = 0 := by
  simp [GrI.right, GrI.parts, GrI.nums] at hr
  omega
theorem enc_zs_6 (d n m imm kind : Int) (hr : GrI.right ⟨6, d, n, m, imm, kind⟩) : n = 0 ∧ m = 0 := by
  simp [GrI.right, GrI.parts, GrI.nums] at hr
  omega
theorem enc_zs_7 (d n m imm kind : Int) (hr : GrI.right ⟨7, d, n, m, imm, kind⟩) : m = 0 ∧ kind = 0 := by
  simp [GrI.right, GrI.parts, GrI.nums] at hr
  omega
theorem enc_zs_8 (d n m imm kind : Int) (hr : GrI.right ⟨8, d, n, m, imm, kind⟩) : imm = 0 ∧ kind = 0 := by
  simp [GrI.right, GrI.parts, GrI.nums] at hr
  omega
theorem enc_zs_9 (d n m imm kind : Int) (hr : GrI.right ⟨9, d, n, m, imm, kind⟩) : imm = 0 ∧ kind = 0 := by
  simp [GrI.right, GrI.parts, GrI.nums] at hr
  omega
theorem enc_zs_10 (d n m imm kind : Int) (hr : GrI.right ⟨10, d, n, m, imm, kind⟩) : imm = 0 ∧ kind = 0 := by
  simp [GrI.right, GrI.parts, GrI.nums] at hr
  omega
theorem enc_zs_11 (d n m imm kind : Int) (hr : GrI.right ⟨11, d, n, m, imm, kind⟩) : imm = 0 ∧ kind = 0 := by
  simp [GrI.right, GrI.parts, GrI.nums] at hr
  omega
theorem enc_zs_12 (d n m imm kind : Int) (hr : GrI.right ⟨12, d, n, m, imm, kind⟩) : imm = 0 ∧ kind = 0 := by
  simp [GrI.right, GrI.parts, GrI.nums] at hr
  omega
theorem enc_zs_13 (d n m imm kind : Int) (hr : GrI.right ⟨13, d, n, m, imm, kind⟩) : imm = 0 ∧ kind = 0 := by
  simp [GrI.right, GrI.parts, GrI.nums] at hr
  omega
theorem enc_zs_14 (d n m imm kind : Int) (hr : GrI.right ⟨14, d, n, m, imm, kind⟩) : d = 0 ∧ n = 0 ∧ m = 0 ∧ kind = 0 := by
  simp [GrI.right, GrI.parts, GrI.nums] at hr
  omega
theorem enc_zs_15 (d n m imm kind : Int) (hr : GrI.right ⟨15, d, n, m, imm, kind⟩) : n = 0 ∧ m = 0 ∧ kind = 0 := by
  simp [GrI.right, GrI.parts, GrI.nums] at hr
  omega
theorem enc_zs_16 (d n m imm kind : Int) (hr : GrI.right ⟨16, d, n, m, imm, kind⟩) : n = 0 ∧ m = 0 ∧ kind = 0 := by
  simp [GrI.right, GrI.parts, GrI.nums] at hr
  omega
theorem enc_zs_17 (d n m imm kind : Int) (hr : GrI.right ⟨17, d, n, m, imm, kind⟩) : d = 0 ∧ n = 0 ∧ m = 0 := by
  simp [GrI.right, GrI.parts, GrI.nums] at hr
  omega
theorem enc_zs_18 (d n m imm kind : Int) (hr : GrI.right ⟨18, d, n, m, imm, kind⟩) : d = 0 ∧ n = 0 ∧ m = 0 ∧ imm = 0 := by
  simp [GrI.right, GrI.parts, GrI.nums] at hr
  omega
theorem enc_zs_19 (d n m imm kind : Int) (hr : GrI.right ⟨19, d, n, m, imm, kind⟩) : d = 0 ∧ n = 0 ∧ m = 0 ∧ imm = 0 := by
  simp [GrI.right, GrI.parts, GrI.nums] at hr
  omega
theorem enc_zs_20 (d n m imm kind : Int) (hr : GrI.right ⟨20, d, n, m, imm, kind⟩) : d = 0 ∧ n = 0 ∧ m = 0 ∧ imm = 0 ∧ kind = 0 := by
  simp [GrI.right, GrI.parts, GrI.nums] at hr
  omega
theorem enc_zs_21 (d n m imm kind : Int) (hr : GrI.right ⟨21, d, n, m, imm, kind⟩) : n = 0 ∧ m = 0 ∧ imm = 0 := by
  simp [GrI.right, GrI.parts, GrI.nums] at hr
  omega
theorem enc_zs_22 (d n m imm kind : Int) (hr : GrI.right ⟨22, d, n, m, imm, kind⟩) : d = 0 ∧ n = 0 ∧ m = 0 ∧ imm = 0 ∧ kind = 0 := by
  simp [GrI.right, GrI.parts, GrI.nums] at hr
  omega
theorem enc_zs_23 (d n m imm kind : Int) (hr : GrI.right ⟨23, d, n, m, imm, kind⟩) : n = 0 ∧ m = 0 ∧ imm = 0 := by
  simp [GrI.right, GrI.parts, GrI.nums] at hr
  omega
theorem xenc_ok (op d n m imm kind : Int) (w : World) (hs : ShAt w) (hr : GrI.right ⟨op, d, n, m, imm, kind⟩) :
    Calls Tryd.prog 21 #[.agg #[.int .i64 op, .int .i64 d, .int .i64 n, .int .i64 m, .int .i64 imm, .int .i64 kind]] w fun e w' => e = .returned (.tuple #[.int .u32 (GrI.word ⟨op, d, n, m, imm, kind⟩), .int .i64 0]) ∧ Below w.heap.size w w' := by
  have h : op = 1 ∨ op = 2 ∨ op = 3 ∨ op = 4 ∨ op = 5 ∨ op = 6 ∨ op = 7 ∨ op = 8 ∨ op = 9 ∨ op = 10 ∨ op = 11 ∨ op = 12 ∨ op = 13 ∨ op = 14 ∨ op = 15 ∨ op = 16 ∨ op = 17 ∨ op = 18 ∨ op = 19 ∨ op = 20 ∨ op = 21 ∨ op = 22 ∨ op = 23 := GrI.ops hr
  rcases h with rfl | rfl | rfl | rfl | rfl | rfl | rfl | rfl | rfl | rfl | rfl | rfl | rfl | rfl | rfl | rfl | rfl | rfl | rfl | rfl | rfl | rfl | rfl
  · obtain ⟨rfl, rfl, rfl, rfl, rfl⟩ := enc_zs_1 d n m imm kind hr
    exact xenc_1  w hs hr
  · obtain ⟨rfl, rfl⟩ := enc_zs_2 d n m imm kind hr
    exact xenc_2 d n imm w hs hr
  · obtain ⟨rfl, rfl⟩ := enc_zs_3 d n m imm kind hr
    exact xenc_3 d n imm w hs hr
  · obtain ⟨rfl, rfl, rfl⟩ := enc_zs_4 d n m imm kind hr
    exact xenc_4 d n w hs hr
  · obtain ⟨rfl, rfl, rfl⟩ := enc_zs_5 d n m imm kind hr
    exact xenc_5 d n w hs hr
  · obtain ⟨rfl, rfl⟩ := enc_zs_6 d n m imm kind hr
    exact xenc_6 d imm kind w hs hr
  · obtain ⟨rfl, rfl⟩ := enc_zs_7 d n m imm kind hr
    exact xenc_7 d n imm w hs hr
  · obtain ⟨rfl, rfl⟩ := enc_zs_8 d n m imm kind hr
    exact xenc_8 d n m w hs hr
  · obtain ⟨rfl, rfl⟩ := enc_zs_9 d n m imm kind hr
    exact xenc_9 d n m w hs hr
  · obtain ⟨rfl, rfl⟩ := enc_zs_10 d n m imm kind hr
    exact xenc_10 d n m w hs hr
  · obtain ⟨rfl, rfl⟩ := enc_zs_11 d n m imm kind hr
    exact xenc_11 d n m w hs hr
  · obtain ⟨rfl, rfl⟩ := enc_zs_12 d n m imm kind hr
    exact xenc_12 d n m w hs hr
  · obtain ⟨rfl, rfl⟩ := enc_zs_13 d n m imm kind hr
    exact xenc_13 d n m w hs hr
  · obtain ⟨rfl, rfl, rfl, rfl⟩ := enc_zs_14 d n m imm kind hr
    exact xenc_14 imm w hs hr
  · obtain ⟨rfl, rfl, rfl⟩ := enc_zs_15 d n m imm kind hr
    exact xenc_15 d imm w hs hr
  · obtain ⟨rfl, rfl, rfl⟩ := enc_zs_16 d n m imm kind hr
    exact xenc_16 d imm w hs hr
  · obtain ⟨rfl, rfl, rfl⟩ := enc_zs_17 d n m imm kind hr
    exact xenc_17 imm kind w hs hr
  · obtain ⟨rfl, rfl, rfl, rfl⟩ := enc_zs_18 d n m imm kind hr
    exact xenc_18 kind w hs hr
  · obtain ⟨rfl, rfl, rfl, rfl⟩ := enc_zs_19 d n m imm kind hr
    exact xenc_19 kind w hs hr
  · obtain ⟨rfl, rfl, rfl, rfl, rfl⟩ := enc_zs_20 d n m imm kind hr
    exact xenc_20  w hs hr
  · obtain ⟨rfl, rfl, rfl⟩ := enc_zs_21 d n m imm kind hr
    exact xenc_21 d kind w hs hr
  · obtain ⟨rfl, rfl, rfl, rfl, rfl⟩ := enc_zs_22 d n m imm kind hr
    exact xenc_22  w hs hr
  · obtain ⟨rfl, rfl, rfl⟩ := enc_zs_23 d n m imm kind hr
    exact xenc_23 d kind w hs hr
theorem xenc_any (op d n m imm kind : Int) (w : World) (hs : ShAt w) (h0 : 1 ≤ op) (h1 : op ≤ 23) (hb0 : -9223372036854775808 ≤ imm) (hb1 : imm ≤ 9223372036854775807) :
    Calls Tryd.prog 21 #[.agg #[.int .i64 op, .int .i64 d, .int .i64 n, .int .i64 m, .int .i64 imm, .int .i64 kind]] w fun e w' => e = .returned (.tuple #[.int .u32 (encV ⟨op, d, n, m, imm, kind⟩), .int .i64 (GrI.code (encB ⟨op, d, n, m, imm, kind⟩))]) ∧ Below w.heap.size w w' := by
  by_cases hr : GrI.right ⟨op, d, n, m, imm, kind⟩
  · have e1 : encB ⟨op, d, n, m, imm, kind⟩ = true := by simp [encB, hr]
    rw [encV, e1]
    exact xenc_ok op d n m imm kind w hs hr
  · have e1 : encB ⟨op, d, n, m, imm, kind⟩ = false := by simp [encB, hr]
    rw [encV, e1]
    exact xenc_bad op d n m imm kind w hs h0 h1 hb0 hb1 hr
end Go.Proofs.YtebpmngllljkaaaDoor
