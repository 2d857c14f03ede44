/-
  Layer 5, the walks: which registers an instruction takes and sets.
-/
import Derived.Test.YtnehdgapcgbdeaaGh
set_option linter.unusedSimpArgs false
set_option linter.unusedVariables false
namespace GrG
def addrA (op n : Int) : List Int := if op = 2 ∨ op = 3 ∨ op = 4 ∨ op = 5 then [n] else []
def dataA (op d n m : Int) : List Int := if op = 3 ∨ op = 5 ∨ op = 15 ∨ op = 16 ∨ op = 21 then [d] else if op = 7 then [n] else if 8 ≤ op ∧ op ≤ 13 then [n, m] else if op = 17 then [32] else []
def setsA (op d : Int) : List Int := if op = 13 then [d, 32] else if op = 2 ∨ op = 4 ∨ op = 6 ∨ op = 7 ∨ (8 ≤ op ∧ op ≤ 12) ∨ op = 23 then [d] else []
end GrG
namespace Go.Proofs.Ytnehdgapcgbdeaa
open Go.RowKit
theorem told_of {w w1 w2 : World} {e : Ending} {xs : List Int} (hb : Below w.heap.size w w1) (h : ToldPost xs w1 e w2) : ToldPost xs w e w2 := by
  obtain ⟨v, e1, hv, b⟩ := h
  exact ⟨v, e1, hv, hb.trans (b.mono hb.size)⟩
theorem told_nil (w w1 : World) (hb : Below w.heap.size w w1) : ToldPost [] w (.returned (.slice none 0 0)) w1 := ⟨_, rfl, .inl ⟨rfl, rfl⟩, hb⟩

set_option maxHeartbeats 800000 in
theorem address_1 (d n m imm kind : Int) (w : World) : Calls Try.prog 11 #[.agg #[.int .i64 1, .int .i64 d, .int .i64 n, .int .i64 m, .int .i64 imm, .int .i64 kind]] w (ToldPost (GrG.toldL (GrG.addrA 1 n)) w) := by
  obtain ⟨a0, a1, a2, a3, a4, a5, kb⟩ := ibox6 w 1 d n m imm kind _ rfl
  have KB := Lib.hid kb
  clear kb
  have E := Lib.hid (show GrG.toldL (GrG.addrA 1 n) = [] from rfl)
  have f1 : GrG.loadB 1 = false := rfl
  have f2 : GrG.storeB 1 = false := rfl
  go_enter Try.func11, Try.ntmps11
  go_upto_region 1 with fail
  obtain ⟨x0, hx0⟩ : ∃ x : Wb (w.alloc (.cells #[.int .i64 1, .int .i64 d, .int .i64 n, .int .i64 m, .int .i64 imm, .int .i64 kind] 23)), w.alloc (.cells #[.int .i64 1, .int .i64 d, .int .i64 n, .int .i64 m, .int .i64 imm, .int .i64 kind] 23) = x.at := ⟨⟨_, Below.refl _ _⟩, rfl⟩
  rw [hx0]
  clear hx0
  go_wp2_with fail
  refine (access_any 1 d n m imm kind _).mono ?_
  rintro e w1 ⟨rfl, b⟩
  obtain ⟨x1, rfl⟩ := (Wb.next b)
  clear b
  go_wp2
  go_ret
  exact ⟨_, rfl, .inl ⟨rfl, E.out⟩, KB.out _⟩

set_option maxHeartbeats 800000 in
theorem address_2 (d n m imm kind : Int) (w : World) : Calls Try.prog 11 #[.agg #[.int .i64 2, .int .i64 d, .int .i64 n, .int .i64 m, .int .i64 imm, .int .i64 kind]] w (ToldPost (GrG.toldL (GrG.addrA 2 n)) w) := by
  obtain ⟨a0, a1, a2, a3, a4, a5, kb⟩ := ibox6 w 2 d n m imm kind _ rfl
  have KB := Lib.hid kb
  clear kb
  have E := Lib.hid (show GrG.toldL (GrG.addrA 2 n) = GrG.toldL [n] from rfl)
  have f1 : GrG.loadB 2 = true := rfl
  have f2 : GrG.storeB 2 = false := rfl
  go_enter Try.func11, Try.ntmps11
  go_upto_region 1 with fail
  obtain ⟨x0, hx0⟩ : ∃ x : Wb (w.alloc (.cells #[.int .i64 2, .int .i64 d, .int .i64 n, .int .i64 m, .int .i64 imm, .int .i64 kind] 23)), w.alloc (.cells #[.int .i64 2, .int .i64 d, .int .i64 n, .int .i64 m, .int .i64 imm, .int .i64 kind] 23) = x.at := ⟨⟨_, Below.refl _ _⟩, rfl⟩
  rw [hx0]
  clear hx0
  go_wp2_with fail
  refine (access_any 2 d n m imm kind _).mono ?_
  rintro e w1 ⟨rfl, b⟩
  obtain ⟨x1, rfl⟩ := (Wb.next b)
  clear b
  go_wp2_with fail
  refine (told_any _ 1 [n] _ (by simp) (iat_new _ _ _)).mono ?_
  rintro e w1 ⟨v, rfl, hv, b⟩
  obtain ⟨x9, rfl⟩ := Wb.next1 b
  have HV := Lib.hid hv
  clear b hv
  go_wp2
  go_ret
  exact ⟨v, rfl, by rw [E.out]; exact HV.out, KB.out x9⟩

set_option maxHeartbeats 800000 in
theorem address_3 (d n m imm kind : Int) (w : World) : Calls Try.prog 11 #[.agg #[.int .i64 3, .int .i64 d, .int .i64 n, .int .i64 m, .int .i64 imm, .int .i64 kind]] w (ToldPost (GrG.toldL (GrG.addrA 3 n)) w) := by
  obtain ⟨a0, a1, a2, a3, a4, a5, kb⟩ := ibox6 w 3 d n m imm kind _ rfl
  have KB := Lib.hid kb
  clear kb
  have E := Lib.hid (show GrG.toldL (GrG.addrA 3 n) = GrG.toldL [n] from rfl)
  have f1 : GrG.loadB 3 = false := rfl
  have f2 : GrG.storeB 3 = true := rfl
  go_enter Try.func11, Try.ntmps11
  go_upto_region 1 with fail
  obtain ⟨x0, hx0⟩ : ∃ x : Wb (w.alloc (.cells #[.int .i64 3, .int .i64 d, .int .i64 n, .int .i64 m, .int .i64 imm, .int .i64 kind] 23)), w.alloc (.cells #[.int .i64 3, .int .i64 d, .int .i64 n, .int .i64 m, .int .i64 imm, .int .i64 kind] 23) = x.at := ⟨⟨_, Below.refl _ _⟩, rfl⟩
  rw [hx0]
  clear hx0
  go_wp2_with fail
  refine (access_any 3 d n m imm kind _).mono ?_
  rintro e w1 ⟨rfl, b⟩
  obtain ⟨x1, rfl⟩ := (Wb.next b)
  clear b
  go_wp2_with fail
  refine (told_any _ 1 [n] _ (by simp) (iat_new _ _ _)).mono ?_
  rintro e w1 ⟨v, rfl, hv, b⟩
  obtain ⟨x9, rfl⟩ := Wb.next1 b
  have HV := Lib.hid hv
  clear b hv
  go_wp2
  go_ret
  exact ⟨v, rfl, by rw [E.out]; exact HV.out, KB.out x9⟩

set_option maxHeartbeats 800000 in
theorem address_4 (d n m imm kind : Int) (w : World) : Calls Try.prog 11 #[.agg #[.int .i64 4, .int .i64 d, .int .i64 n, .int .i64 m, .int .i64 imm, .int .i64 kind]] w (ToldPost (GrG.toldL (GrG.addrA 4 n)) w) := by
  obtain ⟨a0, a1, a2, a3, a4, a5, kb⟩ := ibox6 w 4 d n m imm kind _ rfl
  have KB := Lib.hid kb
  clear kb
  have E := Lib.hid (show GrG.toldL (GrG.addrA 4 n) = GrG.toldL [n] from rfl)
  have f1 : GrG.loadB 4 = true := rfl
  have f2 : GrG.storeB 4 = false := rfl
  go_enter Try.func11, Try.ntmps11
  go_upto_region 1 with fail
  obtain ⟨x0, hx0⟩ : ∃ x : Wb (w.alloc (.cells #[.int .i64 4, .int .i64 d, .int .i64 n, .int .i64 m, .int .i64 imm, .int .i64 kind] 23)), w.alloc (.cells #[.int .i64 4, .int .i64 d, .int .i64 n, .int .i64 m, .int .i64 imm, .int .i64 kind] 23) = x.at := ⟨⟨_, Below.refl _ _⟩, rfl⟩
  rw [hx0]
  clear hx0
  go_wp2_with fail
  refine (access_any 4 d n m imm kind _).mono ?_
  rintro e w1 ⟨rfl, b⟩
  obtain ⟨x1, rfl⟩ := (Wb.next b)
  clear b
  go_wp2_with fail
  refine (told_any _ 1 [n] _ (by simp) (iat_new _ _ _)).mono ?_
  rintro e w1 ⟨v, rfl, hv, b⟩
  obtain ⟨x9, rfl⟩ := Wb.next1 b
  have HV := Lib.hid hv
  clear b hv
  go_wp2
  go_ret
  exact ⟨v, rfl, by rw [E.out]; exact HV.out, KB.out x9⟩

set_option maxHeartbeats 800000 in
theorem address_5 (d n m imm kind : Int) (w : World) : Calls Try.prog 11 #[.agg #[.int .i64 5, .int .i64 d, .int .i64 n, .int .i64 m, .int .i64 imm, .int .i64 kind]] w (ToldPost (GrG.toldL (GrG.addrA 5 n)) w) := by
  obtain ⟨a0, a1, a2, a3, a4, a5, kb⟩ := ibox6 w 5 d n m imm kind _ rfl
  have KB := Lib.hid kb
  clear kb
  have E := Lib.hid (show GrG.toldL (GrG.addrA 5 n) = GrG.toldL [n] from rfl)
  have f1 : GrG.loadB 5 = false := rfl
  have f2 : GrG.storeB 5 = true := rfl
  go_enter Try.func11, Try.ntmps11
  go_upto_region 1 with fail
  obtain ⟨x0, hx0⟩ : ∃ x : Wb (w.alloc (.cells #[.int .i64 5, .int .i64 d, .int .i64 n, .int .i64 m, .int .i64 imm, .int .i64 kind] 23)), w.alloc (.cells #[.int .i64 5, .int .i64 d, .int .i64 n, .int .i64 m, .int .i64 imm, .int .i64 kind] 23) = x.at := ⟨⟨_, Below.refl _ _⟩, rfl⟩
  rw [hx0]
  clear hx0
  go_wp2_with fail
  refine (access_any 5 d n m imm kind _).mono ?_
  rintro e w1 ⟨rfl, b⟩
  obtain ⟨x1, rfl⟩ := (Wb.next b)
  clear b
  go_wp2_with fail
  refine (told_any _ 1 [n] _ (by simp) (iat_new _ _ _)).mono ?_
  rintro e w1 ⟨v, rfl, hv, b⟩
  obtain ⟨x9, rfl⟩ := Wb.next1 b
  have HV := Lib.hid hv
  clear b hv
  go_wp2
  go_ret
  exact ⟨v, rfl, by rw [E.out]; exact HV.out, KB.out x9⟩

set_option maxHeartbeats 800000 in
theorem address_6 (d n m imm kind : Int) (w : World) : Calls Try.prog 11 #[.agg #[.int .i64 6, .int .i64 d, .int .i64 n, .int .i64 m, .int .i64 imm, .int .i64 kind]] w (ToldPost (GrG.toldL (GrG.addrA 6 n)) w) := by
  obtain ⟨a0, a1, a2, a3, a4, a5, kb⟩ := ibox6 w 6 d n m imm kind _ rfl
  have KB := Lib.hid kb
  clear kb
  have E := Lib.hid (show GrG.toldL (GrG.addrA 6 n) = [] from rfl)
  have f1 : GrG.loadB 6 = false := rfl
  have f2 : GrG.storeB 6 = false := rfl
  go_enter Try.func11, Try.ntmps11
  go_upto_region 1 with fail
  obtain ⟨x0, hx0⟩ : ∃ x : Wb (w.alloc (.cells #[.int .i64 6, .int .i64 d, .int .i64 n, .int .i64 m, .int .i64 imm, .int .i64 kind] 23)), w.alloc (.cells #[.int .i64 6, .int .i64 d, .int .i64 n, .int .i64 m, .int .i64 imm, .int .i64 kind] 23) = x.at := ⟨⟨_, Below.refl _ _⟩, rfl⟩
  rw [hx0]
  clear hx0
  go_wp2_with fail
  refine (access_any 6 d n m imm kind _).mono ?_
  rintro e w1 ⟨rfl, b⟩
  obtain ⟨x1, rfl⟩ := (Wb.next b)
  clear b
  go_wp2
  go_ret
  exact ⟨_, rfl, .inl ⟨rfl, E.out⟩, KB.out _⟩

set_option maxHeartbeats 800000 in
theorem address_7 (d n m imm kind : Int) (w : World) : Calls Try.prog 11 #[.agg #[.int .i64 7, .int .i64 d, .int .i64 n, .int .i64 m, .int .i64 imm, .int .i64 kind]] w (ToldPost (GrG.toldL (GrG.addrA 7 n)) w) := by
  obtain ⟨a0, a1, a2, a3, a4, a5, kb⟩ := ibox6 w 7 d n m imm kind _ rfl
  have KB := Lib.hid kb
  clear kb
  have E := Lib.hid (show GrG.toldL (GrG.addrA 7 n) = [] from rfl)
  have f1 : GrG.loadB 7 = false := rfl
  have f2 : GrG.storeB 7 = false := rfl
  go_enter Try.func11, Try.ntmps11
  go_upto_region 1 with fail
  obtain ⟨x0, hx0⟩ : ∃ x : Wb (w.alloc (.cells #[.int .i64 7, .int .i64 d, .int .i64 n, .int .i64 m, .int .i64 imm, .int .i64 kind] 23)), w.alloc (.cells #[.int .i64 7, .int .i64 d, .int .i64 n, .int .i64 m, .int .i64 imm, .int .i64 kind] 23) = x.at := ⟨⟨_, Below.refl _ _⟩, rfl⟩
  rw [hx0]
  clear hx0
  go_wp2_with fail
  refine (access_any 7 d n m imm kind _).mono ?_
  rintro e w1 ⟨rfl, b⟩
  obtain ⟨x1, rfl⟩ := (Wb.next b)
  clear b
  go_wp2
  go_ret
  exact ⟨_, rfl, .inl ⟨rfl, E.out⟩, KB.out _⟩

set_option maxHeartbeats 800000 in
theorem address_8 (d n m imm kind : Int) (w : World) : Calls Try.prog 11 #[.agg #[.int .i64 8, .int .i64 d, .int .i64 n, .int .i64 m, .int .i64 imm, .int .i64 kind]] w (ToldPost (GrG.toldL (GrG.addrA 8 n)) w) := by
  obtain ⟨a0, a1, a2, a3, a4, a5, kb⟩ := ibox6 w 8 d n m imm kind _ rfl
  have KB := Lib.hid kb
  clear kb
  have E := Lib.hid (show GrG.toldL (GrG.addrA 8 n) = [] from rfl)
  have f1 : GrG.loadB 8 = false := rfl
  have f2 : GrG.storeB 8 = false := rfl
  go_enter Try.func11, Try.ntmps11
  go_upto_region 1 with fail
  obtain ⟨x0, hx0⟩ : ∃ x : Wb (w.alloc (.cells #[.int .i64 8, .int .i64 d, .int .i64 n, .int .i64 m, .int .i64 imm, .int .i64 kind] 23)), w.alloc (.cells #[.int .i64 8, .int .i64 d, .int .i64 n, .int .i64 m, .int .i64 imm, .int .i64 kind] 23) = x.at := ⟨⟨_, Below.refl _ _⟩, rfl⟩
  rw [hx0]
  clear hx0
  go_wp2_with fail
  refine (access_any 8 d n m imm kind _).mono ?_
  rintro e w1 ⟨rfl, b⟩
  obtain ⟨x1, rfl⟩ := (Wb.next b)
  clear b
  go_wp2
  go_ret
  exact ⟨_, rfl, .inl ⟨rfl, E.out⟩, KB.out _⟩

set_option maxHeartbeats 800000 in
theorem address_9 (d n m imm kind : Int) (w : World) : Calls Try.prog 11 #[.agg #[.int .i64 9, .int .i64 d, .int .i64 n, .int .i64 m, .int .i64 imm, .int .i64 kind]] w (ToldPost (GrG.toldL (GrG.addrA 9 n)) w) := by
  obtain ⟨a0, a1, a2, a3, a4, a5, kb⟩ := ibox6 w 9 d n m imm kind _ rfl
  have KB := Lib.hid kb
  clear kb
  have E := Lib.hid (show GrG.toldL (GrG.addrA 9 n) = [] from rfl)
  have f1 : GrG.loadB 9 = false := rfl
  have f2 : GrG.storeB 9 = false := rfl
  go_enter Try.func11, Try.ntmps11
  go_upto_region 1 with fail
  obtain ⟨x0, hx0⟩ : ∃ x : Wb (w.alloc (.cells #[.int .i64 9, .int .i64 d, .int .i64 n, .int .i64 m, .int .i64 imm, .int .i64 kind] 23)), w.alloc (.cells #[.int .i64 9, .int .i64 d, .int .i64 n, .int .i64 m, .int .i64 imm, .int .i64 kind] 23) = x.at := ⟨⟨_, Below.refl _ _⟩, rfl⟩
  rw [hx0]
  clear hx0
  go_wp2_with fail
  refine (access_any 9 d n m imm kind _).mono ?_
  rintro e w1 ⟨rfl, b⟩
  obtain ⟨x1, rfl⟩ := (Wb.next b)
  clear b
  go_wp2
  go_ret
  exact ⟨_, rfl, .inl ⟨rfl, E.out⟩, KB.out _⟩

set_option maxHeartbeats 800000 in
theorem address_10 (d n m imm kind : Int) (w : World) : Calls Try.prog 11 #[.agg #[.int .i64 10, .int .i64 d, .int .i64 n, .int .i64 m, .int .i64 imm, .int .i64 kind]] w (ToldPost (GrG.toldL (GrG.addrA 10 n)) w) := by
  obtain ⟨a0, a1, a2, a3, a4, a5, kb⟩ := ibox6 w 10 d n m imm kind _ rfl
  have KB := Lib.hid kb
  clear kb
  have E := Lib.hid (show GrG.toldL (GrG.addrA 10 n) = [] from rfl)
  have f1 : GrG.loadB 10 = false := rfl
  have f2 : GrG.storeB 10 = false := rfl
  go_enter Try.func11, Try.ntmps11
  go_upto_region 1 with fail
  obtain ⟨x0, hx0⟩ : ∃ x : Wb (w.alloc (.cells #[.int .i64 10, .int .i64 d, .int .i64 n, .int .i64 m, .int .i64 imm, .int .i64 kind] 23)), w.alloc (.cells #[.int .i64 10, .int .i64 d, .int .i64 n, .int .i64 m, .int .i64 imm, .int .i64 kind] 23) = x.at := ⟨⟨_, Below.refl _ _⟩, rfl⟩
  rw [hx0]
  clear hx0
  go_wp2_with fail
  refine (access_any 10 d n m imm kind _).mono ?_
  rintro e w1 ⟨rfl, b⟩
  obtain ⟨x1, rfl⟩ := (Wb.next b)
  clear b
  go_wp2
  go_ret
  exact ⟨_, rfl, .inl ⟨rfl, E.out⟩, KB.out _⟩

set_option maxHeartbeats 800000 in
theorem address_11 (d n m imm kind : Int) (w : World) : Calls Try.prog 11 #[.agg #[.int .i64 11, .int .i64 d, .int .i64 n, .int .i64 m, .int .i64 imm, .int .i64 kind]] w (ToldPost (GrG.toldL (GrG.addrA 11 n)) w) := by
  obtain ⟨a0, a1, a2, a3, a4, a5, kb⟩ := ibox6 w 11 d n m imm kind _ rfl
  have KB := Lib.hid kb
  clear kb
  have E := Lib.hid (show GrG.toldL (GrG.addrA 11 n) = [] from rfl)
  have f1 : GrG.loadB 11 = false := rfl
  have f2 : GrG.storeB 11 = false := rfl
  go_enter Try.func11, Try.ntmps11
  go_upto_region 1 with fail
  obtain ⟨x0, hx0⟩ : ∃ x : Wb (w.alloc (.cells #[.int .i64 11, .int .i64 d, .int .i64 n, .int .i64 m, .int .i64 imm, .int .i64 kind] 23)), w.alloc (.cells #[.int .i64 11, .int .i64 d, .int .i64 n, .int .i64 m, .int .i64 imm, .int .i64 kind] 23) = x.at := ⟨⟨_, Below.refl _ _⟩, rfl⟩
  rw [hx0]
  clear hx0
  go_wp2_with fail
  refine (access_any 11 d n m imm kind _).mono ?_
  rintro e w1 ⟨rfl, b⟩
  obtain ⟨x1, rfl⟩ := (Wb.next b)
  clear b
  go_wp2
  go_ret
  exact ⟨_, rfl, .inl ⟨rfl, E.out⟩, KB.out _⟩

set_option maxHeartbeats 800000 in
theorem address_12 (d n m imm kind : Int) (w : World) : Calls Try.prog 11 #[.agg #[.int .i64 12, .int .i64 d, .int .i64 n, .int .i64 m, .int .i64 imm, .int .i64 kind]] w (ToldPost (GrG.toldL (GrG.addrA 12 n)) w) := by
  obtain ⟨a0, a1, a2, a3, a4, a5, kb⟩ := ibox6 w 12 d n m imm kind _ rfl
  have KB := Lib.hid kb
  clear kb
  have E := Lib.hid (show GrG.toldL (GrG.addrA 12 n) = [] from rfl)
  have f1 : GrG.loadB 12 = false := rfl
  have f2 : GrG.storeB 12 = false := rfl
  go_enter Try.func11, Try.ntmps11
  go_upto_region 1 with fail
  obtain ⟨x0, hx0⟩ : ∃ x : Wb (w.alloc (.cells #[.int .i64 12, .int .i64 d, .int .i64 n, .int .i64 m, .int .i64 imm, .int .i64 kind] 23)), w.alloc (.cells #[.int .i64 12, .int .i64 d, .int .i64 n, .int .i64 m, .int .i64 imm, .int .i64 kind] 23) = x.at := ⟨⟨_, Below.refl _ _⟩, rfl⟩
  rw [hx0]
  clear hx0
  go_wp2_with fail
  refine (access_any 12 d n m imm kind _).mono ?_
  rintro e w1 ⟨rfl, b⟩
  obtain ⟨x1, rfl⟩ := (Wb.next b)
  clear b
  go_wp2
  go_ret
  exact ⟨_, rfl, .inl ⟨rfl, E.out⟩, KB.out _⟩

set_option maxHeartbeats 800000 in
theorem address_13 (d n m imm kind : Int) (w : World) : Calls Try.prog 11 #[.agg #[.int .i64 13, .int .i64 d, .int .i64 n, .int .i64 m, .int .i64 imm, .int .i64 kind]] w (ToldPost (GrG.toldL (GrG.addrA 13 n)) w) := by
  obtain ⟨a0, a1, a2, a3, a4, a5, kb⟩ := ibox6 w 13 d n m imm kind _ rfl
  have KB := Lib.hid kb
  clear kb
  have E := Lib.hid (show GrG.toldL (GrG.addrA 13 n) = [] from rfl)
  have f1 : GrG.loadB 13 = false := rfl
  have f2 : GrG.storeB 13 = false := rfl
  go_enter Try.func11, Try.ntmps11
  go_upto_region 1 with fail
  obtain ⟨x0, hx0⟩ : ∃ x : Wb (w.alloc (.cells #[.int .i64 13, .int .i64 d, .int .i64 n, .int .i64 m, .int .i64 imm, .int .i64 kind] 23)), w.alloc (.cells #[.int .i64 13, .int .i64 d, .int .i64 n, .int .i64 m, .int .i64 imm, .int .i64 kind] 23) = x.at := ⟨⟨_, Below.refl _ _⟩, rfl⟩
  rw [hx0]
  clear hx0
  go_wp2_with fail
  refine (access_any 13 d n m imm kind _).mono ?_
  rintro e w1 ⟨rfl, b⟩
  obtain ⟨x1, rfl⟩ := (Wb.next b)
  clear b
  go_wp2
  go_ret
  exact ⟨_, rfl, .inl ⟨rfl, E.out⟩, KB.out _⟩

set_option maxHeartbeats 800000 in
theorem address_14 (d n m imm kind : Int) (w : World) : Calls Try.prog 11 #[.agg #[.int .i64 14, .int .i64 d, .int .i64 n, .int .i64 m, .int .i64 imm, .int .i64 kind]] w (ToldPost (GrG.toldL (GrG.addrA 14 n)) w) := by
  obtain ⟨a0, a1, a2, a3, a4, a5, kb⟩ := ibox6 w 14 d n m imm kind _ rfl
  have KB := Lib.hid kb
  clear kb
  have E := Lib.hid (show GrG.toldL (GrG.addrA 14 n) = [] from rfl)
  have f1 : GrG.loadB 14 = false := rfl
  have f2 : GrG.storeB 14 = false := rfl
  go_enter Try.func11, Try.ntmps11
  go_upto_region 1 with fail
  obtain ⟨x0, hx0⟩ : ∃ x : Wb (w.alloc (.cells #[.int .i64 14, .int .i64 d, .int .i64 n, .int .i64 m, .int .i64 imm, .int .i64 kind] 23)), w.alloc (.cells #[.int .i64 14, .int .i64 d, .int .i64 n, .int .i64 m, .int .i64 imm, .int .i64 kind] 23) = x.at := ⟨⟨_, Below.refl _ _⟩, rfl⟩
  rw [hx0]
  clear hx0
  go_wp2_with fail
  refine (access_any 14 d n m imm kind _).mono ?_
  rintro e w1 ⟨rfl, b⟩
  obtain ⟨x1, rfl⟩ := (Wb.next b)
  clear b
  go_wp2
  go_ret
  exact ⟨_, rfl, .inl ⟨rfl, E.out⟩, KB.out _⟩

set_option maxHeartbeats 800000 in
theorem address_15 (d n m imm kind : Int) (w : World) : Calls Try.prog 11 #[.agg #[.int .i64 15, .int .i64 d, .int .i64 n, .int .i64 m, .int .i64 imm, .int .i64 kind]] w (ToldPost (GrG.toldL (GrG.addrA 15 n)) w) := by
  obtain ⟨a0, a1, a2, a3, a4, a5, kb⟩ := ibox6 w 15 d n m imm kind _ rfl
  have KB := Lib.hid kb
  clear kb
  have E := Lib.hid (show GrG.toldL (GrG.addrA 15 n) = [] from rfl)
  have f1 : GrG.loadB 15 = false := rfl
  have f2 : GrG.storeB 15 = false := rfl
  go_enter Try.func11, Try.ntmps11
  go_upto_region 1 with fail
  obtain ⟨x0, hx0⟩ : ∃ x : Wb (w.alloc (.cells #[.int .i64 15, .int .i64 d, .int .i64 n, .int .i64 m, .int .i64 imm, .int .i64 kind] 23)), w.alloc (.cells #[.int .i64 15, .int .i64 d, .int .i64 n, .int .i64 m, .int .i64 imm, .int .i64 kind] 23) = x.at := ⟨⟨_, Below.refl _ _⟩, rfl⟩
  rw [hx0]
  clear hx0
  go_wp2_with fail
  refine (access_any 15 d n m imm kind _).mono ?_
  rintro e w1 ⟨rfl, b⟩
  obtain ⟨x1, rfl⟩ := (Wb.next b)
  clear b
  go_wp2
  go_ret
  exact ⟨_, rfl, .inl ⟨rfl, E.out⟩, KB.out _⟩

set_option maxHeartbeats 800000 in
theorem address_16 (d n m imm kind : Int) (w : World) : Calls Try.prog 11 #[.agg #[.int .i64 16, .int .i64 d, .int .i64 n, .int .i64 m, .int .i64 imm, .int .i64 kind]] w (ToldPost (GrG.toldL (GrG.addrA 16 n)) w) := by
  obtain ⟨a0, a1, a2, a3, a4, a5, kb⟩ := ibox6 w 16 d n m imm kind _ rfl
  have KB := Lib.hid kb
  clear kb
  have E := Lib.hid (show GrG.toldL (GrG.addrA 16 n) = [] from rfl)
  have f1 : GrG.loadB 16 = false := rfl
  have f2 : GrG.storeB 16 = false := rfl
  go_enter Try.func11, Try.ntmps11
  go_upto_region 1 with fail
  obtain ⟨x0, hx0⟩ : ∃ x : Wb (w.alloc (.cells #[.int .i64 16, .int .i64 d, .int .i64 n, .int .i64 m, .int .i64 imm, .int .i64 kind] 23)), w.alloc (.cells #[.int .i64 16, .int .i64 d, .int .i64 n, .int .i64 m, .int .i64 imm, .int .i64 kind] 23) = x.at := ⟨⟨_, Below.refl _ _⟩, rfl⟩
  rw [hx0]
  clear hx0
  go_wp2_with fail
  refine (access_any 16 d n m imm kind _).mono ?_
  rintro e w1 ⟨rfl, b⟩
  obtain ⟨x1, rfl⟩ := (Wb.next b)
  clear b
  go_wp2
  go_ret
  exact ⟨_, rfl, .inl ⟨rfl, E.out⟩, KB.out _⟩

set_option maxHeartbeats 800000 in
theorem address_17 (d n m imm kind : Int) (w : World) : Calls Try.prog 11 #[.agg #[.int .i64 17, .int .i64 d, .int .i64 n, .int .i64 m, .int .i64 imm, .int .i64 kind]] w (ToldPost (GrG.toldL (GrG.addrA 17 n)) w) := by
  obtain ⟨a0, a1, a2, a3, a4, a5, kb⟩ := ibox6 w 17 d n m imm kind _ rfl
  have KB := Lib.hid kb
  clear kb
  have E := Lib.hid (show GrG.toldL (GrG.addrA 17 n) = [] from rfl)
  have f1 : GrG.loadB 17 = false := rfl
  have f2 : GrG.storeB 17 = false := rfl
  go_enter Try.func11, Try.ntmps11
  go_upto_region 1 with fail
  obtain ⟨x0, hx0⟩ : ∃ x : Wb (w.alloc (.cells #[.int .i64 17, .int .i64 d, .int .i64 n, .int .i64 m, .int .i64 imm, .int .i64 kind] 23)), w.alloc (.cells #[.int .i64 17, .int .i64 d, .int .i64 n, .int .i64 m, .int .i64 imm, .int .i64 kind] 23) = x.at := ⟨⟨_, Below.refl _ _⟩, rfl⟩
  rw [hx0]
  clear hx0
  go_wp2_with fail
  refine (access_any 17 d n m imm kind _).mono ?_
  rintro e w1 ⟨rfl, b⟩
  obtain ⟨x1, rfl⟩ := (Wb.next b)
  clear b
  go_wp2
  go_ret
  exact ⟨_, rfl, .inl ⟨rfl, E.out⟩, KB.out _⟩

set_option maxHeartbeats 800000 in
theorem address_18 (d n m imm kind : Int) (w : World) : Calls Try.prog 11 #[.agg #[.int .i64 18, .int .i64 d, .int .i64 n, .int .i64 m, .int .i64 imm, .int .i64 kind]] w (ToldPost (GrG.toldL (GrG.addrA 18 n)) w) := by
  obtain ⟨a0, a1, a2, a3, a4, a5, kb⟩ := ibox6 w 18 d n m imm kind _ rfl
  have KB := Lib.hid kb
  clear kb
  have E := Lib.hid (show GrG.toldL (GrG.addrA 18 n) = [] from rfl)
  have f1 : GrG.loadB 18 = false := rfl
  have f2 : GrG.storeB 18 = false := rfl
  go_enter Try.func11, Try.ntmps11
  go_upto_region 1 with fail
  obtain ⟨x0, hx0⟩ : ∃ x : Wb (w.alloc (.cells #[.int .i64 18, .int .i64 d, .int .i64 n, .int .i64 m, .int .i64 imm, .int .i64 kind] 23)), w.alloc (.cells #[.int .i64 18, .int .i64 d, .int .i64 n, .int .i64 m, .int .i64 imm, .int .i64 kind] 23) = x.at := ⟨⟨_, Below.refl _ _⟩, rfl⟩
  rw [hx0]
  clear hx0
  go_wp2_with fail
  refine (access_any 18 d n m imm kind _).mono ?_
  rintro e w1 ⟨rfl, b⟩
  obtain ⟨x1, rfl⟩ := (Wb.next b)
  clear b
  go_wp2
  go_ret
  exact ⟨_, rfl, .inl ⟨rfl, E.out⟩, KB.out _⟩

set_option maxHeartbeats 800000 in
theorem address_19 (d n m imm kind : Int) (w : World) : Calls Try.prog 11 #[.agg #[.int .i64 19, .int .i64 d, .int .i64 n, .int .i64 m, .int .i64 imm, .int .i64 kind]] w (ToldPost (GrG.toldL (GrG.addrA 19 n)) w) := by
  obtain ⟨a0, a1, a2, a3, a4, a5, kb⟩ := ibox6 w 19 d n m imm kind _ rfl
  have KB := Lib.hid kb
  clear kb
  have E := Lib.hid (show GrG.toldL (GrG.addrA 19 n) = [] from rfl)
  have f1 : GrG.loadB 19 = false := rfl
  have f2 : GrG.storeB 19 = false := rfl
  go_enter Try.func11, Try.ntmps11
  go_upto_region 1 with fail
  obtain ⟨x0, hx0⟩ : ∃ x : Wb (w.alloc (.cells #[.int .i64 19, .int .i64 d, .int .i64 n, .int .i64 m, .int .i64 imm, .int .i64 kind] 23)), w.alloc (.cells #[.int .i64 19, .int .i64 d, .int .i64 n, .int .i64 m, .int .i64 imm, .int .i64 kind] 23) = x.at := ⟨⟨_, Below.refl _ _⟩, rfl⟩
  rw [hx0]
  clear hx0
  go_wp2_with fail
  refine (access_any 19 d n m imm kind _).mono ?_
  rintro e w1 ⟨rfl, b⟩
  obtain ⟨x1, rfl⟩ := (Wb.next b)
  clear b
  go_wp2
  go_ret
  exact ⟨_, rfl, .inl ⟨rfl, E.out⟩, KB.out _⟩

set_option maxHeartbeats 800000 in
theorem address_20 (d n m imm kind : Int) (w : World) : Calls Try.prog 11 #[.agg #[.int .i64 20, .int .i64 d, .int .i64 n, .int .i64 m, .int .i64 imm, .int .i64 kind]] w (ToldPost (GrG.toldL (GrG.addrA 20 n)) w) := by
  obtain ⟨a0, a1, a2, a3, a4, a5, kb⟩ := ibox6 w 20 d n m imm kind _ rfl
  have KB := Lib.hid kb
  clear kb
  have E := Lib.hid (show GrG.toldL (GrG.addrA 20 n) = [] from rfl)
  have f1 : GrG.loadB 20 = false := rfl
  have f2 : GrG.storeB 20 = false := rfl
  go_enter Try.func11, Try.ntmps11
  go_upto_region 1 with fail
  obtain ⟨x0, hx0⟩ : ∃ x : Wb (w.alloc (.cells #[.int .i64 20, .int .i64 d, .int .i64 n, .int .i64 m, .int .i64 imm, .int .i64 kind] 23)), w.alloc (.cells #[.int .i64 20, .int .i64 d, .int .i64 n, .int .i64 m, .int .i64 imm, .int .i64 kind] 23) = x.at := ⟨⟨_, Below.refl _ _⟩, rfl⟩
  rw [hx0]
  clear hx0
  go_wp2_with fail
  refine (access_any 20 d n m imm kind _).mono ?_
  rintro e w1 ⟨rfl, b⟩
  obtain ⟨x1, rfl⟩ := (Wb.next b)
  clear b
  go_wp2
  go_ret
  exact ⟨_, rfl, .inl ⟨rfl, E.out⟩, KB.out _⟩

set_option maxHeartbeats 800000 in
theorem address_21 (d n m imm kind : Int) (w : World) : Calls Try.prog 11 #[.agg #[.int .i64 21, .int .i64 d, .int .i64 n, .int .i64 m, .int .i64 imm, .int .i64 kind]] w (ToldPost (GrG.toldL (GrG.addrA 21 n)) w) := by
  obtain ⟨a0, a1, a2, a3, a4, a5, kb⟩ := ibox6 w 21 d n m imm kind _ rfl
  have KB := Lib.hid kb
  clear kb
  have E := Lib.hid (show GrG.toldL (GrG.addrA 21 n) = [] from rfl)
  have f1 : GrG.loadB 21 = false := rfl
  have f2 : GrG.storeB 21 = false := rfl
  go_enter Try.func11, Try.ntmps11
  go_upto_region 1 with fail
  obtain ⟨x0, hx0⟩ : ∃ x : Wb (w.alloc (.cells #[.int .i64 21, .int .i64 d, .int .i64 n, .int .i64 m, .int .i64 imm, .int .i64 kind] 23)), w.alloc (.cells #[.int .i64 21, .int .i64 d, .int .i64 n, .int .i64 m, .int .i64 imm, .int .i64 kind] 23) = x.at := ⟨⟨_, Below.refl _ _⟩, rfl⟩
  rw [hx0]
  clear hx0
  go_wp2_with fail
  refine (access_any 21 d n m imm kind _).mono ?_
  rintro e w1 ⟨rfl, b⟩
  obtain ⟨x1, rfl⟩ := (Wb.next b)
  clear b
  go_wp2
  go_ret
  exact ⟨_, rfl, .inl ⟨rfl, E.out⟩, KB.out _⟩

set_option maxHeartbeats 800000 in
theorem address_22 (d n m imm kind : Int) (w : World) : Calls Try.prog 11 #[.agg #[.int .i64 22, .int .i64 d, .int .i64 n, .int .i64 m, .int .i64 imm, .int .i64 kind]] w (ToldPost (GrG.toldL (GrG.addrA 22 n)) w) := by
  obtain ⟨a0, a1, a2, a3, a4, a5, kb⟩ := ibox6 w 22 d n m imm kind _ rfl
  have KB := Lib.hid kb
  clear kb
  have E := Lib.hid (show GrG.toldL (GrG.addrA 22 n) = [] from rfl)
  have f1 : GrG.loadB 22 = false := rfl
  have f2 : GrG.storeB 22 = false := rfl
  go_enter Try.func11, Try.ntmps11
  go_upto_region 1 with fail
  obtain ⟨x0, hx0⟩ : ∃ x : Wb (w.alloc (.cells #[.int .i64 22, .int .i64 d, .int .i64 n, .int .i64 m, .int .i64 imm, .int .i64 kind] 23)), w.alloc (.cells #[.int .i64 22, .int .i64 d, .int .i64 n, .int .i64 m, .int .i64 imm, .int .i64 kind] 23) = x.at := ⟨⟨_, Below.refl _ _⟩, rfl⟩
  rw [hx0]
  clear hx0
  go_wp2_with fail
  refine (access_any 22 d n m imm kind _).mono ?_
  rintro e w1 ⟨rfl, b⟩
  obtain ⟨x1, rfl⟩ := (Wb.next b)
  clear b
  go_wp2
  go_ret
  exact ⟨_, rfl, .inl ⟨rfl, E.out⟩, KB.out _⟩

set_option maxHeartbeats 800000 in
theorem address_23 (d n m imm kind : Int) (w : World) : Calls Try.prog 11 #[.agg #[.int .i64 23, .int .i64 d, .int .i64 n, .int .i64 m, .int .i64 imm, .int .i64 kind]] w (ToldPost (GrG.toldL (GrG.addrA 23 n)) w) := by
  obtain ⟨a0, a1, a2, a3, a4, a5, kb⟩ := ibox6 w 23 d n m imm kind _ rfl
  have KB := Lib.hid kb
  clear kb
  have E := Lib.hid (show GrG.toldL (GrG.addrA 23 n) = [] from rfl)
  have f1 : GrG.loadB 23 = false := rfl
  have f2 : GrG.storeB 23 = false := rfl
  go_enter Try.func11, Try.ntmps11
  go_upto_region 1 with fail
  obtain ⟨x0, hx0⟩ : ∃ x : Wb (w.alloc (.cells #[.int .i64 23, .int .i64 d, .int .i64 n, .int .i64 m, .int .i64 imm, .int .i64 kind] 23)), w.alloc (.cells #[.int .i64 23, .int .i64 d, .int .i64 n, .int .i64 m, .int .i64 imm, .int .i64 kind] 23) = x.at := ⟨⟨_, Below.refl _ _⟩, rfl⟩
  rw [hx0]
  clear hx0
  go_wp2_with fail
  refine (access_any 23 d n m imm kind _).mono ?_
  rintro e w1 ⟨rfl, b⟩
  obtain ⟨x1, rfl⟩ := (Wb.next b)
  clear b
  go_wp2
  go_ret
  exact ⟨_, rfl, .inl ⟨rfl, E.out⟩, KB.out _⟩

theorem address_any (op d n m imm kind : Int) (w : World) (ho : op = 1 ∨ op = 2 ∨ op = 3 ∨ op = 4 ∨ op = 5 ∨ op = 6 ∨ op = 7 ∨ op = 8 ∨ op = 9 ∨ op = 10 ∨ op = 11 ∨ op = 12 ∨ op = 13 ∨ op = 14 ∨ op = 15 ∨ op = 16 ∨ op = 17 ∨ op = 18 ∨ op = 19 ∨ op = 20 ∨ op = 21 ∨ op = 22 ∨ op = 23) : Calls Try.prog 11 #[.agg #[.int .i64 op, .int .i64 d, .int .i64 n, .int .i64 m, .int .i64 imm, .int .i64 kind]] w (ToldPost (GrG.toldL (GrG.addrA op n)) w) := by
  rcases ho with rfl | rfl | rfl | rfl | rfl | rfl | rfl | rfl | rfl | rfl | rfl | rfl | rfl | rfl | rfl | rfl | rfl | rfl | rfl | rfl | rfl | rfl | rfl
  · exact address_1 d n m imm kind w
  · exact address_2 d n m imm kind w
  · exact address_3 d n m imm kind w
  · exact address_4 d n m imm kind w
  · exact address_5 d n m imm kind w
  · exact address_6 d n m imm kind w
  · exact address_7 d n m imm kind w
  · exact address_8 d n m imm kind w
  · exact address_9 d n m imm kind w
  · exact address_10 d n m imm kind w
  · exact address_11 d n m imm kind w
  · exact address_12 d n m imm kind w
  · exact address_13 d n m imm kind w
  · exact address_14 d n m imm kind w
  · exact address_15 d n m imm kind w
  · exact address_16 d n m imm kind w
  · exact address_17 d n m imm kind w
  · exact address_18 d n m imm kind w
  · exact address_19 d n m imm kind w
  · exact address_20 d n m imm kind w
  · exact address_21 d n m imm kind w
  · exact address_22 d n m imm kind w
  · exact address_23 d n m imm kind w

set_option maxHeartbeats 800000 in
theorem paddress_1 (d n m imm kind : Int) (w : World) : Calls Try.prog 12 #[.agg #[.int .i64 1, .int .i64 d, .int .i64 n, .int .i64 m, .int .i64 imm, .int .i64 kind]] w (ToldPost (GrG.no31L (GrG.addrA 1 n)) w) := by
  obtain ⟨a0, a1, a2, a3, a4, a5, kb⟩ := ibox6 w 1 d n m imm kind _ rfl
  have KB := Lib.hid kb
  clear kb
  have E := Lib.hid (show GrG.no31L (GrG.addrA 1 n) = [] from rfl)
  have f1 : GrG.loadB 1 = false := rfl
  have f2 : GrG.storeB 1 = false := rfl
  go_enter Try.func12, Try.ntmps12
  go_upto_region 1 with fail
  obtain ⟨x0, hx0⟩ : ∃ x : Wb (w.alloc (.cells #[.int .i64 1, .int .i64 d, .int .i64 n, .int .i64 m, .int .i64 imm, .int .i64 kind] 23)), w.alloc (.cells #[.int .i64 1, .int .i64 d, .int .i64 n, .int .i64 m, .int .i64 imm, .int .i64 kind] 23) = x.at := ⟨⟨_, Below.refl _ _⟩, rfl⟩
  rw [hx0]
  clear hx0
  go_wp2_with fail
  refine (pload_any 1 d n m imm kind _).mono ?_
  rintro e w1 ⟨rfl, b⟩
  obtain ⟨x1, rfl⟩ := (Wb.next b)
  clear b
  go_wp2_with fail
  refine (pstore_any 1 d n m imm kind _).mono ?_
  rintro e w1 ⟨rfl, b⟩
  obtain ⟨x2, rfl⟩ := (Wb.next b)
  clear b
  go_wp2
  go_ret
  exact ⟨_, rfl, .inl ⟨rfl, E.out⟩, KB.out _⟩

set_option maxHeartbeats 800000 in
theorem paddress_2 (d n m imm kind : Int) (w : World) : Calls Try.prog 12 #[.agg #[.int .i64 2, .int .i64 d, .int .i64 n, .int .i64 m, .int .i64 imm, .int .i64 kind]] w (ToldPost (GrG.no31L (GrG.addrA 2 n)) w) := by
  obtain ⟨a0, a1, a2, a3, a4, a5, kb⟩ := ibox6 w 2 d n m imm kind _ rfl
  have KB := Lib.hid kb
  clear kb
  have E := Lib.hid (show GrG.no31L (GrG.addrA 2 n) = GrG.no31L [n] from rfl)
  have f1 : GrG.loadB 2 = true := rfl
  have f2 : GrG.storeB 2 = false := rfl
  go_enter Try.func12, Try.ntmps12
  go_upto_region 1 with fail
  obtain ⟨x0, hx0⟩ : ∃ x : Wb (w.alloc (.cells #[.int .i64 2, .int .i64 d, .int .i64 n, .int .i64 m, .int .i64 imm, .int .i64 kind] 23)), w.alloc (.cells #[.int .i64 2, .int .i64 d, .int .i64 n, .int .i64 m, .int .i64 imm, .int .i64 kind] 23) = x.at := ⟨⟨_, Below.refl _ _⟩, rfl⟩
  rw [hx0]
  clear hx0
  go_wp2_with fail
  refine (pload_any 2 d n m imm kind _).mono ?_
  rintro e w1 ⟨rfl, b⟩
  obtain ⟨x1, rfl⟩ := (Wb.next b)
  clear b
  go_wp2_with fail
  refine (no31_any _ 1 [n] _ (by simp) (iat_new _ _ _)).mono ?_
  rintro e w1 ⟨v, rfl, hv, b⟩
  obtain ⟨x9, rfl⟩ := Wb.next1 b
  have HV := Lib.hid hv
  clear b hv
  go_wp2
  go_ret
  exact ⟨v, rfl, by rw [E.out]; exact HV.out, KB.out x9⟩

set_option maxHeartbeats 800000 in
theorem paddress_3 (d n m imm kind : Int) (w : World) : Calls Try.prog 12 #[.agg #[.int .i64 3, .int .i64 d, .int .i64 n, .int .i64 m, .int .i64 imm, .int .i64 kind]] w (ToldPost (GrG.no31L (GrG.addrA 3 n)) w) := by
  obtain ⟨a0, a1, a2, a3, a4, a5, kb⟩ := ibox6 w 3 d n m imm kind _ rfl
  have KB := Lib.hid kb
  clear kb
  have E := Lib.hid (show GrG.no31L (GrG.addrA 3 n) = GrG.no31L [n] from rfl)
  have f1 : GrG.loadB 3 = false := rfl
  have f2 : GrG.storeB 3 = true := rfl
  go_enter Try.func12, Try.ntmps12
  go_upto_region 1 with fail
  obtain ⟨x0, hx0⟩ : ∃ x : Wb (w.alloc (.cells #[.int .i64 3, .int .i64 d, .int .i64 n, .int .i64 m, .int .i64 imm, .int .i64 kind] 23)), w.alloc (.cells #[.int .i64 3, .int .i64 d, .int .i64 n, .int .i64 m, .int .i64 imm, .int .i64 kind] 23) = x.at := ⟨⟨_, Below.refl _ _⟩, rfl⟩
  rw [hx0]
  clear hx0
  go_wp2_with fail
  refine (pload_any 3 d n m imm kind _).mono ?_
  rintro e w1 ⟨rfl, b⟩
  obtain ⟨x1, rfl⟩ := (Wb.next b)
  clear b
  go_wp2_with fail
  refine (pstore_any 3 d n m imm kind _).mono ?_
  rintro e w1 ⟨rfl, b⟩
  obtain ⟨x2, rfl⟩ := (Wb.next b)
  clear b
  go_wp2_with fail
  refine (no31_any _ 1 [n] _ (by simp) (iat_new _ _ _)).mono ?_
  rintro e w1 ⟨v, rfl, hv, b⟩
  obtain ⟨x9, rfl⟩ := Wb.next1 b
  have HV := Lib.hid hv
  clear b hv
  go_wp2
  go_ret
  exact ⟨v, rfl, by rw [E.out]; exact HV.out, KB.out x9⟩

set_option maxHeartbeats 800000 in
theorem paddress_4 (d n m imm kind : Int) (w : World) : Calls Try.prog 12 #[.agg #[.int .i64 4, .int .i64 d, .int .i64 n, .int .i64 m, .int .i64 imm, .int .i64 kind]] w (ToldPost (GrG.no31L (GrG.addrA 4 n)) w) := by
  obtain ⟨a0, a1, a2, a3, a4, a5, kb⟩ := ibox6 w 4 d n m imm kind _ rfl
  have KB := Lib.hid kb
  clear kb
  have E := Lib.hid (show GrG.no31L (GrG.addrA 4 n) = GrG.no31L [n] from rfl)
  have f1 : GrG.loadB 4 = true := rfl
  have f2 : GrG.storeB 4 = false := rfl
  go_enter Try.func12, Try.ntmps12
  go_upto_region 1 with fail
  obtain ⟨x0, hx0⟩ : ∃ x : Wb (w.alloc (.cells #[.int .i64 4, .int .i64 d, .int .i64 n, .int .i64 m, .int .i64 imm, .int .i64 kind] 23)), w.alloc (.cells #[.int .i64 4, .int .i64 d, .int .i64 n, .int .i64 m, .int .i64 imm, .int .i64 kind] 23) = x.at := ⟨⟨_, Below.refl _ _⟩, rfl⟩
  rw [hx0]
  clear hx0
  go_wp2_with fail
  refine (pload_any 4 d n m imm kind _).mono ?_
  rintro e w1 ⟨rfl, b⟩
  obtain ⟨x1, rfl⟩ := (Wb.next b)
  clear b
  go_wp2_with fail
  refine (no31_any _ 1 [n] _ (by simp) (iat_new _ _ _)).mono ?_
  rintro e w1 ⟨v, rfl, hv, b⟩
  obtain ⟨x9, rfl⟩ := Wb.next1 b
  have HV := Lib.hid hv
  clear b hv
  go_wp2
  go_ret
  exact ⟨v, rfl, by rw [E.out]; exact HV.out, KB.out x9⟩

set_option maxHeartbeats 800000 in
theorem paddress_5 (d n m imm kind : Int) (w : World) : Calls Try.prog 12 #[.agg #[.int .i64 5, .int .i64 d, .int .i64 n, .int .i64 m, .int .i64 imm, .int .i64 kind]] w (ToldPost (GrG.no31L (GrG.addrA 5 n)) w) := by
  obtain ⟨a0, a1, a2, a3, a4, a5, kb⟩ := ibox6 w 5 d n m imm kind _ rfl
  have KB := Lib.hid kb
  clear kb
  have E := Lib.hid (show GrG.no31L (GrG.addrA 5 n) = GrG.no31L [n] from rfl)
  have f1 : GrG.loadB 5 = false := rfl
  have f2 : GrG.storeB 5 = true := rfl
  go_enter Try.func12, Try.ntmps12
  go_upto_region 1 with fail
  obtain ⟨x0, hx0⟩ : ∃ x : Wb (w.alloc (.cells #[.int .i64 5, .int .i64 d, .int .i64 n, .int .i64 m, .int .i64 imm, .int .i64 kind] 23)), w.alloc (.cells #[.int .i64 5, .int .i64 d, .int .i64 n, .int .i64 m, .int .i64 imm, .int .i64 kind] 23) = x.at := ⟨⟨_, Below.refl _ _⟩, rfl⟩
  rw [hx0]
  clear hx0
  go_wp2_with fail
  refine (pload_any 5 d n m imm kind _).mono ?_
  rintro e w1 ⟨rfl, b⟩
  obtain ⟨x1, rfl⟩ := (Wb.next b)
  clear b
  go_wp2_with fail
  refine (pstore_any 5 d n m imm kind _).mono ?_
  rintro e w1 ⟨rfl, b⟩
  obtain ⟨x2, rfl⟩ := (Wb.next b)
  clear b
  go_wp2_with fail
  refine (no31_any _ 1 [n] _ (by simp) (iat_new _ _ _)).mono ?_
  rintro e w1 ⟨v, rfl, hv, b⟩
  obtain ⟨x9, rfl⟩ := Wb.next1 b
  have HV := Lib.hid hv
  clear b hv
  go_wp2
  go_ret
  exact ⟨v, rfl, by rw [E.out]; exact HV.out, KB.out x9⟩

set_option maxHeartbeats 800000 in
theorem paddress_6 (d n m imm kind : Int) (w : World) : Calls Try.prog 12 #[.agg #[.int .i64 6, .int .i64 d, .int .i64 n, .int .i64 m, .int .i64 imm, .int .i64 kind]] w (ToldPost (GrG.no31L (GrG.addrA 6 n)) w) := by
  obtain ⟨a0, a1, a2, a3, a4, a5, kb⟩ := ibox6 w 6 d n m imm kind _ rfl
  have KB := Lib.hid kb
  clear kb
  have E := Lib.hid (show GrG.no31L (GrG.addrA 6 n) = [] from rfl)
  have f1 : GrG.loadB 6 = false := rfl
  have f2 : GrG.storeB 6 = false := rfl
  go_enter Try.func12, Try.ntmps12
  go_upto_region 1 with fail
  obtain ⟨x0, hx0⟩ : ∃ x : Wb (w.alloc (.cells #[.int .i64 6, .int .i64 d, .int .i64 n, .int .i64 m, .int .i64 imm, .int .i64 kind] 23)), w.alloc (.cells #[.int .i64 6, .int .i64 d, .int .i64 n, .int .i64 m, .int .i64 imm, .int .i64 kind] 23) = x.at := ⟨⟨_, Below.refl _ _⟩, rfl⟩
  rw [hx0]
  clear hx0
  go_wp2_with fail
  refine (pload_any 6 d n m imm kind _).mono ?_
  rintro e w1 ⟨rfl, b⟩
  obtain ⟨x1, rfl⟩ := (Wb.next b)
  clear b
  go_wp2_with fail
  refine (pstore_any 6 d n m imm kind _).mono ?_
  rintro e w1 ⟨rfl, b⟩
  obtain ⟨x2, rfl⟩ := (Wb.next b)
  clear b
  go_wp2
  go_ret
  exact ⟨_, rfl, .inl ⟨rfl, E.out⟩, KB.out _⟩

set_option maxHeartbeats 800000 in
theorem paddress_7 (d n m imm kind : Int) (w : World) : Calls Try.prog 12 #[.agg #[.int .i64 7, .int .i64 d, .int .i64 n, .int .i64 m, .int .i64 imm, .int .i64 kind]] w (ToldPost (GrG.no31L (GrG.addrA 7 n)) w) := by
  obtain ⟨a0, a1, a2, a3, a4, a5, kb⟩ := ibox6 w 7 d n m imm kind _ rfl
  have KB := Lib.hid kb
  clear kb
  have E := Lib.hid (show GrG.no31L (GrG.addrA 7 n) = [] from rfl)
  have f1 : GrG.loadB 7 = false := rfl
  have f2 : GrG.storeB 7 = false := rfl
  go_enter Try.func12, Try.ntmps12
  go_upto_region 1 with fail
  obtain ⟨x0, hx0⟩ : ∃ x : Wb (w.alloc (.cells #[.int .i64 7, .int .i64 d, .int .i64 n, .int .i64 m, .int .i64 imm, .int .i64 kind] 23)), w.alloc (.cells #[.int .i64 7, .int .i64 d, .int .i64 n, .int .i64 m, .int .i64 imm, .int .i64 kind] 23) = x.at := ⟨⟨_, Below.refl _ _⟩, rfl⟩
  rw [hx0]
  clear hx0
  go_wp2_with fail
  refine (pload_any 7 d n m imm kind _).mono ?_
  rintro e w1 ⟨rfl, b⟩
  obtain ⟨x1, rfl⟩ := (Wb.next b)
  clear b
  go_wp2_with fail
  refine (pstore_any 7 d n m imm kind _).mono ?_
  rintro e w1 ⟨rfl, b⟩
  obtain ⟨x2, rfl⟩ := (Wb.next b)
  clear b
  go_wp2
  go_ret
  exact ⟨_, rfl, .inl ⟨rfl, E.out⟩, KB.out _⟩

set_option maxHeartbeats 800000 in
theorem paddress_8 (d n m imm kind : Int) (w : World) : Calls Try.prog 12 #[.agg #[.int .i64 8, .int .i64 d, .int .i64 n, .int .i64 m, .int .i64 imm, .int .i64 kind]] w (ToldPost (GrG.no31L (GrG.addrA 8 n)) w) := by
  obtain ⟨a0, a1, a2, a3, a4, a5, kb⟩ := ibox6 w 8 d n m imm kind _ rfl
  have KB := Lib.hid kb
  clear kb
  have E := Lib.hid (show GrG.no31L (GrG.addrA 8 n) = [] from rfl)
  have f1 : GrG.loadB 8 = false := rfl
  have f2 : GrG.storeB 8 = false := rfl
  go_enter Try.func12, Try.ntmps12
  go_upto_region 1 with fail
  obtain ⟨x0, hx0⟩ : ∃ x : Wb (w.alloc (.cells #[.int .i64 8, .int .i64 d, .int .i64 n, .int .i64 m, .int .i64 imm, .int .i64 kind] 23)), w.alloc (.cells #[.int .i64 8, .int .i64 d, .int .i64 n, .int .i64 m, .int .i64 imm, .int .i64 kind] 23) = x.at := ⟨⟨_, Below.refl _ _⟩, rfl⟩
  rw [hx0]
  clear hx0
  go_wp2_with fail
  refine (pload_any 8 d n m imm kind _).mono ?_
  rintro e w1 ⟨rfl, b⟩
  obtain ⟨x1, rfl⟩ := (Wb.next b)
  clear b
  go_wp2_with fail
  refine (pstore_any 8 d n m imm kind _).mono ?_
  rintro e w1 ⟨rfl, b⟩
  obtain ⟨x2, rfl⟩ := (Wb.next b)
  clear b
  go_wp2
  go_ret
  exact ⟨_, rfl, .inl ⟨rfl, E.out⟩, KB.out _⟩

set_option maxHeartbeats 800000 in
theorem paddress_9 (d n m imm kind : Int) (w : World) : Calls Try.prog 12 #[.agg #[.int .i64 9, .int .i64 d, .int .i64 n, .int .i64 m, .int .i64 imm, .int .i64 kind]] w (ToldPost (GrG.no31L (GrG.addrA 9 n)) w) := by
  obtain ⟨a0, a1, a2, a3, a4, a5, kb⟩ := ibox6 w 9 d n m imm kind _ rfl
  have KB := Lib.hid kb
  clear kb
  have E := Lib.hid (show GrG.no31L (GrG.addrA 9 n) = [] from rfl)
  have f1 : GrG.loadB 9 = false := rfl
  have f2 : GrG.storeB 9 = false := rfl
  go_enter Try.func12, Try.ntmps12
  go_upto_region 1 with fail
  obtain ⟨x0, hx0⟩ : ∃ x : Wb (w.alloc (.cells #[.int .i64 9, .int .i64 d, .int .i64 n, .int .i64 m, .int .i64 imm, .int .i64 kind] 23)), w.alloc (.cells #[.int .i64 9, .int .i64 d, .int .i64 n, .int .i64 m, .int .i64 imm, .int .i64 kind] 23) = x.at := ⟨⟨_, Below.refl _ _⟩, rfl⟩
  rw [hx0]
  clear hx0
  go_wp2_with fail
  refine (pload_any 9 d n m imm kind _).mono ?_
  rintro e w1 ⟨rfl, b⟩
  obtain ⟨x1, rfl⟩ := (Wb.next b)
  clear b
  go_wp2_with fail
  refine (pstore_any 9 d n m imm kind _).mono ?_
  rintro e w1 ⟨rfl, b⟩
  obtain ⟨x2, rfl⟩ := (Wb.next b)
  clear b
  go_wp2
  go_ret
  exact ⟨_, rfl, .inl ⟨rfl, E.out⟩, KB.out _⟩

set_option maxHeartbeats 800000 in
theorem paddress_10 (d n m imm kind : Int) (w : World) : Calls Try.prog 12 #[.agg #[.int .i64 10, .int .i64 d, .int .i64 n, .int .i64 m, .int .i64 imm, .int .i64 kind]] w (ToldPost (GrG.no31L (GrG.addrA 10 n)) w) := by
  obtain ⟨a0, a1, a2, a3, a4, a5, kb⟩ := ibox6 w 10 d n m imm kind _ rfl
  have KB := Lib.hid kb
  clear kb
  have E := Lib.hid (show GrG.no31L (GrG.addrA 10 n) = [] from rfl)
  have f1 : GrG.loadB 10 = false := rfl
  have f2 : GrG.storeB 10 = false := rfl
  go_enter Try.func12, Try.ntmps12
  go_upto_region 1 with fail
  obtain ⟨x0, hx0⟩ : ∃ x : Wb (w.alloc (.cells #[.int .i64 10, .int .i64 d, .int .i64 n, .int .i64 m, .int .i64 imm, .int .i64 kind] 23)), w.alloc (.cells #[.int .i64 10, .int .i64 d, .int .i64 n, .int .i64 m, .int .i64 imm, .int .i64 kind] 23) = x.at := ⟨⟨_, Below.refl _ _⟩, rfl⟩
  rw [hx0]
  clear hx0
  go_wp2_with fail
  refine (pload_any 10 d n m imm kind _).mono ?_
  rintro e w1 ⟨rfl, b⟩
  obtain ⟨x1, rfl⟩ := (Wb.next b)
  clear b
  go_wp2_with fail
  refine (pstore_any 10 d n m imm kind _).mono ?_
  rintro e w1 ⟨rfl, b⟩
  obtain ⟨x2, rfl⟩ := (Wb.next b)
  clear b
  go_wp2
  go_ret
  exact ⟨_, rfl, .inl ⟨rfl, E.out⟩, KB.out _⟩

set_option maxHeartbeats 800000 in
theorem paddress_11 (d n m imm kind : Int) (w : World) : Calls Try.prog 12 #[.agg #[.int .i64 11, .int .i64 d, .int .i64 n, .int .i64 m, .int .i64 imm, .int .i64 kind]] w (ToldPost (GrG.no31L (GrG.addrA 11 n)) w) := by
  obtain ⟨a0, a1, a2, a3, a4, a5, kb⟩ := ibox6 w 11 d n m imm kind _ rfl
  have KB := Lib.hid kb
  clear kb
  have E := Lib.hid (show GrG.no31L (GrG.addrA 11 n) = [] from rfl)
  have f1 : GrG.loadB 11 = false := rfl
  have f2 : GrG.storeB 11 = false := rfl
  go_enter Try.func12, Try.ntmps12
  go_upto_region 1 with fail
  obtain ⟨x0, hx0⟩ : ∃ x : Wb (w.alloc (.cells #[.int .i64 11, .int .i64 d, .int .i64 n, .int .i64 m, .int .i64 imm, .int .i64 kind] 23)), w.alloc (.cells #[.int .i64 11, .int .i64 d, .int .i64 n, .int .i64 m, .int .i64 imm, .int .i64 kind] 23) = x.at := ⟨⟨_, Below.refl _ _⟩, rfl⟩
  rw [hx0]
  clear hx0
  go_wp2_with fail
  refine (pload_any 11 d n m imm kind _).mono ?_
  rintro e w1 ⟨rfl, b⟩
  obtain ⟨x1, rfl⟩ := (Wb.next b)
  clear b
  go_wp2_with fail
  refine (pstore_any 11 d n m imm kind _).mono ?_
  rintro e w1 ⟨rfl, b⟩
  obtain ⟨x2, rfl⟩ := (Wb.next b)
  clear b
  go_wp2
  go_ret
  exact ⟨_, rfl, .inl ⟨rfl, E.out⟩, KB.out _⟩

set_option maxHeartbeats 800000 in
theorem paddress_12 (d n m imm kind : Int) (w : World) : Calls Try.prog 12 #[.agg #[.int .i64 12, .int .i64 d, .int .i64 n, .int .i64 m, .int .i64 imm, .int .i64 kind]] w (ToldPost (GrG.no31L (GrG.addrA 12 n)) w) := by
  obtain ⟨a0, a1, a2, a3, a4, a5, kb⟩ := ibox6 w 12 d n m imm kind _ rfl
  have KB := Lib.hid kb
  clear kb
  have E := Lib.hid (show GrG.no31L (GrG.addrA 12 n) = [] from rfl)
  have f1 : GrG.loadB 12 = false := rfl
  have f2 : GrG.storeB 12 = false := rfl
  go_enter Try.func12, Try.ntmps12
  go_upto_region 1 with fail
  obtain ⟨x0, hx0⟩ : ∃ x : Wb (w.alloc (.cells #[.int .i64 12, .int .i64 d, .int .i64 n, .int .i64 m, .int .i64 imm, .int .i64 kind] 23)), w.alloc (.cells #[.int .i64 12, .int .i64 d, .int .i64 n, .int .i64 m, .int .i64 imm, .int .i64 kind] 23) = x.at := ⟨⟨_, Below.refl _ _⟩, rfl⟩
  rw [hx0]
  clear hx0
  go_wp2_with fail
  refine (pload_any 12 d n m imm kind _).mono ?_
  rintro e w1 ⟨rfl, b⟩
  obtain ⟨x1, rfl⟩ := (Wb.next b)
  clear b
  go_wp2_with fail
  refine (pstore_any 12 d n m imm kind _).mono ?_
  rintro e w1 ⟨rfl, b⟩
  obtain ⟨x2, rfl⟩ := (Wb.next b)
  clear b
  go_wp2
  go_ret
  exact ⟨_, rfl, .inl ⟨rfl, E.out⟩, KB.out _⟩

set_option maxHeartbeats 800000 in
theorem paddress_13 (d n m imm kind : Int) (w : World) : Calls Try.prog 12 #[.agg #[.int .i64 13, .int .i64 d, .int .i64 n, .int .i64 m, .int .i64 imm, .int .i64 kind]] w (ToldPost (GrG.no31L (GrG.addrA 13 n)) w) := by
  obtain ⟨a0, a1, a2, a3, a4, a5, kb⟩ := ibox6 w 13 d n m imm kind _ rfl
  have KB := Lib.hid kb
  clear kb
  have E := Lib.hid (show GrG.no31L (GrG.addrA 13 n) = [] from rfl)
  have f1 : GrG.loadB 13 = false := rfl
  have f2 : GrG.storeB 13 = false := rfl
  go_enter Try.func12, Try.ntmps12
  go_upto_region 1 with fail
  obtain ⟨x0, hx0⟩ : ∃ x : Wb (w.alloc (.cells #[.int .i64 13, .int .i64 d, .int .i64 n, .int .i64 m, .int .i64 imm, .int .i64 kind] 23)), w.alloc (.cells #[.int .i64 13, .int .i64 d, .int .i64 n, .int .i64 m, .int .i64 imm, .int .i64 kind] 23) = x.at := ⟨⟨_, Below.refl _ _⟩, rfl⟩
  rw [hx0]
  clear hx0
  go_wp2_with fail
  refine (pload_any 13 d n m imm kind _).mono ?_
  rintro e w1 ⟨rfl, b⟩
  obtain ⟨x1, rfl⟩ := (Wb.next b)
  clear b
  go_wp2_with fail
  refine (pstore_any 13 d n m imm kind _).mono ?_
  rintro e w1 ⟨rfl, b⟩
  obtain ⟨x2, rfl⟩ := (Wb.next b)
  clear b
  go_wp2
  go_ret
  exact ⟨_, rfl, .inl ⟨rfl, E.out⟩, KB.out _⟩

set_option maxHeartbeats 800000 in
theorem paddress_14 (d n m imm kind : Int) (w : World) : Calls Try.prog 12 #[.agg #[.int .i64 14, .int .i64 d, .int .i64 n, .int .i64 m, .int .i64 imm, .int .i64 kind]] w (ToldPost (GrG.no31L (GrG.addrA 14 n)) w) := by
  obtain ⟨a0, a1, a2, a3, a4, a5, kb⟩ := ibox6 w 14 d n m imm kind _ rfl
  have KB := Lib.hid kb
  clear kb
  have E := Lib.hid (show GrG.no31L (GrG.addrA 14 n) = [] from rfl)
  have f1 : GrG.loadB 14 = false := rfl
  have f2 : GrG.storeB 14 = false := rfl
  go_enter Try.func12, Try.ntmps12
  go_upto_region 1 with fail
  obtain ⟨x0, hx0⟩ : ∃ x : Wb (w.alloc (.cells #[.int .i64 14, .int .i64 d, .int .i64 n, .int .i64 m, .int .i64 imm, .int .i64 kind] 23)), w.alloc (.cells #[.int .i64 14, .int .i64 d, .int .i64 n, .int .i64 m, .int .i64 imm, .int .i64 kind] 23) = x.at := ⟨⟨_, Below.refl _ _⟩, rfl⟩
  rw [hx0]
  clear hx0
  go_wp2_with fail
  refine (pload_any 14 d n m imm kind _).mono ?_
  rintro e w1 ⟨rfl, b⟩
  obtain ⟨x1, rfl⟩ := (Wb.next b)
  clear b
  go_wp2_with fail
  refine (pstore_any 14 d n m imm kind _).mono ?_
  rintro e w1 ⟨rfl, b⟩
  obtain ⟨x2, rfl⟩ := (Wb.next b)
  clear b
  go_wp2
  go_ret
  exact ⟨_, rfl, .inl ⟨rfl, E.out⟩, KB.out _⟩

set_option maxHeartbeats 800000 in
theorem paddress_15 (d n m imm kind : Int) (w : World) : Calls Try.prog 12 #[.agg #[.int .i64 15, .int .i64 d, .int .i64 n, .int .i64 m, .int .i64 imm, .int .i64 kind]] w (ToldPost (GrG.no31L (GrG.addrA 15 n)) w) := by
  obtain ⟨a0, a1, a2, a3, a4, a5, kb⟩ := ibox6 w 15 d n m imm kind _ rfl
  have KB := Lib.hid kb
  clear kb
  have E := Lib.hid (show GrG.no31L (GrG.addrA 15 n) = [] from rfl)
  have f1 : GrG.loadB 15 = false := rfl
  have f2 : GrG.storeB 15 = false := rfl
  go_enter Try.func12, Try.ntmps12
  go_upto_region 1 with fail
  obtain ⟨x0, hx0⟩ : ∃ x : Wb (w.alloc (.cells #[.int .i64 15, .int .i64 d, .int .i64 n, .int .i64 m, .int .i64 imm, .int .i64 kind] 23)), w.alloc (.cells #[.int .i64 15, .int .i64 d, .int .i64 n, .int .i64 m, .int .i64 imm, .int .i64 kind] 23) = x.at := ⟨⟨_, Below.refl _ _⟩, rfl⟩
  rw [hx0]
  clear hx0
  go_wp2_with fail
  refine (pload_any 15 d n m imm kind _).mono ?_
  rintro e w1 ⟨rfl, b⟩
  obtain ⟨x1, rfl⟩ := (Wb.next b)
  clear b
  go_wp2_with fail
  refine (pstore_any 15 d n m imm kind _).mono ?_
  rintro e w1 ⟨rfl, b⟩
  obtain ⟨x2, rfl⟩ := (Wb.next b)
  clear b
  go_wp2
  go_ret
  exact ⟨_, rfl, .inl ⟨rfl, E.out⟩, KB.out _⟩

set_option maxHeartbeats 800000 in
theorem paddress_16 (d n m imm kind : Int) (w : World) : Calls Try.prog 12 #[.agg #[.int .i64 16, .int .i64 d, .int .i64 n, .int .i64 m, .int .i64 imm, .int .i64 kind]] w (ToldPost (GrG.no31L (GrG.addrA 16 n)) w) := by
  obtain ⟨a0, a1, a2, a3, a4, a5, kb⟩ := ibox6 w 16 d n m imm kind _ rfl
  have KB := Lib.hid kb
  clear kb
  have E := Lib.hid (show GrG.no31L (GrG.addrA 16 n) = [] from rfl)
  have f1 : GrG.loadB 16 = false := rfl
  have f2 : GrG.storeB 16 = false := rfl
  go_enter Try.func12, Try.ntmps12
  go_upto_region 1 with fail
  obtain ⟨x0, hx0⟩ : ∃ x : Wb (w.alloc (.cells #[.int .i64 16, .int .i64 d, .int .i64 n, .int .i64 m, .int .i64 imm, .int .i64 kind] 23)), w.alloc (.cells #[.int .i64 16, .int .i64 d, .int .i64 n, .int .i64 m, .int .i64 imm, .int .i64 kind] 23) = x.at := ⟨⟨_, Below.refl _ _⟩, rfl⟩
  rw [hx0]
  clear hx0
  go_wp2_with fail
  refine (pload_any 16 d n m imm kind _).mono ?_
  rintro e w1 ⟨rfl, b⟩
  obtain ⟨x1, rfl⟩ := (Wb.next b)
  clear b
  go_wp2_with fail
  refine (pstore_any 16 d n m imm kind _).mono ?_
  rintro e w1 ⟨rfl, b⟩
  obtain ⟨x2, rfl⟩ := (Wb.next b)
  clear b
  go_wp2
  go_ret
  exact ⟨_, rfl, .inl ⟨rfl, E.out⟩, KB.out _⟩

set_option maxHeartbeats 800000 in
theorem paddress_17 (d n m imm kind : Int) (w : World) : Calls Try.prog 12 #[.agg #[.int .i64 17, .int .i64 d, .int .i64 n, .int .i64 m, .int .i64 imm, .int .i64 kind]] w (ToldPost (GrG.no31L (GrG.addrA 17 n)) w) := by
  obtain ⟨a0, a1, a2, a3, a4, a5, kb⟩ := ibox6 w 17 d n m imm kind _ rfl
  have KB := Lib.hid kb
  clear kb
  have E := Lib.hid (show GrG.no31L (GrG.addrA 17 n) = [] from rfl)
  have f1 : GrG.loadB 17 = false := rfl
  have f2 : GrG.storeB 17 = false := rfl
  go_enter Try.func12, Try.ntmps12
  go_upto_region 1 with fail
  obtain ⟨x0, hx0⟩ : ∃ x : Wb (w.alloc (.cells #[.int .i64 17, .int .i64 d, .int .i64 n, .int .i64 m, .int .i64 imm, .int .i64 kind] 23)), w.alloc (.cells #[.int .i64 17, .int .i64 d, .int .i64 n, .int .i64 m, .int .i64 imm, .int .i64 kind] 23) = x.at := ⟨⟨_, Below.refl _ _⟩, rfl⟩
  rw [hx0]
  clear hx0
  go_wp2_with fail
  refine (pload_any 17 d n m imm kind _).mono ?_
  rintro e w1 ⟨rfl, b⟩
  obtain ⟨x1, rfl⟩ := (Wb.next b)
  clear b
  go_wp2_with fail
  refine (pstore_any 17 d n m imm kind _).mono ?_
  rintro e w1 ⟨rfl, b⟩
  obtain ⟨x2, rfl⟩ := (Wb.next b)
  clear b
  go_wp2
  go_ret
  exact ⟨_, rfl, .inl ⟨rfl, E.out⟩, KB.out _⟩

set_option maxHeartbeats 800000 in
theorem paddress_18 (d n m imm kind : Int) (w : World) : Calls Try.prog 12 #[.agg #[.int .i64 18, .int .i64 d, .int .i64 n, .int .i64 m, .int .i64 imm, .int .i64 kind]] w (ToldPost (GrG.no31L (GrG.addrA 18 n)) w) := by
  obtain ⟨a0, a1, a2, a3, a4, a5, kb⟩ := ibox6 w 18 d n m imm kind _ rfl
  have KB := Lib.hid kb
  clear kb
  have E := Lib.hid (show GrG.no31L (GrG.addrA 18 n) = [] from rfl)
  have f1 : GrG.loadB 18 = false := rfl
  have f2 : GrG.storeB 18 = false := rfl
  go_enter Try.func12, Try.ntmps12
  go_upto_region 1 with fail
  obtain ⟨x0, hx0⟩ : ∃ x : Wb (w.alloc (.cells #[.int .i64 18, .int .i64 d, .int .i64 n, .int .i64 m, .int .i64 imm, .int .i64 kind] 23)), w.alloc (.cells #[.int .i64 18, .int .i64 d, .int .i64 n, .int .i64 m, .int .i64 imm, .int .i64 kind] 23) = x.at := ⟨⟨_, Below.refl _ _⟩, rfl⟩
  rw [hx0]
  clear hx0
  go_wp2_with fail
  refine (pload_any 18 d n m imm kind _).mono ?_
  rintro e w1 ⟨rfl, b⟩
  obtain ⟨x1, rfl⟩ := (Wb.next b)
  clear b
  go_wp2_with fail
  refine (pstore_any 18 d n m imm kind _).mono ?_
  rintro e w1 ⟨rfl, b⟩
  obtain ⟨x2, rfl⟩ := (Wb.next b)
  clear b
  go_wp2
  go_ret
  exact ⟨_, rfl, .inl ⟨rfl, E.out⟩, KB.out _⟩

set_option maxHeartbeats 800000 in
theorem paddress_19 (d n m imm kind : Int) (w : World) : Calls Try.prog 12 #[.agg #[.int .i64 19, .int .i64 d, .int .i64 n, .int .i64 m, .int .i64 imm, .int .i64 kind]] w (ToldPost (GrG.no31L (GrG.addrA 19 n)) w) := by
  obtain ⟨a0, a1, a2, a3, a4, a5, kb⟩ := ibox6 w 19 d n m imm kind _ rfl
  have KB := Lib.hid kb
  clear kb
  have E := Lib.hid (show GrG.no31L (GrG.addrA 19 n) = [] from rfl)
  have f1 : GrG.loadB 19 = false := rfl
  have f2 : GrG.storeB 19 = false := rfl
  go_enter Try.func12, Try.ntmps12
  go_upto_region 1 with fail
  obtain ⟨x0, hx0⟩ : ∃ x : Wb (w.alloc (.cells #[.int .i64 19, .int .i64 d, .int .i64 n, .int .i64 m, .int .i64 imm, .int .i64 kind] 23)), w.alloc (.cells #[.int .i64 19, .int .i64 d, .int .i64 n, .int .i64 m, .int .i64 imm, .int .i64 kind] 23) = x.at := ⟨⟨_, Below.refl _ _⟩, rfl⟩
  rw [hx0]
  clear hx0
  go_wp2_with fail
  refine (pload_any 19 d n m imm kind _).mono ?_
  rintro e w1 ⟨rfl, b⟩
  obtain ⟨x1, rfl⟩ := (Wb.next b)
  clear b
  go_wp2_with fail
  refine (pstore_any 19 d n m imm kind _).mono ?_
  rintro e w1 ⟨rfl, b⟩
  obtain ⟨x2, rfl⟩ := (Wb.next b)
  clear b
  go_wp2
  go_ret
  exact ⟨_, rfl, .inl ⟨rfl, E.out⟩, KB.out _⟩

set_option maxHeartbeats 800000 in
theorem paddress_20 (d n m imm kind : Int) (w : World) : Calls Try.prog 12 #[.agg #[.int .i64 20, .int .i64 d, .int .i64 n, .int .i64 m, .int .i64 imm, .int .i64 kind]] w (ToldPost (GrG.no31L (GrG.addrA 20 n)) w) := by
  obtain ⟨a0, a1, a2, a3, a4, a5, kb⟩ := ibox6 w 20 d n m imm kind _ rfl
  have KB := Lib.hid kb
  clear kb
  have E := Lib.hid (show GrG.no31L (GrG.addrA 20 n) = [] from rfl)
  have f1 : GrG.loadB 20 = false := rfl
  have f2 : GrG.storeB 20 = false := rfl
  go_enter Try.func12, Try.ntmps12
  go_upto_region 1 with fail
  obtain ⟨x0, hx0⟩ : ∃ x : Wb (w.alloc (.cells #[.int .i64 20, .int .i64 d, .int .i64 n, .int .i64 m, .int .i64 imm, .int .i64 kind] 23)), w.alloc (.cells #[.int .i64 20, .int .i64 d, .int .i64 n, .int .i64 m, .int .i64 imm, .int .i64 kind] 23) = x.at := ⟨⟨_, Below.refl _ _⟩, rfl⟩
  rw [hx0]
  clear hx0
  go_wp2_with fail
  refine (pload_any 20 d n m imm kind _).mono ?_
  rintro e w1 ⟨rfl, b⟩
  obtain ⟨x1, rfl⟩ := (Wb.next b)
  clear b
  go_wp2_with fail
  refine (pstore_any 20 d n m imm kind _).mono ?_
  rintro e w1 ⟨rfl, b⟩
  obtain ⟨x2, rfl⟩ := (Wb.next b)
  clear b
  go_wp2
  go_ret
  exact ⟨_, rfl, .inl ⟨rfl, E.out⟩, KB.out _⟩

set_option maxHeartbeats 800000 in
theorem paddress_21 (d n m imm kind : Int) (w : World) : Calls Try.prog 12 #[.agg #[.int .i64 21, .int .i64 d, .int .i64 n, .int .i64 m, .int .i64 imm, .int .i64 kind]] w (ToldPost (GrG.no31L (GrG.addrA 21 n)) w) := by
  obtain ⟨a0, a1, a2, a3, a4, a5, kb⟩ := ibox6 w 21 d n m imm kind _ rfl
  have KB := Lib.hid kb
  clear kb
  have E := Lib.hid (show GrG.no31L (GrG.addrA 21 n) = [] from rfl)
  have f1 : GrG.loadB 21 = false := rfl
  have f2 : GrG.storeB 21 = false := rfl
  go_enter Try.func12, Try.ntmps12
  go_upto_region 1 with fail
  obtain ⟨x0, hx0⟩ : ∃ x : Wb (w.alloc (.cells #[.int .i64 21, .int .i64 d, .int .i64 n, .int .i64 m, .int .i64 imm, .int .i64 kind] 23)), w.alloc (.cells #[.int .i64 21, .int .i64 d, .int .i64 n, .int .i64 m, .int .i64 imm, .int .i64 kind] 23) = x.at := ⟨⟨_, Below.refl _ _⟩, rfl⟩
  rw [hx0]
  clear hx0
  go_wp2_with fail
  refine (pload_any 21 d n m imm kind _).mono ?_
  rintro e w1 ⟨rfl, b⟩
  obtain ⟨x1, rfl⟩ := (Wb.next b)
  clear b
  go_wp2_with fail
  refine (pstore_any 21 d n m imm kind _).mono ?_
  rintro e w1 ⟨rfl, b⟩
  obtain ⟨x2, rfl⟩ := (Wb.next b)
  clear b
  go_wp2
  go_ret
  exact ⟨_, rfl, .inl ⟨rfl, E.out⟩, KB.out _⟩

set_option maxHeartbeats 800000 in
theorem paddress_22 (d n m imm kind : Int) (w : World) : Calls Try.prog 12 #[.agg #[.int .i64 22, .int .i64 d, .int .i64 n, .int .i64 m, .int .i64 imm, .int .i64 kind]] w (ToldPost (GrG.no31L (GrG.addrA 22 n)) w) := by
  obtain ⟨a0, a1, a2, a3, a4, a5, kb⟩ := ibox6 w 22 d n m imm kind _ rfl
  have KB := Lib.hid kb
  clear kb
  have E := Lib.hid (show GrG.no31L (GrG.addrA 22 n) = [] from rfl)
  have f1 : GrG.loadB 22 = false := rfl
  have f2 : GrG.storeB 22 = false := rfl
  go_enter Try.func12, Try.ntmps12
  go_upto_region 1 with fail
  obtain ⟨x0, hx0⟩ : ∃ x : Wb (w.alloc (.cells #[.int .i64 22, .int .i64 d, .int .i64 n, .int .i64 m, .int .i64 imm, .int .i64 kind] 23)), w.alloc (.cells #[.int .i64 22, .int .i64 d, .int .i64 n, .int .i64 m, .int .i64 imm, .int .i64 kind] 23) = x.at := ⟨⟨_, Below.refl _ _⟩, rfl⟩
  rw [hx0]
  clear hx0
  go_wp2_with fail
  refine (pload_any 22 d n m imm kind _).mono ?_
  rintro e w1 ⟨rfl, b⟩
  obtain ⟨x1, rfl⟩ := (Wb.next b)
  clear b
  go_wp2_with fail
  refine (pstore_any 22 d n m imm kind _).mono ?_
  rintro e w1 ⟨rfl, b⟩
  obtain ⟨x2, rfl⟩ := (Wb.next b)
  clear b
  go_wp2
  go_ret
  exact ⟨_, rfl, .inl ⟨rfl, E.out⟩, KB.out _⟩

set_option maxHeartbeats 800000 in
theorem paddress_23 (d n m imm kind : Int) (w : World) : Calls Try.prog 12 #[.agg #[.int .i64 23, .int .i64 d, .int .i64 n, .int .i64 m, .int .i64 imm, .int .i64 kind]] w (ToldPost (GrG.no31L (GrG.addrA 23 n)) w) := by
  obtain ⟨a0, a1, a2, a3, a4, a5, kb⟩ := ibox6 w 23 d n m imm kind _ rfl
  have KB := Lib.hid kb
  clear kb
  have E := Lib.hid (show GrG.no31L (GrG.addrA 23 n) = [] from rfl)
  have f1 : GrG.loadB 23 = false := rfl
  have f2 : GrG.storeB 23 = false := rfl
  go_enter Try.func12, Try.ntmps12
  go_upto_region 1 with fail
  obtain ⟨x0, hx0⟩ : ∃ x : Wb (w.alloc (.cells #[.int .i64 23, .int .i64 d, .int .i64 n, .int .i64 m, .int .i64 imm, .int .i64 kind] 23)), w.alloc (.cells #[.int .i64 23, .int .i64 d, .int .i64 n, .int .i64 m, .int .i64 imm, .int .i64 kind] 23) = x.at := ⟨⟨_, Below.refl _ _⟩, rfl⟩
  rw [hx0]
  clear hx0
  go_wp2_with fail
  refine (pload_any 23 d n m imm kind _).mono ?_
  rintro e w1 ⟨rfl, b⟩
  obtain ⟨x1, rfl⟩ := (Wb.next b)
  clear b
  go_wp2_with fail
  refine (pstore_any 23 d n m imm kind _).mono ?_
  rintro e w1 ⟨rfl, b⟩
  obtain ⟨x2, rfl⟩ := (Wb.next b)
  clear b
  go_wp2
  go_ret
  exact ⟨_, rfl, .inl ⟨rfl, E.out⟩, KB.out _⟩

theorem paddress_any (op d n m imm kind : Int) (w : World) (ho : op = 1 ∨ op = 2 ∨ op = 3 ∨ op = 4 ∨ op = 5 ∨ op = 6 ∨ op = 7 ∨ op = 8 ∨ op = 9 ∨ op = 10 ∨ op = 11 ∨ op = 12 ∨ op = 13 ∨ op = 14 ∨ op = 15 ∨ op = 16 ∨ op = 17 ∨ op = 18 ∨ op = 19 ∨ op = 20 ∨ op = 21 ∨ op = 22 ∨ op = 23) : Calls Try.prog 12 #[.agg #[.int .i64 op, .int .i64 d, .int .i64 n, .int .i64 m, .int .i64 imm, .int .i64 kind]] w (ToldPost (GrG.no31L (GrG.addrA op n)) w) := by
  rcases ho with rfl | rfl | rfl | rfl | rfl | rfl | rfl | rfl | rfl | rfl | rfl | rfl | rfl | rfl | rfl | rfl | rfl | rfl | rfl | rfl | rfl | rfl | rfl
  · exact paddress_1 d n m imm kind w
  · exact paddress_2 d n m imm kind w
  · exact paddress_3 d n m imm kind w
  · exact paddress_4 d n m imm kind w
  · exact paddress_5 d n m imm kind w
  · exact paddress_6 d n m imm kind w
  · exact paddress_7 d n m imm kind w
  · exact paddress_8 d n m imm kind w
  · exact paddress_9 d n m imm kind w
  · exact paddress_10 d n m imm kind w
  · exact paddress_11 d n m imm kind w
  · exact paddress_12 d n m imm kind w
  · exact paddress_13 d n m imm kind w
  · exact paddress_14 d n m imm kind w
  · exact paddress_15 d n m imm kind w
  · exact paddress_16 d n m imm kind w
  · exact paddress_17 d n m imm kind w
  · exact paddress_18 d n m imm kind w
  · exact paddress_19 d n m imm kind w
  · exact paddress_20 d n m imm kind w
  · exact paddress_21 d n m imm kind w
  · exact paddress_22 d n m imm kind w
  · exact paddress_23 d n m imm kind w
end Go.Proofs.Ytnehdgapcgbdeaa
