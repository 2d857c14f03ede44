/-
  Layer 9: the page's example.
-/
import Derived.Test.YtkdbidnioalfkaaTe
set_option linter.unusedSimpArgs false
set_option linter.unusedVariables false
namespace Go.Proofs.Ytkdbidnioalfkaa
open Go.RowKit

theorem dec_a : GrD.decode 8195 1 = ⟨true, true, 8192, false, false, false, false⟩ := by
  simp only [GrD.decode, GrD.goodB, GrD.tableB, GrD.levelB, GrD.bit_0 8195 (by omega), GrD.bit_1 8195 (by omega), GrD.get_47 8195 (by omega), GrD.get_31_12 8195 (by omega)]
  rfl
theorem dec_b : GrD.decode 21507 2 = ⟨true, false, 20480, true, false, false, false⟩ := by
  simp only [GrD.decode, GrD.goodB, GrD.tableB, GrD.levelB, GrD.bit_0 21507 (by omega), GrD.bit_1 21507 (by omega), GrD.bit_6 21507 (by omega), GrD.bit_7 21507 (by omega), GrD.bit_10 21507 (by omega), GrD.bit_11 21507 (by omega), GrD.get_47 21507 (by omega), GrD.get_31_12 21507 (by omega)]
  rfl
theorem down_a : GrF.down 4112 12 = 4096 := by
  have := GrD.down_mod 4112 12 (by omega) (by omega) (by omega)
  exact this
theorem down_b : GrF.down 4096 12 = 4096 := by
  have := GrD.down_mod 4096 12 (by omega) (by omega) (by omega)
  exact this
theorem leaf_a : GrT.leafD 8195 21507 = ⟨true, false, 20480, true, false, false, false⟩ := by rw [GrT.leafD, dec_a, dec_b]; rfl
theorem ok_a : GrT.fillOk 8195 21507 = true := by rw [GrT.fillOk, leaf_a]; rfl
theorem fill_a : GrT.fillE 1 4112 8195 21507 = ⟨1, 4096, 8195, 21507⟩ := by
  rw [GrT.fillE, if_pos ok_a, GrT.leafL, dec_a, down_a]; rfl
theorem takes_a : GrT.takes 3 0 1 ⟨1, 4096, 8195, 21507⟩ = false := by
  have : GrT.own ⟨1, 4096, 8195, 21507⟩ = false := by rw [GrT.own, leaf_a]
  rw [GrT.takes, this]; rfl
theorem takes_b : GrT.takes 1 4096 9 ⟨1, 4096, 8195, 21507⟩ = true := by
  have h1 : GrT.own ⟨1, 4096, 8195, 21507⟩ = false := by rw [GrT.own, leaf_a]
  have h2 : GrT.size 8195 = 12 := by rw [GrT.size, GrT.block, dec_a]; rfl
  have h3 : GrT.covers ⟨1, 4096, 8195, 21507⟩ 4096 = true := by rw [GrT.covers, h2, down_b]; rfl
  rw [GrT.takes, if_neg (by decide), if_pos rfl, GrT.serves, h3, h1]; rfl

set_option maxRecDepth 100000 in
set_option maxHeartbeats 1600000 in
theorem tawake_any (w : World) :
    Calls Try.prog 10 #[] w fun e w' => e = .returned (.bool true) ∧ Below w.heap.size w w' := by
  have FA := Lib.hid (fun w => fill_any 1 4112 8195 21507 (by omega) (by omega) (by omega) (by omega) (by omega) (by omega) w)
  have TA := Lib.hid (fun w => takes_any 3 0 1 1 4096 8195 21507 (by omega) (by omega) (by omega) (by omega) (by omega) (by omega) w)
  have TB := Lib.hid (fun w => takes_any 1 4096 9 1 4096 8195 21507 (by omega) (by omega) (by omega) (by omega) (by omega) (by omega) w)
  rw [fill_a, ok_a] at FA
  rw [takes_a] at TA
  rw [takes_b] at TB
  unfold ev at FA
  go_enter Try.func10, Try.ntmps10
  go_wp2_with fail
  refine (FA.out _).mono ?_
  rintro e w1 ⟨rfl, g1⟩
  obtain ⟨x0, rfl⟩ := Wb.start g1
  clear g1
  have m0 : ∀ z : Wb (x0.at.alloc (.cells #[.int .i64 1, .int .u64 4096, .int .u64 8195, .int .u64 21507] 27)), z.at.cell? ⟨x0.at.heap.size, 0, none⟩ = some (.int .i64 1) := fun z => by rw [z.cell _ (by simp)]; simp [World.cell?_alloc_new]
  have m1 : ∀ z : Wb (x0.at.alloc (.cells #[.int .i64 1, .int .u64 4096, .int .u64 8195, .int .u64 21507] 27)), z.at.cell? ⟨x0.at.heap.size, 1, none⟩ = some (.int .u64 4096) := fun z => by rw [z.cell _ (by simp)]; simp [World.cell?_alloc_new]
  have m2 : ∀ z : Wb (x0.at.alloc (.cells #[.int .i64 1, .int .u64 4096, .int .u64 8195, .int .u64 21507] 27)), z.at.cell? ⟨x0.at.heap.size, 2, none⟩ = some (.int .u64 8195) := fun z => by rw [z.cell _ (by simp)]; simp [World.cell?_alloc_new]
  have m3 : ∀ z : Wb (x0.at.alloc (.cells #[.int .i64 1, .int .u64 4096, .int .u64 8195, .int .u64 21507] 27)), z.at.cell? ⟨x0.at.heap.size, 3, none⟩ = some (.int .u64 21507) := fun z => by rw [z.cell _ (by simp)]; simp [World.cell?_alloc_new]
  go_wp2_with fail
  refine (TA.out _).mono ?_
  rintro e w1 ⟨rfl, g1⟩
  obtain ⟨y0, rfl⟩ := Wb.start g1
  clear g1
  go_wp2_with fail
  refine (TB.out _).mono ?_
  rintro e w1 ⟨rfl, g1⟩
  obtain ⟨y1, rfl⟩ := Wb.next g1
  clear g1
  go_wp2
  go_ret
  exact ⟨ret_bool' (by simp), (x0.bel.alloc x0.bel.size _).trans (y1.bel.mono (by have := x0.bel.size; simp; omega))⟩

set_option maxRecDepth 100000 in
set_option maxHeartbeats 1600000 in
theorem tserves_walk (sp pg f l n va : Int) (hf0 : 0 ≤ f) (hf1 : f < 18446744073709551616) (hl0 : 0 ≤ l) (hl1 : l < 18446744073709551616) (hv0 : 0 ≤ va) (hv1 : va < 18446744073709551616) (w : World) :
    Calls Try.prog 4 #[.agg #[.int .i64 sp, .int .u64 pg, .int .u64 f, .int .u64 l], .int .i64 n, .int .u64 va] w fun e w' => e = .returned (.bool true) ∧ Below w.heap.size w w' := by
  have AW := Lib.hid (fun w => tawake_any w)
  have C1 := Lib.hid (fun w => covers_any sp pg f l va hf0 hf1 hv0 hv1 w)
  have C2 := Lib.hid (fun w => rcovers_any sp pg f l va hf0 hf1 hv0 hv1 w)
  have S1 := Lib.hid (fun w => serves_any sp pg f l n va hf0 hf1 hl0 hl1 hv0 hv1 w)
  have S2 := Lib.hid (fun w => rserves_any sp pg f l n va hf0 hf1 hl0 hl1 hv0 hv1 w)
  obtain ⟨C, hC⟩ : ∃ C, C = GrT.covers ⟨sp, pg, f, l⟩ va := ⟨_, rfl⟩
  obtain ⟨S, hS⟩ : ∃ S, S = GrT.serves ⟨sp, pg, f, l⟩ n va := ⟨_, rfl⟩
  rw [← hC] at C1 C2
  rw [← hS] at S1 S2
  clear hC hS hf0 hf1 hl0 hl1 hv0 hv1
  have k0 : ∀ z : Wb (w.alloc (.cells #[.int .i64 sp, .int .u64 pg, .int .u64 f, .int .u64 l] 27)), z.at.cell? ⟨w.heap.size, 0, none⟩ = some (.int .i64 sp) := fun z => by rw [z.cell _ (by simp)]; simp [World.cell?_alloc_new]
  have k1 : ∀ z : Wb (w.alloc (.cells #[.int .i64 sp, .int .u64 pg, .int .u64 f, .int .u64 l] 27)), z.at.cell? ⟨w.heap.size, 1, none⟩ = some (.int .u64 pg) := fun z => by rw [z.cell _ (by simp)]; simp [World.cell?_alloc_new]
  have k2 : ∀ z : Wb (w.alloc (.cells #[.int .i64 sp, .int .u64 pg, .int .u64 f, .int .u64 l] 27)), z.at.cell? ⟨w.heap.size, 2, none⟩ = some (.int .u64 f) := fun z => by rw [z.cell _ (by simp)]; simp [World.cell?_alloc_new]
  have k3 : ∀ z : Wb (w.alloc (.cells #[.int .i64 sp, .int .u64 pg, .int .u64 f, .int .u64 l] 27)), z.at.cell? ⟨w.heap.size, 3, none⟩ = some (.int .u64 l) := fun z => by rw [z.cell _ (by simp)]; simp [World.cell?_alloc_new]
  have KB := Lib.hid (fun (z : Wb (w.alloc (.cells #[.int .i64 sp, .int .u64 pg, .int .u64 f, .int .u64 l] 27))) => (((Below.refl _ _).alloc (Nat.le_refl _) _).trans (z.bel.mono (by simp)) : Below w.heap.size w z.at))
  go_enter Try.func4, Try.ntmps4
  go_wp2_with fail
  refine wp_region_wb (by kernel_rfl) (by kernel_rfl) ?_
  repeat (go_big_quiet_step (first | (go_at_call 10; exact Calls.wb (AW.out _)) | (go_at_call 13; exact Calls.wb (C1.out _)) | (go_at_call 14; exact Calls.wb (C2.out _)) | (go_at_call 15; exact Calls.wb (S1.out _)) | (go_at_call 16; exact Calls.wb (S2.out _))))
  refine wpQuiet_nil ?_
  rintro _ ⟨x, rfl⟩
  go_wp2
  go_ret
  exact ⟨ret_bool' (by simp), KB.out x⟩

set_option maxRecDepth 100000 in
set_option maxHeartbeats 3200000 in
theorem tfills_walk (sp va f l : Int) (hf0 : 0 ≤ f) (hf1 : f < 18446744073709551616) (hl0 : 0 ≤ l) (hl1 : l < 18446744073709551616) (hv0 : 0 ≤ va) (hv1 : va < 18446744073709551616) (w : World) :
    Calls Try.prog 3 #[.agg #[.int .i64 sp, .int .u64 va, .int .u64 f, .int .u64 l]] w fun e w' => e = .returned (.bool true) ∧ Below w.heap.size w w' := by
  have F1 := Lib.hid (fun w => fill_any sp va f l hf0 hf1 hl0 hl1 hv0 hv1 w)
  have F2 := Lib.hid (fun w => rfill_any sp va f l hf0 hf1 hl0 hl1 hv0 hv1 w)
  obtain ⟨X, hX⟩ : ∃ X, X = GrT.fillE sp va f l := ⟨_, rfl⟩
  obtain ⟨O, hO⟩ : ∃ O, O = GrT.fillOk f l := ⟨_, rfl⟩
  rw [← hX, ← hO] at F1 F2
  clear hX hO hf0 hf1 hl0 hl1 hv0 hv1
  obtain ⟨es, ep, ef, el⟩ := X
  unfold ev at F1 F2
  have k0 : ∀ z : Wb (w.alloc (.cells #[.int .i64 sp, .int .u64 va, .int .u64 f, .int .u64 l] 24)), z.at.cell? ⟨w.heap.size, 0, none⟩ = some (.int .i64 sp) := fun z => by rw [z.cell _ (by simp)]; simp [World.cell?_alloc_new]
  have k1 : ∀ z : Wb (w.alloc (.cells #[.int .i64 sp, .int .u64 va, .int .u64 f, .int .u64 l] 24)), z.at.cell? ⟨w.heap.size, 1, none⟩ = some (.int .u64 va) := fun z => by rw [z.cell _ (by simp)]; simp [World.cell?_alloc_new]
  have k2 : ∀ z : Wb (w.alloc (.cells #[.int .i64 sp, .int .u64 va, .int .u64 f, .int .u64 l] 24)), z.at.cell? ⟨w.heap.size, 2, none⟩ = some (.int .u64 f) := fun z => by rw [z.cell _ (by simp)]; simp [World.cell?_alloc_new]
  have k3 : ∀ z : Wb (w.alloc (.cells #[.int .i64 sp, .int .u64 va, .int .u64 f, .int .u64 l] 24)), z.at.cell? ⟨w.heap.size, 3, none⟩ = some (.int .u64 l) := fun z => by rw [z.cell _ (by simp)]; simp [World.cell?_alloc_new]
  have KB := Lib.hid (fun (z : Wb (w.alloc (.cells #[.int .i64 sp, .int .u64 va, .int .u64 f, .int .u64 l] 24))) => (((Below.refl _ _).alloc (Nat.le_refl _) _).trans (z.bel.mono (by simp)) : Below w.heap.size w z.at))
  go_enter Try.func3, Try.ntmps3
  go_wp2_with fail
  refine (tawake_any _).mono ?_
  rintro e w1 ⟨rfl, g1⟩
  obtain ⟨x0, rfl⟩ := Wb.start g1
  clear g1
  go_wp2_with fail
  refine (F1.out _).mono ?_
  rintro e w1 ⟨rfl, g1⟩
  obtain ⟨x1, rfl⟩ := Wb.next g1
  clear g1
  have lt1 : w.heap.size < x1.at.heap.size := by have := x1.size; simp at this; omega
  have m0 : ∀ z : Wb (x1.at.alloc (.cells #[.int .i64 es, .int .u64 ep, .int .u64 ef, .int .u64 el] 27)), z.at.cell? ⟨x1.at.heap.size, 0, none⟩ = some (.int .i64 es) := fun z => by rw [z.cell _ (by simp)]; simp [World.cell?_alloc_new]
  have m1 : ∀ z : Wb (x1.at.alloc (.cells #[.int .i64 es, .int .u64 ep, .int .u64 ef, .int .u64 el] 27)), z.at.cell? ⟨x1.at.heap.size, 1, none⟩ = some (.int .u64 ep) := fun z => by rw [z.cell _ (by simp)]; simp [World.cell?_alloc_new]
  have m2 : ∀ z : Wb (x1.at.alloc (.cells #[.int .i64 es, .int .u64 ep, .int .u64 ef, .int .u64 el] 27)), z.at.cell? ⟨x1.at.heap.size, 2, none⟩ = some (.int .u64 ef) := fun z => by rw [z.cell _ (by simp)]; simp [World.cell?_alloc_new]
  have m3 : ∀ z : Wb (x1.at.alloc (.cells #[.int .i64 es, .int .u64 ep, .int .u64 ef, .int .u64 el] 27)), z.at.cell? ⟨x1.at.heap.size, 3, none⟩ = some (.int .u64 el) := fun z => by rw [z.cell _ (by simp)]; simp [World.cell?_alloc_new]
  have p0 : ∀ z : Wb (x1.at.alloc (.cells #[.int .i64 es, .int .u64 ep, .int .u64 ef, .int .u64 el] 27)), z.at.cell? ⟨w.heap.size, 0, none⟩ = some (.int .i64 sp) := fun z => (z.prev _ lt1).trans (k0 x1)
  have p1 : ∀ z : Wb (x1.at.alloc (.cells #[.int .i64 es, .int .u64 ep, .int .u64 ef, .int .u64 el] 27)), z.at.cell? ⟨w.heap.size, 1, none⟩ = some (.int .u64 va) := fun z => (z.prev _ lt1).trans (k1 x1)
  have p2 : ∀ z : Wb (x1.at.alloc (.cells #[.int .i64 es, .int .u64 ep, .int .u64 ef, .int .u64 el] 27)), z.at.cell? ⟨w.heap.size, 2, none⟩ = some (.int .u64 f) := fun z => (z.prev _ lt1).trans (k2 x1)
  have p3 : ∀ z : Wb (x1.at.alloc (.cells #[.int .i64 es, .int .u64 ep, .int .u64 ef, .int .u64 el] 27)), z.at.cell? ⟨w.heap.size, 3, none⟩ = some (.int .u64 l) := fun z => (z.prev _ lt1).trans (k3 x1)
  have MB := Lib.hid (fun (z : Wb (x1.at.alloc (.cells #[.int .i64 es, .int .u64 ep, .int .u64 ef, .int .u64 el] 27))) => ((KB.out x1).trans ((((Below.refl _ _).alloc (Nat.le_refl _) _).trans (z.bel.mono (by simp))).mono (by omega)) : Below w.heap.size w z.at))
  go_upto_region 4 with fail
  obtain ⟨y0, hy⟩ : ∃ y : Wb (x1.at.alloc (.cells #[.int .i64 es, .int .u64 ep, .int .u64 ef, .int .u64 el] 27)), (x1.at.alloc (.cells #[.int .i64 es, .int .u64 ep, .int .u64 ef, .int .u64 el] 27)) = y.at := ⟨⟨_, Below.refl _ _⟩, rfl⟩
  rw [hy]
  clear hy
  go_wp2_with fail
  refine (F2.out _).mono ?_
  rintro e w1 ⟨rfl, g1⟩
  obtain ⟨y1, rfl⟩ := Wb.next g1
  clear g1
  have lt2 : x1.at.heap.size < y1.at.heap.size := by have := y1.size; simp at this; omega
  have q0 : ∀ z : Wb (y1.at.alloc (.cells #[.int .i64 es, .int .u64 ep, .int .u64 ef, .int .u64 el] 27)), z.at.cell? ⟨y1.at.heap.size, 0, none⟩ = some (.int .i64 es) := fun z => by rw [z.cell _ (by simp)]; simp [World.cell?_alloc_new]
  have q1 : ∀ z : Wb (y1.at.alloc (.cells #[.int .i64 es, .int .u64 ep, .int .u64 ef, .int .u64 el] 27)), z.at.cell? ⟨y1.at.heap.size, 1, none⟩ = some (.int .u64 ep) := fun z => by rw [z.cell _ (by simp)]; simp [World.cell?_alloc_new]
  have q2 : ∀ z : Wb (y1.at.alloc (.cells #[.int .i64 es, .int .u64 ep, .int .u64 ef, .int .u64 el] 27)), z.at.cell? ⟨y1.at.heap.size, 2, none⟩ = some (.int .u64 ef) := fun z => by rw [z.cell _ (by simp)]; simp [World.cell?_alloc_new]
  have q3 : ∀ z : Wb (y1.at.alloc (.cells #[.int .i64 es, .int .u64 ep, .int .u64 ef, .int .u64 el] 27)), z.at.cell? ⟨y1.at.heap.size, 3, none⟩ = some (.int .u64 el) := fun z => by rw [z.cell _ (by simp)]; simp [World.cell?_alloc_new]
  have s0 : ∀ z : Wb (y1.at.alloc (.cells #[.int .i64 es, .int .u64 ep, .int .u64 ef, .int .u64 el] 27)), z.at.cell? ⟨x1.at.heap.size, 0, none⟩ = some (.int .i64 es) := fun z => (z.prev _ lt2).trans (m0 y1)
  have s1 : ∀ z : Wb (y1.at.alloc (.cells #[.int .i64 es, .int .u64 ep, .int .u64 ef, .int .u64 el] 27)), z.at.cell? ⟨x1.at.heap.size, 1, none⟩ = some (.int .u64 ep) := fun z => (z.prev _ lt2).trans (m1 y1)
  have s2 : ∀ z : Wb (y1.at.alloc (.cells #[.int .i64 es, .int .u64 ep, .int .u64 ef, .int .u64 el] 27)), z.at.cell? ⟨x1.at.heap.size, 2, none⟩ = some (.int .u64 ef) := fun z => (z.prev _ lt2).trans (m2 y1)
  have s3 : ∀ z : Wb (y1.at.alloc (.cells #[.int .i64 es, .int .u64 ep, .int .u64 ef, .int .u64 el] 27)), z.at.cell? ⟨x1.at.heap.size, 3, none⟩ = some (.int .u64 el) := fun z => (z.prev _ lt2).trans (m3 y1)
  go_upto_region 5 with fail
  obtain ⟨z0, hz⟩ : ∃ y : Wb (y1.at.alloc (.cells #[.int .i64 es, .int .u64 ep, .int .u64 ef, .int .u64 el] 27)), (y1.at.alloc (.cells #[.int .i64 es, .int .u64 ep, .int .u64 ef, .int .u64 el] 27)) = y.at := ⟨⟨_, Below.refl _ _⟩, rfl⟩
  rw [hz]
  clear hz
  go_wp2
  go_ret
  exact ⟨ret_bool' (by simp), (MB.out y1).trans ((((Below.refl _ _).alloc (Nat.le_refl _) _).trans (z0.bel.mono (by simp))).mono (by omega))⟩

end Go.Proofs.Ytkdbidnioalfkaa
