/-
  Layer 9: the page's example.
-/
import Derived.Test.YteiokenijmaloaaTe
set_option linter.unusedSimpArgs false
set_option linter.unusedVariables false
namespace Go.Proofs.Yteiokenijmaloaa
open Go.RowKit

theorem dec_a : GrD.decode 8195 1 = ⟨true, true, 8192, false, false, false, false⟩ := by
  simp only [GrD.decode, GrD.goodB, GrD.tableB, GrD.levelB, GrD.bit_0 8195 (by omega), GrD.bit_1 8195 (by omega), GrD.get_47 8195 (by omega), GrD.get_31_12 8195 (by omega)]
  rfl
theorem dec_b : GrD.decode 21507 2 = ⟨true, false, 20480, true, false, false, false⟩ := by
  simp only [GrD.decode, GrD.goodB, GrD.tableB, GrD.levelB, GrD.bit_0 21507 (by omega), GrD.bit_1 21507 (by omega), GrD.bit_6 21507 (by omega), GrD.bit_7 21507 (by omega), GrD.bit_10 21507 (by omega), GrD.bit_11 21507 (by omega), GrD.get_47 21507 (by omega), GrD.get_31_12 21507 (by omega)]
  rfl
theorem down_a : GrF.down 4112 12 = 4096 := by
  have := GrD.down_mod 4112 12 (by omega) (by omega) (by omega)
  exact this
theorem down_b : GrF.down 4096 12 = 4096 := by
  have := GrD.down_mod 4096 12 (by omega) (by omega) (by omega)
  exact this
theorem leaf_a : GrT.leafD 8195 21507 = ⟨true, false, 20480, true, false, false, false⟩ := by rw [GrT.leafD, dec_a, dec_b]; rfl
theorem ok_a : GrT.fillOk 8195 21507 = true := by rw [GrT.fillOk, leaf_a]; rfl
theorem fill_a : GrT.fillE 1 4112 8195 21507 = ⟨1, 4096, 8195, 21507⟩ := by
  rw [GrT.fillE, if_pos ok_a, GrT.leafL, dec_a, down_a]; rfl
theorem takes_a : GrT.takes 3 0 1 ⟨1, 4096, 8195, 21507⟩ = false := by
  have : GrT.own ⟨1, 4096, 8195, 21507⟩ = false := by rw [GrT.own, leaf_a]
  rw [GrT.takes, this]; rfl
theorem takes_b : GrT.takes 1 4096 9 ⟨1, 4096, 8195, 21507⟩ = true := by
  have h1 : GrT.own ⟨1, 4096, 8195, 21507⟩ = false := by rw [GrT.own, leaf_a]
  have h2 : GrT.size 8195 = 12 := by rw [GrT.size, GrT.block, dec_a]; rfl
  have h3 : GrT.covers ⟨1, 4096, 8195, 21507⟩ 4096 = true := by rw [GrT.covers, h2, down_b]; rfl
  rw [GrT.takes, if_neg (by decide), if_pos rfl, GrT.serves, h3, h1]; rfl

set_option maxRecDepth 100000 in
set_option maxHeartbeats 1600000 in
theorem tawake_any (w : World) :
    Calls Try.prog 8 #[] w fun e w' => e = .returned (.bool true) ∧ Below w.heap.size w w' := by
  have FA := Lib.hid (fun w => fill_any 1 4112 8195 21507 (by omega) (by omega) (by omega) (by omega) (by omega) (by omega) w)
  have TA := Lib.hid (fun w => takes_any 3 0 1 1 4096 8195 21507 (by omega) (by omega) (by omega) (by omega) (by omega) (by omega) w)
  have TB := Lib.hid (fun w => takes_any 1 4096 9 1 4096 8195 21507 (by omega) (by omega) (by omega) (by omega) (by omega) (by omega) w)
  rw [fill_a, ok_a] at FA
  rw [takes_a] at TA
  rw [takes_b] at TB
  unfold ev at FA
  go_enter Try.func8, Try.ntmps8
  go_wp2_with fail
  refine (FA.out _).mono ?_
  rintro e w1 ⟨rfl, g1⟩
  obtain ⟨x0, rfl⟩ := Wb.start g1
  clear g1
  have m0 : ∀ z : Wb (x0.at.alloc (.cells #[.int .i64 1, .int .u64 4096, .int .u64 8195, .int .u64 21507] 25)), z.at.cell? ⟨x0.at.heap.size, 0, none⟩ = some (.int .i64 1) := fun z => by rw [z.cell _ (by simp)]; simp [World.cell?_alloc_new]
  have m1 : ∀ z : Wb (x0.at.alloc (.cells #[.int .i64 1, .int .u64 4096, .int .u64 8195, .int .u64 21507] 25)), z.at.cell? ⟨x0.at.heap.size, 1, none⟩ = some (.int .u64 4096) := fun z => by rw [z.cell _ (by simp)]; simp [World.cell?_alloc_new]
  have m2 : ∀ z : Wb (x0.at.alloc (.cells #[.int .i64 1, .int .u64 4096, .int .u64 8195, .int .u64 21507] 25)), z.at.cell? ⟨x0.at.heap.size, 2, none⟩ = some (.int .u64 8195) := fun z => by rw [z.cell _ (by simp)]; simp [World.cell?_alloc_new]
  have m3 : ∀ z : Wb (x0.at.alloc (.cells #[.int .i64 1, .int .u64 4096, .int .u64 8195, .int .u64 21507] 25)), z.at.cell? ⟨x0.at.heap.size, 3, none⟩ = some (.int .u64 21507) := fun z => by rw [z.cell _ (by simp)]; simp [World.cell?_alloc_new]
  go_wp2_with fail
  refine (TA.out _).mono ?_
  rintro e w1 ⟨rfl, g1⟩
  obtain ⟨y0, rfl⟩ := Wb.start g1
  clear g1
  go_wp2_with fail
  refine (TB.out _).mono ?_
  rintro e w1 ⟨rfl, g1⟩
  obtain ⟨y1, rfl⟩ := Wb.next g1
  clear g1
  go_wp2
  go_ret
  exact ⟨ret_bool' (by simp), (x0.bel.alloc x0.bel.size _).trans (y1.bel.mono (by have := x0.bel.size; simp; omega))⟩

end Go.Proofs.Yteiokenijmaloaa
