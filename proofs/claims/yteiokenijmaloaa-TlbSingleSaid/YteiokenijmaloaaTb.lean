/-
  Layer 9, the walks: Kept, block, own, size.
-/
import Derived.Test.YteiokenijmaloaaTa
import Derived.Deep.Light
set_option linter.unusedSimpArgs false
set_option linter.unusedVariables false
namespace Go.Proofs.Yteiokenijmaloaa
open Go.RowKit

set_option maxRecDepth 100000 in
set_option maxHeartbeats 1600000 in
theorem rblock_any (f : Int) (hf0 : 0 ≤ f) (hf1 : f < 18446744073709551616) (w : World) :
    Calls Try.prog 54 #[.int .u64 f] w fun e w' => e = .returned (.bool (GrT.block f)) ∧ Below w.heap.size w w' := by
  have LF := Lib.hid (fun w => rdecode_any f 1 w hf0 hf1)
  obtain ⟨D1, hD1⟩ : ∃ D, D = GrD.decode f 1 := ⟨_, rfl⟩
  have E := Lib.hid (show GrT.block f = (D1.valid && !D1.table) by rw [hD1]; rfl)
  rw [← hD1] at LF
  clear hD1 hf0 hf1
  obtain ⟨v, t, o, u, r, s, q⟩ := D1
  unfold dv at LF
  cases v <;> cases t
  all_goals
    go_enter Try.func54, Try.ntmps54
    go_wp2_with fail
    refine (LF.out _).mono ?_
    rintro e w1 ⟨rfl, g1⟩
    obtain ⟨x0, rfl⟩ := Wb.start g1
    clear g1
    go_wp2
    go_ret
    have xb := x0.bel
    refine ⟨ret_bool' (by rw [E.out]; simp), ?_⟩
    repeat' (first | (with_reducible exact Below.refl _ _) | assumption | exact xb.size | (with_reducible refine Below.setCell ?_ ?_ _) | (with_reducible refine Below.alloc ?_ ?_ _) | (simp [World.size_alloc]; done) | (simp [World.size_alloc]; omega))

set_option maxRecDepth 100000 in
set_option maxHeartbeats 1600000 in
theorem own_any (sp pg f l : Int) (hf0 : 0 ≤ f) (hf1 : f < 18446744073709551616) (hl0 : 0 ≤ l) (hl1 : l < 18446744073709551616) (w : World) :
    Calls Try.prog 33 #[.agg #[.int .i64 sp, .int .u64 pg, .int .u64 f, .int .u64 l]] w fun e w' => e = .returned (.bool (GrT.own ⟨sp, pg, f, l⟩)) ∧ Below w.heap.size w w' := by
  have LF := Lib.hid (fun w => leaf_any f l w hf0 hf1 hl0 hl1)
  obtain ⟨D1, hD1⟩ : ∃ D, D = GrT.leafD f l := ⟨_, rfl⟩
  have E := Lib.hid (show GrT.own ⟨sp, pg, f, l⟩ = D1.own by rw [hD1]; rfl)
  rw [← hD1] at LF
  clear hD1 hf0 hf1 hl0 hl1
  obtain ⟨v, t, o, u, r, s, q⟩ := D1
  unfold dv at LF
  have KB := Lib.hid (fun (z : Wb (w.alloc (.cells #[.int .i64 sp, .int .u64 pg, .int .u64 f, .int .u64 l] 25))) => (((Below.refl _ _).alloc (Nat.le_refl _) _).trans (z.bel.mono (by simp)) : Below w.heap.size w z.at))
  go_enter Try.func33, Try.ntmps33
  go_wp2_with fail
  refine (LF.out _).mono ?_
  rintro e w1 ⟨rfl, g1⟩
  obtain ⟨x0, rfl⟩ := Wb.start g1
  clear g1
  have xb := KB.out x0
  have xs := x0.size
  simp at xs
  go_wp2
  go_ret
  refine ⟨ret_bool' (by rw [E.out]), ?_⟩
  repeat' (first | (with_reducible exact Below.refl _ _) | assumption | exact xb.size | (with_reducible refine Below.setCell ?_ ?_ _) | (with_reducible refine Below.alloc ?_ ?_ _) | (simp [World.size_alloc]; done) | (simp [World.size_alloc]; omega))

set_option maxRecDepth 100000 in
set_option maxHeartbeats 1600000 in
theorem rown_any (sp pg f l : Int) (hf0 : 0 ≤ f) (hf1 : f < 18446744073709551616) (hl0 : 0 ≤ l) (hl1 : l < 18446744073709551616) (w : World) :
    Calls Try.prog 48 #[.agg #[.int .i64 sp, .int .u64 pg, .int .u64 f, .int .u64 l]] w fun e w' => e = .returned (.bool (GrT.own ⟨sp, pg, f, l⟩)) ∧ Below w.heap.size w w' := by
  have LF := Lib.hid (fun w => rleaf_any f l w hf0 hf1 hl0 hl1)
  obtain ⟨D1, hD1⟩ : ∃ D, D = GrT.leafD f l := ⟨_, rfl⟩
  have E := Lib.hid (show GrT.own ⟨sp, pg, f, l⟩ = D1.own by rw [hD1]; rfl)
  rw [← hD1] at LF
  clear hD1 hf0 hf1 hl0 hl1
  obtain ⟨v, t, o, u, r, s, q⟩ := D1
  unfold dv at LF
  have KB := Lib.hid (fun (z : Wb (w.alloc (.cells #[.int .i64 sp, .int .u64 pg, .int .u64 f, .int .u64 l] 25))) => (((Below.refl _ _).alloc (Nat.le_refl _) _).trans (z.bel.mono (by simp)) : Below w.heap.size w z.at))
  go_enter Try.func48, Try.ntmps48
  go_wp2_with fail
  refine (LF.out _).mono ?_
  rintro e w1 ⟨rfl, g1⟩
  obtain ⟨x0, rfl⟩ := Wb.start g1
  clear g1
  have xb := KB.out x0
  have xs := x0.size
  simp at xs
  go_wp2
  go_ret
  refine ⟨ret_bool' (by rw [E.out]), ?_⟩
  repeat' (first | (with_reducible exact Below.refl _ _) | assumption | exact xb.size | (with_reducible refine Below.setCell ?_ ?_ _) | (with_reducible refine Below.alloc ?_ ?_ _) | (simp [World.size_alloc]; done) | (simp [World.size_alloc]; omega))

set_option maxRecDepth 100000 in
set_option maxHeartbeats 1600000 in
theorem size_any (sp pg f l : Int) (hf0 : 0 ≤ f) (hf1 : f < 18446744073709551616) (w : World) :
    Calls Try.prog 46 #[.agg #[.int .i64 sp, .int .u64 pg, .int .u64 f, .int .u64 l]] w fun e w' => e = .returned (.int .i64 (GrT.size f)) ∧ Below w.heap.size w w' := by
  have LF := Lib.hid (fun w => decode_any f 1 w hf0 hf1)
  obtain ⟨D1, hD1⟩ : ∃ D, D = GrD.decode f 1 := ⟨_, rfl⟩
  have E := Lib.hid (show GrT.size f = if (D1.valid && !D1.table) = true then 21 else 12 by rw [hD1]; rfl)
  rw [← hD1] at LF
  clear hD1 hf0 hf1
  obtain ⟨v, t, o, u, r, s, q⟩ := D1
  unfold dv at LF
  have KB := Lib.hid (fun (z : Wb (w.alloc (.cells #[.int .i64 sp, .int .u64 pg, .int .u64 f, .int .u64 l] 25))) => (((Below.refl _ _).alloc (Nat.le_refl _) _).trans (z.bel.mono (by simp)) : Below w.heap.size w z.at))
  cases v <;> cases t
  all_goals
    go_enter Try.func46, Try.ntmps46
    go_wp2_with fail
    refine (LF.out _).mono ?_
    rintro e w1 ⟨rfl, g1⟩
    obtain ⟨x0, rfl⟩ := Wb.start g1
    clear g1
    have xb := KB.out x0
    have xs := x0.size
    simp at xs
    go_wp2
    go_ret
    refine ⟨ret_i64' (by rw [E.out]; simp), ?_⟩
    repeat' (first | (with_reducible exact Below.refl _ _) | assumption | exact xb.size | (with_reducible refine Below.setCell ?_ ?_ _) | (with_reducible refine Below.alloc ?_ ?_ _) | (simp [World.size_alloc]; done) | (simp [World.size_alloc]; omega))

end Go.Proofs.Yteiokenijmaloaa
