/-
  Layer 7, the walks: what each call of package desc comes to.
-/
import Derived.Test.YteiokenijmaloaaFx
import Derived.Test.YteiokenijmaloaaDo
import Derived.Deep.RegionWith
set_option linter.unusedSimpArgs false
set_option linter.unusedVariables false
namespace Go.Proofs.Yteiokenijmaloaa
open Go.RowKit

/-- a descriptor as a value -/
def dv (d : GrD.D) : Value := .agg #[.bool d.valid, .bool d.table, .int .u64 d.out, .bool d.used, .bool d.ro, .bool d.user, .bool d.own]

theorem two_words {x : Int} (h : 0 ≤ x) : 0 ≤ GrF.get x 31 12 ∧ GrF.get x 31 12 ≤ 1048575 ∧ 0 ≤ GrF.get x 31 21 ∧ GrF.get x 31 21 ≤ 2047 := by
  have h1 := GrD.get_31_12 x h
  have h2 := GrD.get_31_21 x h
  omega

set_option maxHeartbeats 1600000 in
theorem decode_no0 (x l : Int) (w : World) (h0 : 0 ≤ x) (h1 : x < 18446744073709551616) (b0 : GrF.bitB x 0 = false) :
    Calls Try.prog 49 #[.int .u64 x, .int .i64 l] w fun e w' => e = .returned (dv GrD.zero) ∧ Below w.heap.size w w' := by
  have H1 := Lib.hid h1
  clear h1
  go_enter Try.func49, Try.ntmps49
  go_wp2_with fail
  refine (bit_any x 1 _ h0 H1.out).mono ?_
  rintro e w1 ⟨rfl, ⟨m, rfl⟩⟩
  go_wp2_with fail
  refine (bit_any x 0 _ h0 H1.out).mono ?_
  rintro e w1 ⟨rfl, ⟨m2, rfl⟩⟩
  rw [b0]
  go_wp2
  refine bodyPost_ret (v := dv GrD.zero) (by simp [results, Try.results49, go_sem, dv, GrD.zero]) rfl ⟨rfl, ?_⟩
  repeat' (first | (with_reducible exact Below.refl _ _) | (with_reducible refine below_drewN ?_ _) | (with_reducible refine Below.setCell ?_ ?_ _) | (with_reducible refine Below.alloc ?_ ?_ _) | (with_reducible refine Below.drew ?_) | (simp [World.size_alloc]; done) | (simp [World.size_alloc]; omega))

set_option maxHeartbeats 1600000 in
theorem decode_no1 (x l : Int) (w : World) (h0 : 0 ≤ x) (h1 : x < 18446744073709551616) (b0 : GrF.bitB x 0 = true) (b47 : (GrF.get x 47 32 != 0) = true) :
    Calls Try.prog 49 #[.int .u64 x, .int .i64 l] w fun e w' => e = .returned (dv GrD.zero) ∧ Below w.heap.size w w' := by
  have H1 := Lib.hid h1
  clear h1
  go_enter Try.func49, Try.ntmps49
  go_wp2_with fail
  refine (bit_any x 1 _ h0 H1.out).mono ?_
  rintro e w1 ⟨rfl, ⟨m, rfl⟩⟩
  go_wp2_with fail
  refine (bit_any x 0 _ h0 H1.out).mono ?_
  rintro e w1 ⟨rfl, ⟨m2, rfl⟩⟩
  rw [b0]
  go_wp2_with fail
  refine (get_any x 47 32 _ h0 H1.out).mono ?_
  rintro e w1 ⟨rfl, ⟨m3, rfl⟩⟩
  go_wp2
  refine bodyPost_ret (v := dv GrD.zero) (by simp [results, Try.results49, go_sem, dv, GrD.zero]) rfl ⟨rfl, ?_⟩
  repeat' (first | (with_reducible exact Below.refl _ _) | (with_reducible refine below_drewN ?_ _) | (with_reducible refine Below.setCell ?_ ?_ _) | (with_reducible refine Below.alloc ?_ ?_ _) | (with_reducible refine Below.drew ?_) | (simp [World.size_alloc]; done) | (simp [World.size_alloc]; omega))

set_option maxHeartbeats 1600000 in
theorem decode_no2 (x l : Int) (w : World) (h0 : 0 ≤ x) (h1 : x < 18446744073709551616) (b0 : GrF.bitB x 0 = true) (b47 : (GrF.get x 47 32 != 0) = false) (hl : l ≠ 1) (hb : l = 2 → GrF.bitB x 1 = false) :
    Calls Try.prog 49 #[.int .u64 x, .int .i64 l] w fun e w' => e = .returned (dv GrD.zero) ∧ Below w.heap.size w w' := by
  have H1 := Lib.hid h1
  have n1 : (l != 1) = true := by simp [hl]
  by_cases h2 : l = 2
  · have b1 := hb h2
    subst h2
    clear h1 hl hb n1
    go_enter Try.func49, Try.ntmps49
    go_wp2_with fail
    refine (bit_any x 1 _ h0 H1.out).mono ?_
    rintro e w1 ⟨rfl, ⟨m, rfl⟩⟩
    rw [b1]
    go_wp2_with fail
    refine (bit_any x 0 _ h0 H1.out).mono ?_
    rintro e w1 ⟨rfl, ⟨m2, rfl⟩⟩
    rw [b0]
    go_wp2_with fail
    refine (get_any x 47 32 _ h0 H1.out).mono ?_
    rintro e w1 ⟨rfl, ⟨m3, rfl⟩⟩
    go_wp2
    refine bodyPost_ret (v := dv GrD.zero) (by simp [results, Try.results49, go_sem, dv, GrD.zero]) rfl ⟨rfl, ?_⟩
    repeat' (first | (with_reducible exact Below.refl _ _) | (with_reducible refine below_drewN ?_ _) | (with_reducible refine Below.setCell ?_ ?_ _) | (with_reducible refine Below.alloc ?_ ?_ _) | (with_reducible refine Below.drew ?_) | (simp [World.size_alloc]; done) | (simp [World.size_alloc]; omega))
  · have n2 : (l != 2) = true := by simp [h2]
    clear h1 hl hb h2
    go_enter Try.func49, Try.ntmps49
    go_wp2_with fail
    refine (bit_any x 1 _ h0 H1.out).mono ?_
    rintro e w1 ⟨rfl, ⟨m, rfl⟩⟩
    go_wp2_with fail
    refine (bit_any x 0 _ h0 H1.out).mono ?_
    rintro e w1 ⟨rfl, ⟨m2, rfl⟩⟩
    rw [b0]
    go_wp2_with fail
    refine (get_any x 47 32 _ h0 H1.out).mono ?_
    rintro e w1 ⟨rfl, ⟨m3, rfl⟩⟩
    go_wp2
    refine bodyPost_ret (v := dv GrD.zero) (by simp [results, Try.results49, go_sem, dv, GrD.zero]) rfl ⟨rfl, ?_⟩
    repeat' (first | (with_reducible exact Below.refl _ _) | (with_reducible refine below_drewN ?_ _) | (with_reducible refine Below.setCell ?_ ?_ _) | (with_reducible refine Below.alloc ?_ ?_ _) | (with_reducible refine Below.drew ?_) | (simp [World.size_alloc]; done) | (simp [World.size_alloc]; omega))

set_option maxHeartbeats 1600000 in
theorem decode_table (x : Int) (w : World) (h0 : 0 ≤ x) (h1 : x < 18446744073709551616) (b0 : GrF.bitB x 0 = true) (b47 : (GrF.get x 47 32 != 0) = false) (b1 : GrF.bitB x 1 = true) :
    Calls Try.prog 49 #[.int .u64 x, .int .i64 1] w fun e w' => e = .returned (dv ⟨true, true, GrF.get x 31 12 * 4096, false, false, false, false⟩) ∧ Below w.heap.size w w' := by
  have H1 := Lib.hid h1
  clear h1
  obtain ⟨g1, g2, _, _⟩ := two_words h0
  go_enter Try.func49, Try.ntmps49
  go_wp2_with fail
  refine (bit_any x 1 _ h0 H1.out).mono ?_
  rintro e w1 ⟨rfl, ⟨m, rfl⟩⟩
  rw [b1]
  go_wp2_with fail
  refine (bit_any x 0 _ h0 H1.out).mono ?_
  rintro e w1 ⟨rfl, ⟨m2, rfl⟩⟩
  rw [b0]
  go_wp2_with fail
  refine (get_any x 47 32 _ h0 H1.out).mono ?_
  rintro e w1 ⟨rfl, ⟨m3, rfl⟩⟩
  go_wp2_with (first
    | (go_at_call 58; refine (get_any x 31 12 _ h0 H1.out).mono ?_; rintro e w1 ⟨rfl, ⟨m4, rfl⟩⟩)
    | go_in)
  refine bodyPost_ret (v := dv ⟨true, true, GrF.get x 31 12 * 4096, false, false, false, false⟩) (by simp [results, Try.results49, go_sem, dv, GrD.zero]) rfl ⟨rfl, ?_⟩
  repeat' (first | (with_reducible exact Below.refl _ _) | (with_reducible refine below_drewN ?_ _) | (with_reducible refine Below.setCell ?_ ?_ _) | (with_reducible refine Below.alloc ?_ ?_ _) | (with_reducible refine Below.drew ?_) | (simp [World.size_alloc]; done) | (simp [World.size_alloc]; omega))

end Go.Proofs.Yteiokenijmaloaa
