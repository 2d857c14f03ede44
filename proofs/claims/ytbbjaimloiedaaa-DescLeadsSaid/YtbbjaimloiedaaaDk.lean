/-
  Layer 7: the laws' walks, further.
-/
import Derived.Test.YtbbjaimloiedaaaDl
namespace Go.Proofs.Ytbbjaimloiedaaa
open Go.RowKit

theorem decode_bd (x l : Int) (h0 : 0 ≤ x) (h1 : x < 18446744073709551616) : 0 ≤ (GrD.decode x l).out ∧ (GrD.decode x l).out < 18446744073709551616 := by
  have h := GrD.right_decode x l h0
  have k := GrD.right_out (GrD.decode x l) l h.2 h.1
  exact ⟨h.2, by omega⟩

set_option maxHeartbeats 1600000 in
theorem reads_walk (x l : Int) (w : World) (h0 : 0 ≤ x) (h1 : x < 18446744073709551616) :
    Calls Try.prog 3 #[.int .u64 x, .int .i64 l] w fun e w' => e = .returned (.bool true) ∧ Below w.heap.size w w' := by
  obtain ⟨d, hd⟩ : ∃ d, d = GrD.decode x l := ⟨_, rfl⟩
  have de := fun w => decode_any x l w h0 h1
  have rd := fun w => rdecode_any x l w h0 h1
  rw [← hd] at de rd
  have DE := Lib.hid de
  have RD := Lib.hid rd
  clear de rd hd h0 h1
  obtain ⟨v, t, o, u, r, s, q⟩ := d
  go_enter Try.func3, Try.ntmps3
  go_wp2_with fail
  refine (dawake_any _).mono ?_
  rintro e w1 ⟨rfl, d1⟩
  obtain ⟨x1, rfl⟩ := Wb.start d1
  clear d1
  go_wp2_with fail
  refine (DE.out _).mono ?_
  rintro e w1 ⟨rfl, d1⟩
  obtain ⟨x2, rfl⟩ := Wb.next d1
  clear d1
  go_wp2_with fail
  refine (RD.out _).mono ?_
  rintro e w1 ⟨rfl, d1⟩
  obtain ⟨x3, rfl⟩ := Wb.next d1
  clear d1
  unfold dv
  go_wp2
  go_ret
  exact ⟨ret_bool' (by simp), x3.bel⟩

set_option maxHeartbeats 1600000 in
theorem writes_walk (d : GrD.D) (l : Int) (w : World) (h0 : 0 ≤ d.out) (h1 : d.out < 18446744073709551616) :
    Calls Try.prog 4 #[dv d, .int .i64 l] w fun e w' => e = .returned (.bool true) ∧ Below w.heap.size w w' := by
  have CK := Lib.hid (fun w => check_any d l w h0 h1)
  have RR := Lib.hid (fun w => rright_any d l w h0)
  cases hr : GrD.rightB d l with
  | false =>
    rw [hr, GrD.err_f] at CK
    rw [hr] at RR
    have EN := Lib.hid (fun w => encode_no d l w h0 h1 hr)
    clear hr h0 h1
    obtain ⟨v, t, o, u, r, s, q⟩ := d
    obtain ⟨k0, k1, k2, k3, k4, k5, k6, kb⟩ := box7 w v t o u r s q _ rfl
    have KB := Lib.hid kb
    clear kb
    unfold dv at CK RR EN ⊢
    go_enter Try.func4, Try.ntmps4
    go_wp2_with fail
    refine (dawake_any _).mono ?_
    rintro e w1 ⟨rfl, d1⟩
    obtain ⟨x1, rfl⟩ := Wb.start d1
    clear d1
    go_wp2_with fail
    refine (EN.out _).mono ?_
    rintro e w1 ⟨rfl, d1⟩
    obtain ⟨x2, rfl⟩ := Wb.next d1
    clear d1
    go_wp2_with fail
    refine (RR.out _).mono ?_
    rintro e w1 ⟨rfl, d1⟩
    obtain ⟨x3, rfl⟩ := Wb.next d1
    clear d1
    go_wp2_with fail
    refine (CK.out _).mono ?_
    rintro e w1 ⟨rfl, d1⟩
    obtain ⟨x4, rfl⟩ := Wb.next d1
    clear d1
    go_wp2
    go_ret
    exact ⟨ret_bool' (by simp), KB.out x4⟩
  | true =>
    rw [hr, GrD.err_t] at CK
    rw [hr] at RR
    have EN := Lib.hid (fun w => encode_any d l w h0 h1 hr)
    have ho := (GrD.right_out d l h0 hr).2
    have WD := Lib.hid (fun w => rword_any d l w h0 ho)
    obtain ⟨W, hW⟩ : ∃ W, W = GrD.word d l := ⟨_, rfl⟩
    rw [← hW] at EN WD
    clear hr h0 h1 ho hW
    obtain ⟨v, t, o, u, r, s, q⟩ := d
    obtain ⟨k0, k1, k2, k3, k4, k5, k6, kb⟩ := box7 w v t o u r s q _ rfl
    have KB := Lib.hid kb
    clear kb
    unfold dv at CK RR EN WD ⊢
    go_enter Try.func4, Try.ntmps4
    go_wp2_with fail
    refine (dawake_any _).mono ?_
    rintro e w1 ⟨rfl, d1⟩
    obtain ⟨x1, rfl⟩ := Wb.start d1
    clear d1
    go_wp2_with fail
    refine (EN.out _).mono ?_
    rintro e w1 ⟨rfl, d1⟩
    obtain ⟨x2, rfl⟩ := Wb.next d1
    clear d1
    go_wp2_with fail
    refine (RR.out _).mono ?_
    rintro e w1 ⟨rfl, d1⟩
    obtain ⟨x3, rfl⟩ := Wb.next d1
    clear d1
    go_wp2_with fail
    refine (CK.out _).mono ?_
    rintro e w1 ⟨rfl, d1⟩
    obtain ⟨x4, rfl⟩ := Wb.next d1
    clear d1
    go_wp2_with fail
    refine (WD.out _).mono ?_
    rintro e w1 ⟨rfl, d1⟩
    obtain ⟨x5, rfl⟩ := Wb.next d1
    clear d1
    go_wp2
    go_ret
    exact ⟨ret_bool' (by simp), KB.out x5⟩

set_option maxHeartbeats 1600000 in
theorem leads_walk (d : GrD.D) (l va : Int) (w : World) (h0 : 0 ≤ d.out) (h1 : d.out < 18446744073709551616) (a0 : 0 ≤ va) (a1 : va < 18446744073709551616) :
    Calls Try.prog 6 #[dv d, .int .i64 l, .int .u64 va] w fun e w' => e = .returned (.bool true) ∧ Below w.heap.size w w' := by
  have AD := Lib.hid (fun w => address_any d l va w h0 h1 a0)
  have RD := Lib.hid (fun w => raddress_any d l va w h0 h1 a0 a1)
  obtain ⟨A, hA⟩ : ∃ A, A = GrD.address d l va := ⟨_, rfl⟩
  rw [← hA] at AD RD
  have AW := Lib.hid (fun w => dawake_any w)
  clear hA h0 h1 a0 a1
  obtain ⟨v, t, o, u, r, s, q⟩ := d
  obtain ⟨k0, k1, k2, k3, k4, k5, k6, kb⟩ := box7 w v t o u r s q _ rfl
  have KB := Lib.hid kb
  clear kb
  unfold dv at AD RD ⊢
  go_enter Try.func6, Try.ntmps6
  go_wp2_with fail
  refine wp_region_wb (by kernel_rfl) (by kernel_rfl) ?_
  repeat (go_big_quiet_step (first | (go_at_call 12; exact Calls.wb (AW.out _)) | (go_at_call 19; exact Calls.wb (AD.out _)) | (go_at_call 20; exact Calls.wb (RD.out _))))
  refine wpQuiet_nil ?_
  rintro _ ⟨y, rfl⟩
  go_wp2
  go_ret
  exact ⟨ret_bool' (by simp), KB.out y⟩

set_option maxHeartbeats 3200000 in
theorem back_walk (d : GrD.D) (x l : Int) (w : World) (h0 : 0 ≤ d.out) (h1 : d.out < 18446744073709551616) (a0 : 0 ≤ x) (a1 : x < 18446744073709551616) :
    Calls Try.prog 5 #[dv d, .int .u64 x, .int .i64 l] w fun e w' => e = .returned (.bool true) ∧ Below w.heap.size w w' := by
  have DX := Lib.hid (fun w => decode_any x l w a0 a1)
  have ex := GrD.right_decode x l a0
  have bx := decode_bd x l a0 a1
  have EX := Lib.hid (fun w => encode_any (GrD.decode x l) l w bx.1 bx.2 ex.1)
  have wx0 := GrD.word_nonneg (GrD.decode x l) l bx.1
  have wx1 : GrD.word (GrD.decode x l) l < 18446744073709551616 := by
    have := (GrD.right_out (GrD.decode x l) l bx.1 ex.1).2
    have p1 := GrD.b1_bd ((GrD.decode x l).table || decide (l = 2))
    have p2 := GrD.b1_bd (GrD.decode x l).user
    have p3 := GrD.b1_bd (GrD.decode x l).ro
    have p4 := GrD.b1_bd (GrD.decode x l).used
    have p5 := GrD.b1_bd (GrD.decode x l).own
    unfold GrD.word
    split <;> omega
  have RX := Lib.hid (fun w => decode_any (GrD.word (GrD.decode x l) l) l w wx0 wx1)
  rw [GrD.decode_word _ l bx.1 ex.1] at RX
  obtain ⟨W, hW⟩ : ∃ W, W = GrD.word (GrD.decode x l) l := ⟨_, rfl⟩
  rw [← hW] at EX RX
  obtain ⟨D2, hD⟩ : ∃ D2, D2 = GrD.decode x l := ⟨_, rfl⟩
  rw [← hD] at DX EX RX
  clear ex bx wx0 wx1 hW hD
  obtain ⟨v2, t2, o2, u2, r2, s2, q2⟩ := D2
  cases hr : GrD.rightB d l with
  | false =>
    have EN := Lib.hid (fun w => encode_no d l w h0 h1 hr)
    clear hr h0 h1 a0 a1
    obtain ⟨v, t, o, u, r, s, q⟩ := d
    obtain ⟨k0, k1, k2, k3, k4, k5, k6, kb⟩ := box7 w v t o u r s q _ rfl
    have KB := Lib.hid kb
    clear kb
    unfold dv at DX EX RX EN ⊢
    go_enter Try.func5, Try.ntmps5
    go_wp2_with fail
    refine (dawake_any _).mono ?_
    rintro e w1 ⟨rfl, d1⟩
    obtain ⟨x1, rfl⟩ := Wb.start d1
    clear d1
    go_wp2_with fail
    refine (EN.out _).mono ?_
    rintro e w1 ⟨rfl, d1⟩
    obtain ⟨x2, rfl⟩ := Wb.next d1
    clear d1
    go_wp2_with fail
    refine wp_region_wb (by kernel_rfl) (by kernel_rfl) ?_
    repeat (go_big_quiet_step (fail))
    refine wpQuiet_nil ?_
    rintro _ ⟨x3, rfl⟩
    go_wp2_with fail
    refine (DX.out _).mono ?_
    rintro e w1 ⟨rfl, d1⟩
    obtain ⟨x4, rfl⟩ := Wb.start d1
    clear d1
    obtain ⟨m0, m1, m2, m3, m4, m5, m6, mb⟩ := box7 x4.at v2 t2 o2 u2 r2 s2 q2 _ rfl
    have BB : ∀ y : Wb (x4.at.alloc (.cells #[.bool v2, .bool t2, .int .u64 o2, .bool u2, .bool r2, .bool s2, .bool q2] 25)), Below w.heap.size w y.at := fun y =>
      (KB.out x2).trans ((x3.bel.trans ((x4.bel).mono x3.size)).trans ((mb y).mono (by have := x3.size; have := x4.size; omega)) |>.mono (by have := x2.size; simp at this; omega))
    have MB := Lib.hid BB
    clear mb BB
    go_wp2_with fail
    refine (EX.out _).mono ?_
    rintro e w1 ⟨rfl, d1⟩
    obtain ⟨y1, rfl⟩ := Wb.start d1
    clear d1
    go_wp2_with fail
    refine wp_region_wb (by kernel_rfl) (by kernel_rfl) ?_
    have j0 : ∀ y : Wb y1.at, y.at.cell? ⟨x4.at.heap.size, 0, none⟩ = some (.bool v2) := fun y => by obtain ⟨z, hz⟩ := Wb.next (x := y1) y.bel; rw [hz]; exact m0 z
    have j1 : ∀ y : Wb y1.at, y.at.cell? ⟨x4.at.heap.size, 1, none⟩ = some (.bool t2) := fun y => by obtain ⟨z, hz⟩ := Wb.next (x := y1) y.bel; rw [hz]; exact m1 z
    have j2 : ∀ y : Wb y1.at, y.at.cell? ⟨x4.at.heap.size, 2, none⟩ = some (.int .u64 o2) := fun y => by obtain ⟨z, hz⟩ := Wb.next (x := y1) y.bel; rw [hz]; exact m2 z
    have j3 : ∀ y : Wb y1.at, y.at.cell? ⟨x4.at.heap.size, 3, none⟩ = some (.bool u2) := fun y => by obtain ⟨z, hz⟩ := Wb.next (x := y1) y.bel; rw [hz]; exact m3 z
    have j4 : ∀ y : Wb y1.at, y.at.cell? ⟨x4.at.heap.size, 4, none⟩ = some (.bool r2) := fun y => by obtain ⟨z, hz⟩ := Wb.next (x := y1) y.bel; rw [hz]; exact m4 z
    have j5 : ∀ y : Wb y1.at, y.at.cell? ⟨x4.at.heap.size, 5, none⟩ = some (.bool s2) := fun y => by obtain ⟨z, hz⟩ := Wb.next (x := y1) y.bel; rw [hz]; exact m5 z
    have j6 : ∀ y : Wb y1.at, y.at.cell? ⟨x4.at.heap.size, 6, none⟩ = some (.bool q2) := fun y => by obtain ⟨z, hz⟩ := Wb.next (x := y1) y.bel; rw [hz]; exact m6 z
    repeat (go_big_quiet_step ((go_at_call 13; exact Calls.wb (RX.out _))))
    refine wpQuiet_nil ?_
    rintro _ ⟨y2, rfl⟩
    go_wp2
    go_ret
    exact ⟨ret_bool' (by simp), (MB.out y1).trans (y2.bel.mono (by have := y1.size; have := x4.size; have := x3.size; have := x2.size; simp at *; omega))⟩
  | true =>
    have EN := Lib.hid (fun w => encode_any d l w h0 h1 hr)
    have ho := (GrD.right_out d l h0 hr).2
    have ww0 := GrD.word_nonneg d l h0
    have ww1 : GrD.word d l < 18446744073709551616 := by
      have p1 := GrD.b1_bd (d.table || decide (l = 2))
      have p2 := GrD.b1_bd d.user
      have p3 := GrD.b1_bd d.ro
      have p4 := GrD.b1_bd d.used
      have p5 := GrD.b1_bd d.own
      unfold GrD.word
      split <;> omega
    have RD := Lib.hid (fun w => decode_any (GrD.word d l) l w ww0 ww1)
    rw [GrD.decode_word d l h0 hr] at RD
    obtain ⟨W1, hW1⟩ : ∃ W1, W1 = GrD.word d l := ⟨_, rfl⟩
    rw [← hW1] at EN RD
    clear hr h0 h1 a0 a1 ho ww0 ww1 hW1
    obtain ⟨v, t, o, u, r, s, q⟩ := d
    obtain ⟨k0, k1, k2, k3, k4, k5, k6, kb⟩ := box7 w v t o u r s q _ rfl
    have KB := Lib.hid kb
    clear kb
    unfold dv at DX EX RX EN RD ⊢
    go_enter Try.func5, Try.ntmps5
    go_wp2_with fail
    refine (dawake_any _).mono ?_
    rintro e w1 ⟨rfl, d1⟩
    obtain ⟨x1, rfl⟩ := Wb.start d1
    clear d1
    go_wp2_with fail
    refine (EN.out _).mono ?_
    rintro e w1 ⟨rfl, d1⟩
    obtain ⟨x2, rfl⟩ := Wb.next d1
    clear d1
    go_wp2_with fail
    refine wp_region_wb (by kernel_rfl) (by kernel_rfl) ?_
    have n0 : ∀ y : Wb x2.at, y.at.cell? ⟨w.heap.size, 0, none⟩ = some (.bool v) := fun y => by obtain ⟨z, hz⟩ := Wb.next (x := x2) y.bel; rw [hz]; exact k0 z
    have n1 : ∀ y : Wb x2.at, y.at.cell? ⟨w.heap.size, 1, none⟩ = some (.bool t) := fun y => by obtain ⟨z, hz⟩ := Wb.next (x := x2) y.bel; rw [hz]; exact k1 z
    have n2 : ∀ y : Wb x2.at, y.at.cell? ⟨w.heap.size, 2, none⟩ = some (.int .u64 o) := fun y => by obtain ⟨z, hz⟩ := Wb.next (x := x2) y.bel; rw [hz]; exact k2 z
    have n3 : ∀ y : Wb x2.at, y.at.cell? ⟨w.heap.size, 3, none⟩ = some (.bool u) := fun y => by obtain ⟨z, hz⟩ := Wb.next (x := x2) y.bel; rw [hz]; exact k3 z
    have n4 : ∀ y : Wb x2.at, y.at.cell? ⟨w.heap.size, 4, none⟩ = some (.bool r) := fun y => by obtain ⟨z, hz⟩ := Wb.next (x := x2) y.bel; rw [hz]; exact k4 z
    have n5 : ∀ y : Wb x2.at, y.at.cell? ⟨w.heap.size, 5, none⟩ = some (.bool s) := fun y => by obtain ⟨z, hz⟩ := Wb.next (x := x2) y.bel; rw [hz]; exact k5 z
    have n6 : ∀ y : Wb x2.at, y.at.cell? ⟨w.heap.size, 6, none⟩ = some (.bool q) := fun y => by obtain ⟨z, hz⟩ := Wb.next (x := x2) y.bel; rw [hz]; exact k6 z
    repeat (go_big_quiet_step ((go_at_call 13; exact Calls.wb (RD.out _))))
    refine wpQuiet_nil ?_
    rintro _ ⟨x3, rfl⟩
    go_wp2_with fail
    refine (DX.out _).mono ?_
    rintro e w1 ⟨rfl, d1⟩
    obtain ⟨x4, rfl⟩ := Wb.start d1
    clear d1
    obtain ⟨m0, m1, m2, m3, m4, m5, m6, mb⟩ := box7 x4.at v2 t2 o2 u2 r2 s2 q2 _ rfl
    have BB : ∀ y : Wb (x4.at.alloc (.cells #[.bool v2, .bool t2, .int .u64 o2, .bool u2, .bool r2, .bool s2, .bool q2] 25)), Below w.heap.size w y.at := fun y =>
      (KB.out x2).trans ((x3.bel.trans ((x4.bel).mono x3.size)).trans ((mb y).mono (by have := x3.size; have := x4.size; omega)) |>.mono (by have := x2.size; simp at this; omega))
    have MB := Lib.hid BB
    clear mb BB
    go_wp2_with fail
    refine (EX.out _).mono ?_
    rintro e w1 ⟨rfl, d1⟩
    obtain ⟨y1, rfl⟩ := Wb.start d1
    clear d1
    go_wp2_with fail
    refine wp_region_wb (by kernel_rfl) (by kernel_rfl) ?_
    have j0 : ∀ y : Wb y1.at, y.at.cell? ⟨x4.at.heap.size, 0, none⟩ = some (.bool v2) := fun y => by obtain ⟨z, hz⟩ := Wb.next (x := y1) y.bel; rw [hz]; exact m0 z
    have j1 : ∀ y : Wb y1.at, y.at.cell? ⟨x4.at.heap.size, 1, none⟩ = some (.bool t2) := fun y => by obtain ⟨z, hz⟩ := Wb.next (x := y1) y.bel; rw [hz]; exact m1 z
    have j2 : ∀ y : Wb y1.at, y.at.cell? ⟨x4.at.heap.size, 2, none⟩ = some (.int .u64 o2) := fun y => by obtain ⟨z, hz⟩ := Wb.next (x := y1) y.bel; rw [hz]; exact m2 z
    have j3 : ∀ y : Wb y1.at, y.at.cell? ⟨x4.at.heap.size, 3, none⟩ = some (.bool u2) := fun y => by obtain ⟨z, hz⟩ := Wb.next (x := y1) y.bel; rw [hz]; exact m3 z
    have j4 : ∀ y : Wb y1.at, y.at.cell? ⟨x4.at.heap.size, 4, none⟩ = some (.bool r2) := fun y => by obtain ⟨z, hz⟩ := Wb.next (x := y1) y.bel; rw [hz]; exact m4 z
    have j5 : ∀ y : Wb y1.at, y.at.cell? ⟨x4.at.heap.size, 5, none⟩ = some (.bool s2) := fun y => by obtain ⟨z, hz⟩ := Wb.next (x := y1) y.bel; rw [hz]; exact m5 z
    have j6 : ∀ y : Wb y1.at, y.at.cell? ⟨x4.at.heap.size, 6, none⟩ = some (.bool q2) := fun y => by obtain ⟨z, hz⟩ := Wb.next (x := y1) y.bel; rw [hz]; exact m6 z
    repeat (go_big_quiet_step ((go_at_call 13; exact Calls.wb (RX.out _))))
    refine wpQuiet_nil ?_
    rintro _ ⟨y2, rfl⟩
    go_wp2
    go_ret
    exact ⟨ret_bool' (by simp), (MB.out y1).trans (y2.bel.mono (by have := y1.size; have := x4.size; have := x3.size; have := x2.size; simp at *; omega))⟩
end Go.Proofs.Ytbbjaimloiedaaa
