/-
  Layer 19, the walks: the page's example; the law of rooms.
-/
import Derived.Test.YtjmkkidlaebpmabQe
set_option linter.unusedSimpArgs false
set_option linter.unusedVariables false
namespace Go.Proofs.Ytjmkkidlaebpmab
open Go.Conc Go.RowKit

/-- what New leaves -/
theorem made (w : World) (cap : Nat) (QT : TypeId) :
    Row ((w.alloc (.chan cap #[] false 0 0 false)).alloc (.cells #[.chan (some w.heap.size)] QT)) (w.heap.size + 1) [.chan (some w.heap.size)] QT ∧ Ch ((w.alloc (.chan cap #[] false 0 0 false)).alloc (.cells #[.chan (some w.heap.size)] QT)) w.heap.size cap [] ∧ Below w.heap.size w ((w.alloc (.chan cap #[] false 0 0 false)).alloc (.cells #[.chan (some w.heap.size)] QT)) :=
  ⟨Row.new' _ [.chan (some w.heap.size)] _ _ (by simp), (Ch.new w _ _ rfl).old _, KB.alloc (KB.alloc (Below.refl _ _) _) _⟩

set_option maxRecDepth 100000 in
set_option maxHeartbeats 1600000 in
theorem qawake_any (w : World) : Calls Try.prog 6 #[] w fun e w' => e = .returned (.bool true) ∧ Below w.heap.size w w' := by
  have N1 := Lib.hid (inew_any 1 w (by omega) (by omega))
  obtain ⟨h1, k1, b1⟩ := made w 1 57
  have H := Lib.hid h1
  have K := Lib.hid k1
  have B := Lib.hid b1
  clear h1 k1 b1
  go_enter Try.func6, Try.ntmps6
  go_wp2_with fail
  refine N1.out.mono ?_
  rintro e w1 ⟨rfl, rfl⟩
  go_wp2_with fail
  obtain ⟨W, hW⟩ : ∃ W, W = ((w.alloc (.chan 1 #[] false 0 0 false)).alloc (.cells #[.chan (some w.heap.size)] 57)) := ⟨_, rfl⟩
  rw [← hW] at H K B ⊢
  clear hW N1
  refine (iput_room _ _ 1 [] 1 W H.out K.out (by simp)).mono ?_
  rintro e w2 ⟨rfl, o2, k2⟩
  have O2 := Lib.hid o2
  have K2 := Lib.hid k2
  have H2 := Lib.hid (H.out.only o2 (by omega))
  clear o2 k2
  go_wp2_with fail
  refine (iput_full _ _ 1 [.int .i64 1] 2 w2 H2.out K2.out (by simp)).mono ?_
  rintro e w3 ⟨rfl, rfl⟩
  go_wp2_with fail
  refine (itake_some _ _ 1 [] 1 w2 H2.out K2.out).mono ?_
  rintro e w3 ⟨rfl, o3, k3⟩
  have O3 := Lib.hid o3
  have K3 := Lib.hid k3
  have H3 := Lib.hid (H2.out.only o3 (by omega))
  clear o3 k3
  go_wp2_with fail
  refine (iroom_any _ _ 1 [] w3 H3.out K3.out).mono ?_
  rintro e w4 ⟨rfl, rfl⟩
  go_wp2
  go_ret
  exact ⟨by simp, B.out.trans ((O2.out.trans O3.out).below (Nat.le_refl _) B.out.size)⟩

set_option maxRecDepth 100000 in
set_option maxHeartbeats 1600000 in
theorem QueueRooms_no (room more : Int) (w : World) (hr : room < 1 ∨ 200000 < room) :
    Calls Try.prog 4 #[.int .i64 room, .int .i64 more] w fun e w' => e = .returned (.bool true) ∧ Below w.heap.size w w' := by
  have AW := Lib.hid (fun w => qawake_any w)
  have NN := Lib.hid (fun w => snew_no room w hr)
  by_cases c : room < 1
  · have d0 : decide (room < 1) = true := by simpa using c
    clear hr c
    go_enter Try.func4, Try.ntmps4
    go_wp2_with fail
    refine (AW.out _).mono ?_
    rintro e w1 ⟨rfl, b⟩
    have B := Lib.hid b
    clear b
    go_wp2_with fail
    refine (NN.out _).mono ?_
    rintro e w2 ⟨rfl, rfl⟩
    go_wp2
    go_ret
    exact ⟨by simp, B.out⟩
  · have d0 : decide (room < 1) = false := by simpa using c
    have d1 : decide (200000 < room) = true := by simp; omega
    clear hr c
    go_enter Try.func4, Try.ntmps4
    go_wp2_with fail
    refine (AW.out _).mono ?_
    rintro e w1 ⟨rfl, b⟩
    have B := Lib.hid b
    clear b
    go_wp2_with fail
    refine (NN.out _).mono ?_
    rintro e w2 ⟨rfl, rfl⟩
    go_wp2
    go_ret
    exact ⟨by simp, B.out⟩

set_option maxRecDepth 100000 in
set_option maxHeartbeats 1600000 in
theorem QueueRooms_yes (n : Nat) (more : Int) (w : World) (h0 : 0 < n) (h1 : n ≤ 200000) (hm : -9223372036854775808 ≤ more ∧ more ≤ 9223372036854775807) :
    Calls Try.prog 4 #[.int .i64 (n : Int), .int .i64 more] w fun e w' => e = .returned (.bool true) ∧ Below w.heap.size w w' := by
  have AW := Lib.hid (fun w => qawake_any w)
  have NN := Lib.hid (fun w => snew_any n w h0 h1)
  have d0 : decide ((n : Int) < 1) = false := by simp; omega
  have d1 : decide (200000 < (n : Int)) = false := by simp; omega
  have N0 := Lib.hid h0
  have N1 := Lib.hid h1
  have W1 : wrap64 (200000 - (n : Int)) = 200000 - (n : Int) := wrap64_small _ (by omega) (by omega)
  clear h0 h1
  go_enter Try.func4, Try.ntmps4
  go_wp2_with fail
  refine (AW.out _).mono ?_
  rintro e w1 ⟨rfl, b⟩
  have B := Lib.hid b
  clear b
  go_wp2_with fail
  refine (NN.out _).mono ?_
  rintro e w2 ⟨rfl, rfl⟩
  obtain ⟨m1, m2, m3⟩ := made w1 n 61
  have H := Lib.hid m1
  have K := Lib.hid m2
  have B1 := Lib.hid m3
  clear m1 m2 m3 AW NN
  go_wp2_with fail
  obtain ⟨W, hW⟩ : ∃ W, W = ((w1.alloc (.chan n #[] false 0 0 false)).alloc (.cells #[.chan (some w1.heap.size)] 61)) := ⟨_, rfl⟩
  rw [← hW] at H K B1 ⊢
  clear hW
  refine (sroom_any _ _ n [] W H.out K.out).mono ?_
  rintro e w2 ⟨rfl, rfl⟩
  go_wp2_with fail
  refine (slen_any _ _ n [] W H.out K.out).mono ?_
  rintro e w2 ⟨rfl, rfl⟩
  go_wp2_with fail
  refine (sput_room _ _ n [] ⟨#[120]⟩ W H.out K.out (by have := N0.out; simpa using this)).mono ?_
  rintro e w3 ⟨rfl, o3, k3⟩
  have O3 := Lib.hid o3
  have K3 := Lib.hid k3
  have H3 := Lib.hid (H.out.only o3 (by omega))
  have BB := Lib.hid (show Below w.heap.size w w3 from (B.out.trans (B1.out.mono B.out.size)).trans (o3.below B.out.size (Nat.le_trans B.out.size B1.out.size)))
  have L1 := Lib.hid (show w1.heap.size + 1 < w3.heap.size from H3.out.lt)
  have S0 := B.out.size
  clear o3 k3 O3 K H B1 B
  by_cases cm : more < 0 ∨ 200000 - (n : Int) < more
  · have GN := Lib.hid (sgrown_no (w1.heap.size + 1) w1.heap.size n _ more w3 H3.out K3.out N1.out (by omega) N0.out)
    by_cases c : more < 0
    · have e0 : decide (more < 0) = true := by simpa using c
      clear c cm hm
      go_wp2_with fail
      refine GN.out.mono ?_
      rintro e w4 ⟨rfl, rfl⟩
      go_wp2_with fail
      refine (slen_any _ _ n _ w3 H3.out K3.out).mono ?_
      rintro e w4 ⟨rfl, rfl⟩
      go_wp2
      go_ret
      exact ⟨by simp, BB.out⟩
    · have e0 : decide (more < 0) = false := by simpa using c
      have e1 : decide (200000 - (n : Int) < more) = true := by simp; omega
      clear c cm hm
      go_wp2_with fail
      refine GN.out.mono ?_
      rintro e w4 ⟨rfl, rfl⟩
      go_wp2_with fail
      refine (slen_any _ _ n _ w3 H3.out K3.out).mono ?_
      rintro e w4 ⟨rfl, rfl⟩
      go_wp2
      go_ret
      exact ⟨by simp, BB.out⟩
  · obtain ⟨m, rfl⟩ : ∃ m : Nat, more = m := ⟨more.toNat, by omega⟩
    have hnm : n + m ≤ 200000 := by omega
    have e0 : decide ((m : Int) < 0) = false := by simp
    have e1 : decide (200000 - (n : Int) < (m : Int)) = false := by simp; omega
    have W2 : wrap64 ((n : Int) + (m : Int)) = ((n + m : Nat) : Int) := by rw [wrap64_small _ (by omega) (by omega)]; omega
    have GG := Lib.hid (sgrown_any (w1.heap.size + 1) w1.heap.size n m [⟨#[120]⟩] w3 H3.out K3.out (by have := N0.out; simp; omega) N0.out hnm)
    clear cm hm hnm
    go_wp2_with fail
    refine GG.out.mono ?_
    rintro e w4 ⟨rfl, o4, k4, h5, k5⟩
    have O4 := Lib.hid o4
    have K4 := Lib.hid k4
    have H4 := Lib.hid (H3.out.only o4 (by omega))
    have H5 := Lib.hid h5
    have K5 := Lib.hid k5
    clear o4 k4 h5 k5 GG
    go_wp2_with fail
    refine (sroom_any _ _ (n + m) _ w4 H5.out K5.out).mono ?_
    rintro e w5 ⟨rfl, rfl⟩
    go_wp2_with fail
    refine (slen_any _ _ n [] w4 H4.out K4.out).mono ?_
    rintro e w5 ⟨rfl, rfl⟩
    go_wp2_with fail
    refine (stake_some _ _ (n + m) [] ⟨#[120]⟩ w4 H5.out K5.out).mono ?_
    rintro e w5 ⟨rfl, o5, k5⟩
    have O5 := Lib.hid o5
    clear o5 k5
    go_wp2
    go_ret
    exact ⟨by first | rfl | simp, BB.out.trans (((O4.out.below (by have := BB.out.size; omega) BB.out.size)).trans (O5.out.below (by have := BB.out.size; omega) (by have := BB.out.size; have := O4.out.size; omega)))⟩

theorem QueueRooms_walk (room more : Int) (w : World) (hm : -9223372036854775808 ≤ more ∧ more ≤ 9223372036854775807) :
    Calls Try.prog 4 #[.int .i64 room, .int .i64 more] w fun e w' => e = .returned (.bool true) ∧ Below w.heap.size w w' := by
  by_cases hr : room < 1 ∨ 200000 < room
  · exact QueueRooms_no room more w hr
  · obtain ⟨n, rfl⟩ : ∃ n : Nat, room = n := ⟨room.toNat, by omega⟩
    exact QueueRooms_yes n more w (by omega) (by omega) hm
end Go.Proofs.Ytjmkkidlaebpmab
