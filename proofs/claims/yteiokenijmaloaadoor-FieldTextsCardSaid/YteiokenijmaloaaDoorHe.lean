/-
  Layer 2, the walks: internal/strconv.FormatUint at bases 16 and 10, strconv's, Itoa; the program's Hex, Dec, Int.
-/
import Derived.Test.YteiokenijmaloaaDoorHd
set_option linter.unusedSimpArgs false
set_option linter.unusedVariables false
namespace Go.Proofs.YteiokenijmaloaaDoor
open Go.RowKit GrP Go.Shelf Go.Sort

theorem strL_dec (u : Nat) : (⟨(Lib.decDigits u).toArray⟩ : ByteArray) = strL (digs 10 u) := by rw [digs_dec]; rfl
theorem small_any (u : Nat) (h : u < 100) (w : World) : Calls Tryd.prog 25 #[.int .i64 (u : Int)] w fun e w' => e = .returned (.string (strL (digs 10 u))) ∧ w = w' :=
  (Any.internal_strconv_small { Tryd.laysA with } u h w).mono fun _ _ h => ⟨by rw [← strL_dec]; exact h.1, h.2.symm⟩

theorem nd_any (u : Nat) (h1 : 1 ≤ u) (h2 : u < 18446744073709551616) (w : World) (ht : TB w) : Calls Tryd.prog 26 #[.int .u64 (u : Int)] w fun e w' => e = .returned (.int .i64 ((Lib.nDigits u : Nat) : Int)) ∧ w = w' :=
  (Any.internal_strconv_numDigits { Tryd.laysA with } u h1 h2 w ht.pow).mono fun _ _ h => ⟨h.1, h.2.symm⟩

def W24 (w : World) : World := w.alloc (.cells Lib.zeros24 41)
def FbPost (u : Nat) (w : World) (e : Ending) (w' : World) : Prop := e = .returned (.tuple #[]) ∧ Below w.heap.size w w' ∧ (convert 44 9 (.slice (some ⟨w.heap.size, 0, none⟩) (Lib.nDigits u) 24)).run Tryd.prog w' = .ok (.string (strL (digs 10 u))) w'
theorem fb10_any (u : Nat) (h1 : 1 ≤ u) (h2 : u < 18446744073709551616) (w : World) :
    Calls Tryd.prog 27 #[.slice (some ⟨w.heap.size, 0, none⟩) (Lib.nDigits u) 24, .int .u64 (u : Int)] (w.alloc (.cells Lib.zeros24 41)) (FbPost u w) := by
  have hnd20 : Lib.nDigits u ≤ 20 := by have := Lib.numDigits_eq u h1 h2; split at this <;> omega
  have hH0 := Lib.holds_zero0 w 41 (Lib.nDigits u) (by omega)
  have hfmt := Any.internal_strconv_formatBase10 { Tryd.laysA with } w.heap.size 0 24 u (Array.replicate (Lib.nDigits u) 0) (w.alloc (.cells Lib.zeros24 41)) hH0 (by rw [Array.size_replicate]; exact Lib.lt_pow_nDigits u) h2 (by rw [Array.size_replicate]; omega)
  rw [Array.size_replicate] at hfmt
  refine Calls.mono hfmt ?_
  rintro e w' ⟨rfl, k, v', dk, rfl, hF⟩
  refine ⟨rfl, ?_, ?_⟩
  · obtain ⟨os, eo⟩ := Lib.fin_at w (.cells Lib.zeros24 41) dk k 0
    rw [eo]
    exact Lib.below_grow _ w (Nat.le_refl _) k os
  · rw [← strL_dec]
    have h := run_convert_bytes_back (P := Tryd.prog) ((putRow (fun (b : UInt8) => Value.int .u8 (b.toNat : Int)) (w.alloc (.cells Lib.zeros24 41)) w.heap.size 0 dk).drewN k) 44 9 5 ⟨w.heap.size, 0, none⟩ 24 (Lib.decDigits u) Tryd.underlying44 Tryd.underlying5 Tryd.underlying9 (fun j hj => by
      rw [Lib.row_is_numeral hF j hj, Lib.add_plain, World.cell?_drewN]
      exact cell?_putRow (fun (b : UInt8) => Value.int .u8 (b.toNat : Int)) _ w.heap.size 0 _ dk hH0 (by rw [hF.size, Array.size_replicate]) j (by rw [hF.size]; rw [Lib.decDigits_length] at hj; exact hj))
    rw [Lib.decDigits_length] at h
    exact h

set_option maxRecDepth 100000 in
set_option maxHeartbeats 3200000 in
theorem fmt16_any (u : Nat) (w : World) (hu : u < 18446744073709551616) (ht : TB w) :
    Calls Tryd.prog 23 #[.int .u64 (u : Int), .int .i64 16] w fun e w' => e = .returned (.string (strL (digs 16 u))) ∧ Below w.heap.size w w' := by
  have FB := Lib.hid (fbits_any u w hu ht)
  have u1 : (u : Int) < 18446744073709551616 := by omega
  clear hu ht
  go_enter Tryd.func23, Tryd.ntmps23
  go_wp2_with fail
  refine FB.out.mono ?_
  rintro e w2 ⟨rfl, hb⟩
  have K2 := Lib.hid hb
  clear hb
  go_wp2
  go_ret
  exact ⟨rfl, K2.out⟩

set_option maxRecDepth 100000 in
set_option maxHeartbeats 3200000 in
theorem fmt10_any (u : Nat) (w : World) (hu : u < 18446744073709551616) (ht : TB w) :
    Calls Tryd.prog 23 #[.int .u64 (u : Int), .int .i64 10] w fun e w' => e = .returned (.string (strL (digs 10 u))) ∧ Below w.heap.size w w' := by
  have u0 : (0 : Int) ≤ (u : Int) := by omega
  have u1 : (u : Int) < 18446744073709551616 := by omega
  by_cases c : u < 100
  · have SM := Lib.hid (small_any u c)
    have c2 : (u : Int) < 100 := by omega
    clear ht c hu
    go_enter Tryd.func23, Tryd.ntmps23
    go_wp2_with fail
    refine (SM.out _).mono ?_
    rintro e w2 ⟨rfl, rfl⟩
    go_wp2
    go_ret
    exact ⟨rfl, Below.refl _ _⟩
  · have c2 : ¬ (u : Int) < 100 := by omega
    have c3 : (100 : Int) ≤ (u : Int) := by omega
    have hnd20 : Lib.nDigits u ≤ 20 := by have := Lib.numDigits_eq u (by omega) hu; split at this <;> omega
    have ND := Lib.hid (nd_any u (by omega) hu (w.alloc (.cells Lib.zeros24 41)) (ht.below (KB.alloc (Below.refl _ _) _)))
    have FB := Lib.hid (fb10_any u (by omega) hu w)
    obtain ⟨n, hn⟩ : ∃ n, n = Lib.nDigits u := ⟨_, rfl⟩
    unfold FbPost at FB
    rw [← hn] at ND FB hnd20
    have n0 : (0 : Int) ≤ (n : Int) := by omega
    have n1 : (n : Int) ≤ 20 := by omega
    have hsl : ∀ W, (Instr.sliceAt 41 (.pointer (some ⟨w.heap.size, 0, none⟩)) none (some (.int .i64 (n : Int))) none).run Tryd.prog W = .ok (.slice (some ⟨w.heap.size, 0, none⟩) n 24) W := fun W => by
      have hal : Tryd.prog.arrayLen 41 = 24 := by kernel_rfl
      rw [run_sliceAt_array_h W 41 ⟨w.heap.size, 0, none⟩ (by kernel_rfl) .i64 (n : Int) (by omega) (by rw [hal]; omega), hal]
      have e : (Go.sizeOf (Tryd.prog.elem 41)).run Tryd.prog W = .ok 1 W := by kernel_rfl
      rw [e]
      simp only [Result.andThen, slicedAt, Int.toNat_natCast, Lib.add_plain, Nat.mul_one, Nat.zero_add, Nat.sub_zero]
      split <;> rfl
    clear hn hu ht c
    go_enter Tryd.func23, Tryd.ntmps23
    go_wp2_with fail
    refine ND.out.mono ?_
    rintro e w2 ⟨rfl, rfl⟩
    go_wp2_with fail
    refine FB.out.mono ?_
    rintro e w2 ⟨rfl, hb, hcv⟩
    have K2 := Lib.hid hb
    clear hb
    go_wp2
    go_ret
    exact ⟨rfl, K2.out⟩

set_option maxRecDepth 100000 in
set_option maxHeartbeats 3200000 in
theorem hex_any (u : Nat) (w : World) (hu : u < 18446744073709551616) (ht : TB w) :
    Calls Tryd.prog 6 #[.int .u64 (u : Int)] w fun e w' => e = .returned (.string (hexS u)) ∧ Below w.heap.size w w' := by
  have FU := Lib.hid (fmt16_any u w hu ht)
  have SA := Lib.hid (show strL [48, 120] ++ strL (digs 16 u) = hexS u from strL_app _ _)
  have NS : ¬ 9223372036854775807 < 2 + (strL (digs 16 u)).size := by have := digs_len64 (by omega : 2 ≤ 16) u hu; omega
  have u1 : (u : Int) < 18446744073709551616 := by omega
  have FP : Calls Tryd.prog 17 #[.int .u64 (u : Int), .int .i64 16] w fun e w' => e = .returned (.string (strL (digs 16 u))) ∧ Below w.heap.size w w' := by
    clear hu ht
    go_enter Tryd.func17, Tryd.ntmps17
    go_wp2_with fail
    refine FU.out.mono ?_
    rintro e w2 ⟨rfl, hb⟩
    have K2 := Lib.hid hb
    clear hb
    go_wp2
    go_ret
    exact ⟨rfl, K2.out⟩
  have FP := Lib.hid FP
  clear hu ht FU
  go_enter Tryd.func6, Tryd.ntmps6
  go_wp2_with fail
  refine FP.out.mono ?_
  rintro e w2 ⟨rfl, hb⟩
  have K2 := Lib.hid hb
  clear hb
  go_wp2
  go_ret
  first
    | exact ⟨(by rw [← SA.out]; rfl), K2.out⟩
    | exact ⟨rfl, K2.out⟩

set_option maxRecDepth 100000 in
set_option maxHeartbeats 3200000 in
theorem dec_any (u : Nat) (w : World) (hu : u < 18446744073709551616) (ht : TB w) :
    Calls Tryd.prog 7 #[.int .u64 (u : Int)] w fun e w' => e = .returned (.string (decS u)) ∧ Below w.heap.size w w' := by
  have FU := Lib.hid (fmt10_any u w hu ht)
  have u1 : (u : Int) < 18446744073709551616 := by omega
  have FP : Calls Tryd.prog 17 #[.int .u64 (u : Int), .int .i64 10] w fun e w' => e = .returned (.string (strL (digs 10 u))) ∧ Below w.heap.size w w' := by
    clear hu ht
    go_enter Tryd.func17, Tryd.ntmps17
    go_wp2_with fail
    refine FU.out.mono ?_
    rintro e w2 ⟨rfl, hb⟩
    have K2 := Lib.hid hb
    clear hb
    go_wp2
    go_ret
    exact ⟨rfl, K2.out⟩
  have FP := Lib.hid FP
  clear hu ht FU
  go_enter Tryd.func7, Tryd.ntmps7
  go_wp2_with fail
  refine FP.out.mono ?_
  rintro e w2 ⟨rfl, hb⟩
  have K2 := Lib.hid hb
  clear hb
  go_wp2
  go_ret
  exact ⟨rfl, K2.out⟩

set_option maxRecDepth 100000 in
set_option maxHeartbeats 3200000 in
theorem int_any (n : Int) (w : World) (h0 : -9223372036854775808 ≤ n) (h1 : n ≤ 9223372036854775807) (ht : TB w) :
    Calls Tryd.prog 10 #[.int .i64 n] w fun e w' => e = .returned (.string (intS n)) ∧ Below w.heap.size w w' := by
  have FP : Calls Tryd.prog 19 #[.int .i64 n] w fun e w' => e = .returned (.string (intS n)) ∧ Below w.heap.size w w' :=
    (Any.strconv_Itoa Tryd.laysA n h0 h1 w ht.pow).mono fun _ _ h => ⟨h.1, by obtain ⟨k, os, e⟩ := h.2; rw [e]; exact Lib.below_grow _ w (Nat.le_refl _) k os⟩
  have FP := Lib.hid FP
  clear ht
  go_enter Tryd.func10, Tryd.ntmps10
  go_wp2_with fail
  refine FP.out.mono ?_
  rintro e w2 ⟨rfl, hb⟩
  have K2 := Lib.hid hb
  clear hb
  go_wp2
  go_ret
  exact ⟨rfl, K2.out⟩
end Go.Proofs.YteiokenijmaloaaDoor
