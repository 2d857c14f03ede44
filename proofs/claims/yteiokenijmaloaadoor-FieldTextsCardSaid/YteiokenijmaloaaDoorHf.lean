/-
  Layer 2: FieldTexts: the law's walk; what its listed tables give; the door's own heap meets them.
-/
import Derived.Test.YteiokenijmaloaaDoorHe
import Derived.Test.YteiokenijmaloaaDoorFl
import Derived.Test.YteiokenijmaloaaDoorTie
import Derived.Test.YteiokenijmaloaaDoorKit
import Derived.LaidMore
import Derived.LaidLaws
import Derived.LaidHandle
import Derived.MakeChecks
import Derived.OpenShut
import Derived.Stop.Joined
set_option linter.unusedSimpArgs false
set_option linter.unusedVariables false
namespace Go.Proofs.YteiokenijmaloaaDoor
open Go.RowKit GrP

set_option maxRecDepth 100000 in
set_option maxHeartbeats 6400000 in
theorem texts_walk (x n : Int) (w : World) (h0 : 0 ≤ x) (h1 : x < 18446744073709551616) (h2 : -9223372036854775808 ≤ n) (h3 : n ≤ 9223372036854775807) (ht : TB w) :
    Calls Tryd.prog 3 #[.int .u64 x, .int .i64 n] w fun e w' => e = .returned (.bool true) ∧ Below w.heap.size w w' := by
  obtain ⟨u, rfl⟩ := Int.eq_ofNat_of_zero_le h0
  have hu : u < 18446744073709551616 := by omega
  have HE := Lib.hid (fun w => hex_any u w hu)
  have DE := Lib.hid (fun w => dec_any u w hu)
  have IN := Lib.hid (fun w => int_any n w h2 h3)
  have RH := Lib.hid (fun w => rhex_any u w hu)
  have RD := Lib.hid (fun w => rdec_any u w hu)
  have RI := Lib.hid (fun w => rint_any n w h2 h3)
  have P1 := Lib.hid (parse_hex u hu)
  have P2 := Lib.hid (parse_dec u hu)
  have S1 := Lib.hid (show (hexS u).size ≤ maxLen by
    unfold hexS maxLen; rw [strL_size]; have := digs_len64 (by omega : 2 ≤ 16) u hu; rw [strL_size] at this; simp; omega)
  have S2 := Lib.hid (show (decS u).size ≤ maxLen by
    unfold decS maxLen; have := digs_len64 (by omega : 2 ≤ 10) u hu; omega)
  have TH := Lib.hid ht
  clear h0 h1 h2 h3 hu ht
  obtain ⟨hs, hhs⟩ : ∃ s, s = hexS u := ⟨_, rfl⟩
  obtain ⟨ds, hds⟩ : ∃ s, s = decS u := ⟨_, rfl⟩
  obtain ⟨is, his⟩ : ∃ s, s = intS n := ⟨_, rfl⟩
  rw [← hhs] at HE RH P1 S1
  rw [← hds] at DE RD P2 S2
  rw [← his] at IN RI
  clear hhs hds his
  go_enter Tryd.func3, Tryd.ntmps3
  go_wp2_with fail
  refine (awake_any _).mono ?_
  rintro e w1 ⟨rfl, d1⟩
  have K1 := Lib.hid (Drew.then d1 (Below.refl _ _))
  have T1 := Lib.hid (TH.out.below K1.out)
  clear d1
  go_wp2_with fail
  refine (HE.out _ T1.out).mono ?_
  rintro e w2 ⟨rfl, b2⟩
  have K2 := Lib.hid (K1.out.trans (b2.mono K1.out.size))
  clear b2
  go_wp2_with fail
  refine (parse_any _ _ S1.out).mono ?_
  rintro e w3 ⟨rfl, d3⟩
  rw [P1.out]
  have b3 := Drew.then d3 (Below.refl _ _)
  have K3 := Lib.hid (K2.out.trans (b3.mono K2.out.size))
  have T3 := Lib.hid (TH.out.below K3.out)
  clear b3 d3
  go_wp2_with fail
  refine (DE.out _ T3.out).mono ?_
  rintro e w4 ⟨rfl, b4⟩
  have K4 := Lib.hid (K3.out.trans (b4.mono K3.out.size))
  clear b4
  go_wp2_with fail
  refine (parse_any _ _ S2.out).mono ?_
  rintro e w5 ⟨rfl, d5⟩
  rw [P2.out]
  have b5 := Drew.then d5 (Below.refl _ _)
  have K5 := Lib.hid (K4.out.trans (b5.mono K4.out.size))
  have T5 := Lib.hid (TH.out.below K5.out)
  clear b5 d5
  go_wp2_with fail
  refine (HE.out _ T5.out).mono ?_
  rintro e w6 ⟨rfl, b6⟩
  have K6 := Lib.hid (K5.out.trans (b6.mono K5.out.size))
  clear b6
  go_wp2_with fail
  refine (RH.out _).mono ?_
  rintro e w7 ⟨rfl, b7⟩
  have K7 := Lib.hid (K6.out.trans (b7.mono K6.out.size))
  have T7 := Lib.hid (TH.out.below K7.out)
  clear b7
  go_wp2_with fail
  refine (DE.out _ T7.out).mono ?_
  rintro e w8 ⟨rfl, b8⟩
  have K8 := Lib.hid (K7.out.trans (b8.mono K7.out.size))
  clear b8
  go_wp2_with fail
  refine (RD.out _).mono ?_
  rintro e w9 ⟨rfl, b9⟩
  have K9 := Lib.hid (K8.out.trans (b9.mono K8.out.size))
  have T9 := Lib.hid (TH.out.below K9.out)
  clear b9
  go_wp2_with fail
  refine (IN.out _ T9.out).mono ?_
  rintro e w10 ⟨rfl, b10⟩
  have K10 := Lib.hid (K9.out.trans (b10.mono K9.out.size))
  clear b10
  go_wp2_with fail
  refine (RI.out _).mono ?_
  rintro e w11 ⟨rfl, b11⟩
  have K11 := Lib.hid (K10.out.trans (b11.mono K10.out.size))
  clear b11
  go_wp2
  go_ret
  exact ⟨rfl, K11.out⟩

theorem tb_of_laid {W : World} (h : laidMetH Tryd.prog [("math/bits.deBruijn32tab", Rows.laid_math_bits_deBruijn32tab), ("math/bits.deBruijn64tab", Rows.laid_math_bits_deBruijn64tab), ("internal/strconv.uint64pow10", Rows.laid_internal_strconv_uint64pow10)] W) : TB W := by
  rw [MakeChecks.laidMetH_plain _ _ _ (by kernel_rfl)] at h
  obtain ⟨ps, ⟨g0, t0, cs0, f0, p0, q0, hg0, ht0, hv0, hd0, hr0, _⟩, _, _⟩ := h
  obtain ⟨g1, t1, cs1, f1, p1, q1, hg1, ht1, hv1, hd1, hr1, _⟩ := hr0
  obtain ⟨g2, t2, cs2, f2, p2, q2, hg2, ht2, hv2, hd2, _, _⟩ := hr1
  constructor
  · have hg : Tryd.prog.globalNamed "internal/strconv.uint64pow10" = some 0 := by kernel_rfl
    have hty : (Tryd.prog.globals[0]?).map (·.type) = some 50 := by kernel_rfl
    obtain rfl := Option.some.inj (hg.symm.trans hg2)
    obtain rfl := Option.some.inj (hty.symm.trans ht2)
    unfold Lib.TabIs
    rw [hv2, ← Lib.cells_of_tab Tryd.underlying50 Tryd.underlying22 (by kernel_rfl) (by kernel_rfl) (zs := Lib.pow10Tab) (k := .u64) hd2]
  · have hg : Tryd.prog.globalNamed "math/bits.deBruijn64tab" = some 2 := by kernel_rfl
    have hty : (Tryd.prog.globals[2]?).map (·.type) = some 57 := by kernel_rfl
    obtain rfl := Option.some.inj (hg.symm.trans hg1)
    obtain rfl := Option.some.inj (hty.symm.trans ht1)
    have e := Lib.cells_of_tab Tryd.underlying57 Tryd.underlying5 (by kernel_rfl) (by kernel_rfl) (zs := Lib.deBruijn64tab.map (fun (j : Nat) => (j : Int))) (k := .u8) hd1
    intro j hj
    rw [World.var?_cell hg1 hv1 j, ← Array.getElem?_toList, e]
    simp only [List.getElem?_map, List.getElem?_eq_getElem hj, Option.map_some, List.getD_eq_getElem?_getD, Option.getD_some]

theorem door_met (os : Os) (args : Array Value) : laidMetH Tryd.prog [("math/bits.deBruijn32tab", Rows.laid_math_bits_deBruijn32tab), ("math/bits.deBruijn64tab", Rows.laid_math_bits_deBruijn64tab), ("internal/strconv.uint64pow10", Rows.laid_internal_strconv_uint64pow10)] ((World.doorLaid Tryd.prog 58 os).forCall (fun _ _ => 0) ⟨#[], args, []⟩).memory :=
  laidMetH_of_parts3 (fuel := 8) (laidMet_of_run' 8 (by kernel_rfl) (by kernel_rfl)) (by kernel_rfl) (by kernel_rfl)
end Go.Proofs.YteiokenijmaloaaDoor
