/-
  Layer 4, the laws: AsmPrints.
-/
import Derived.Test.YtebpmngllljkaaaDoorYb
import Derived.Test.YtebpmngllljkaaaDoorYc
set_option linter.unusedSimpArgs false
set_option linter.unusedVariables false
namespace Go.Proofs.YtebpmngllljkaaaDoor
open Go.RowKit GrP GrA

theorem rprint_yes (x : GrI.I) (w : World) (hr : GrI.right x) : Calls Tryd.prog 11 #[iv x] w fun e w' => e = .returned (.string (strL (printR x))) ∧ Below w.heap.size w w' := by
  obtain ⟨op, d, n, m, i, kind⟩ := x
  have ho := GrI.ops hr
  have hh := hr
  obtain ⟨_, _, _, _, _, _, _, _, _, _, _, hi0, _, hn⟩ := hh
  simp only at ho hi0
  rcases ho with rfl | rfl | rfl | rfl | rfl | rfl | rfl | rfl | rfl | rfl | rfl | rfl | rfl | rfl | rfl | rfl | rfl | rfl | rfl | rfl | rfl | rfl | rfl
  · have hz : ¬ i < 0 := by
      simp [GrI.parts] at hi0
      try simp [GrI.nums] at hn
      omega
    exact rprint_1 d n m i kind w hr hz
  · have hz : ¬ i < 0 := by
      simp [GrI.parts] at hi0
      try simp [GrI.nums] at hn
      omega
    by_cases e : i = 0
    · exact rprint_2_0 d n m i kind w hr hz e
    · exact rprint_2_1 d n m i kind w hr hz e
  · have hz : ¬ i < 0 := by
      simp [GrI.parts] at hi0
      try simp [GrI.nums] at hn
      omega
    by_cases e : i = 0
    · exact rprint_3_0 d n m i kind w hr hz e
    · exact rprint_3_1 d n m i kind w hr hz e
  · have hz : ¬ i < 0 := by
      simp [GrI.parts] at hi0
      try simp [GrI.nums] at hn
      omega
    by_cases e : i = 0
    · exact rprint_4_0 d n m i kind w hr hz e
    · exact rprint_4_1 d n m i kind w hr hz e
  · have hz : ¬ i < 0 := by
      simp [GrI.parts] at hi0
      try simp [GrI.nums] at hn
      omega
    by_cases e : i = 0
    · exact rprint_5_0 d n m i kind w hr hz e
    · exact rprint_5_1 d n m i kind w hr hz e
  · have hz : ¬ i < 0 := by
      simp [GrI.parts] at hi0
      try simp [GrI.nums] at hn
      omega
    by_cases e : 0 < kind
    · exact rprint_6_1 d n m i kind w hr hz e
    · exact rprint_6_0 d n m i kind w hr hz e
  · have hz : ¬ i < 0 := by
      simp [GrI.parts] at hi0
      try simp [GrI.nums] at hn
      omega
    exact rprint_7 d n m i kind w hr hz
  · have hz : ¬ i < 0 := by
      simp [GrI.parts] at hi0
      try simp [GrI.nums] at hn
      omega
    exact rprint_8 d n m i kind w hr hz
  · have hz : ¬ i < 0 := by
      simp [GrI.parts] at hi0
      try simp [GrI.nums] at hn
      omega
    exact rprint_9 d n m i kind w hr hz
  · have hz : ¬ i < 0 := by
      simp [GrI.parts] at hi0
      try simp [GrI.nums] at hn
      omega
    exact rprint_10 d n m i kind w hr hz
  · have hz : ¬ i < 0 := by
      simp [GrI.parts] at hi0
      try simp [GrI.nums] at hn
      omega
    exact rprint_11 d n m i kind w hr hz
  · have hz : ¬ i < 0 := by
      simp [GrI.parts] at hi0
      try simp [GrI.nums] at hn
      omega
    exact rprint_12 d n m i kind w hr hz
  · have hz : ¬ i < 0 := by
      simp [GrI.parts] at hi0
      try simp [GrI.nums] at hn
      omega
    by_cases e : d = 31
    · subst e
      exact rprint_13_c n m i kind w hr hz
    · exact rprint_13_n d n m i kind w hr hz e
  · by_cases hs : i < 0
    · exact rprint_14_n d n m i kind w hr hs
    · exact rprint_14_p d n m i kind w hr hs
  · by_cases hs : i < 0
    · exact rprint_15_n d n m i kind w hr hs
    · exact rprint_15_p d n m i kind w hr hs
  · by_cases hs : i < 0
    · exact rprint_16_n d n m i kind w hr hs
    · exact rprint_16_p d n m i kind w hr hs
  · simp [GrI.nums] at hn
    obtain rfl | rfl : kind = 0 ∨ kind = 1 := by omega
    · by_cases hs : i < 0
      · exact rprint_17_0n d n m i w hr hs
      · exact rprint_17_0p d n m i w hr hs
    · by_cases hs : i < 0
      · exact rprint_17_1n d n m i w hr hs
      · exact rprint_17_1p d n m i w hr hs
  · have hz : ¬ i < 0 := by
      simp [GrI.parts] at hi0
      try simp [GrI.nums] at hn
      omega
    simp [GrI.nums] at hn
    obtain rfl | rfl | rfl | rfl | rfl | rfl : kind = 9 ∨ kind = 10 ∨ kind = 11 ∨ kind = 13 ∨ kind = 14 ∨ kind = 15 := by omega
    · exact rprint_18_9 d n m i w hr hz
    · exact rprint_18_10 d n m i w hr hz
    · exact rprint_18_11 d n m i w hr hz
    · exact rprint_18_13 d n m i w hr hz
    · exact rprint_18_14 d n m i w hr hz
    · exact rprint_18_15 d n m i w hr hz
  · have hz : ¬ i < 0 := by
      simp [GrI.parts] at hi0
      try simp [GrI.nums] at hn
      omega
    simp [GrI.nums] at hn
    obtain rfl | rfl | rfl | rfl | rfl | rfl : kind = 9 ∨ kind = 10 ∨ kind = 11 ∨ kind = 13 ∨ kind = 14 ∨ kind = 15 := by omega
    · exact rprint_19_9 d n m i w hr hz
    · exact rprint_19_10 d n m i w hr hz
    · exact rprint_19_11 d n m i w hr hz
    · exact rprint_19_13 d n m i w hr hz
    · exact rprint_19_14 d n m i w hr hz
    · exact rprint_19_15 d n m i w hr hz
  · have hz : ¬ i < 0 := by
      simp [GrI.parts] at hi0
      try simp [GrI.nums] at hn
      omega
    exact rprint_20 d n m i kind w hr hz
  · have hz : ¬ i < 0 := by
      simp [GrI.parts] at hi0
      try simp [GrI.nums] at hn
      omega
    simp [GrI.nums] at hn
    obtain rfl | rfl | rfl | rfl | rfl | rfl | rfl | rfl : kind = 0 ∨ kind = 1 ∨ kind = 2 ∨ kind = 3 ∨ kind = 4 ∨ kind = 5 ∨ kind = 6 ∨ kind = 7 := by omega
    · exact rprint_21_0 d n m i w hr hz
    · exact rprint_21_1 d n m i w hr hz
    · exact rprint_21_2 d n m i w hr hz
    · exact rprint_21_3 d n m i w hr hz
    · exact rprint_21_4 d n m i w hr hz
    · exact rprint_21_5 d n m i w hr hz
    · exact rprint_21_6 d n m i w hr hz
    · exact rprint_21_7 d n m i w hr hz
  · have hz : ¬ i < 0 := by
      simp [GrI.parts] at hi0
      try simp [GrI.nums] at hn
      omega
    exact rprint_22 d n m i kind w hr hz
  · have hz : ¬ i < 0 := by
      simp [GrI.parts] at hi0
      try simp [GrI.nums] at hn
      omega
    simp [GrI.nums] at hn
    obtain rfl | rfl | rfl : kind = 0 ∨ kind = 1 ∨ kind = 2 := by omega
    · exact rprint_23_0 d n m i w hr hz
    · exact rprint_23_1 d n m i w hr hz
    · exact rprint_23_2 d n m i w hr hz
set_option maxRecDepth 100000 in
set_option maxHeartbeats 6400000 in
theorem rprint_no (op d n m imm kind : Int) (w : World) (hr : ¬ GrI.right ⟨op, d, n, m, imm, kind⟩) : Calls Tryd.prog 11 #[.agg #[.int .i64 op, .int .i64 d, .int .i64 n, .int .i64 m, .int .i64 imm, .int .i64 kind]] w fun e w' => e = .returned (.string ⟨#[]⟩) ∧ Below w.heap.size w w' := by
  have RI := Lib.hid (fun w2 => pright_is ⟨op, d, n, m, imm, kind⟩ w2 false (by simpa [encB] using hr))
  unfold iv at RI
  simp only at RI
  clear hr
  go_enter Tryd.func11, Tryd.ntmps11
  go_upto_region 1 with fail
  refine to_cls ?_
  intro U0 hU0 y0
  have r_b : ∀ z : Wb U0, Row z.at (w.heap.size) [.int .i64 op, .int .i64 d, .int .i64 n, .int .i64 m, .int .i64 imm, .int .i64 kind] 23 := Row.next (Row.new _ [.int .i64 op, .int .i64 d, .int .i64 n, .int .i64 m, .int .i64 imm, .int .i64 kind] _) hU0
  have KK := Lib.hid (KB.next (KB.alloc (Below.refl _ _) _) hU0)
  clear hU0
  obtain ⟨c_b_0, c_b_1, c_b_2, c_b_3, c_b_4, c_b_5⟩ := six r_b
  go_wp2_with fail
  refine (RI.out _).mono ?_
  rintro e w1 ⟨rfl, g⟩
  obtain ⟨y1, rfl⟩ := Wb.next (x := y0) g
  clear g
  go_wp2
  go_ret
  exact ⟨rfl, KK.out y1⟩

set_option maxRecDepth 100000 in
set_option maxHeartbeats 6400000 in
theorem asmPrints_yes (op d n m imm kind : Int) (hb : -9223372036854775808 ≤ imm ∧ imm ≤ 9223372036854775807) (w : World) (ht : Tab w) (hr : GrI.right ⟨op, d, n, m, imm, kind⟩) : Calls Tryd.prog 3 #[.agg #[.int .i64 op, .int .i64 d, .int .i64 n, .int .i64 m, .int .i64 imm, .int .i64 kind]] w fun e w' => e = .returned (.bool true) ∧ Below w.heap.size w w' := by
  have TH := Lib.hid ht
  have AW := Lib.hid (fun w2 (t2 : Tab w2) => aawake_any w2 t2)
  have P1 := Lib.hid (fun w2 (t2 : Tab w2) => print_yes ⟨op, d, n, m, imm, kind⟩ w2 t2 hr)
  have P2 := Lib.hid (fun w2 => rprint_yes ⟨op, d, n, m, imm, kind⟩ w2 hr)
  unfold iv at P1 P2
  simp only at P1 P2
  obtain ⟨p, hp⟩ : ∃ p, p = printR ⟨op, d, n, m, imm, kind⟩ := ⟨_, rfl⟩
  rw [← hp] at P1 P2
  clear hp ht hr hb
  go_enter Tryd.func3, Tryd.ntmps3
  go_upto_region 1 with fail
  refine to_pt ?_
  intro U0 hU0
  have r_b : ∀ z : Wb U0, Row z.at (w.heap.size) [.int .i64 op, .int .i64 d, .int .i64 n, .int .i64 m, .int .i64 imm, .int .i64 kind] 23 := Row.next (Row.new w [.int .i64 op, .int .i64 d, .int .i64 n, .int .i64 m, .int .i64 imm, .int .i64 kind] _) hU0
  have KK := Lib.hid (KB.next (KB.alloc (Below.refl w.heap.size w) (.cells #[.int .i64 op, .int .i64 d, .int .i64 n, .int .i64 m, .int .i64 imm, .int .i64 kind] 23)) hU0)
  clear hU0
  obtain ⟨c_b_0, c_b_1, c_b_2, c_b_3, c_b_4, c_b_5⟩ := six r_b
  have TZ := Lib.hid fun z => TH.out.below (KK.out z)
  refine wp_region_wb (by kernel_rfl) (by kernel_rfl) ?_
  repeat (go_big_quiet_step (first | (go_at_call 9; exact Calls.wb (AW.out _ (TZ.out _))) | (go_at_call 10; exact Calls.wb (P1.out _ (TZ.out _))) | (go_at_call 11; exact Calls.wb (P2.out _))))
  refine wpQuiet_nil ?_
  rintro _ ⟨z9, rfl⟩
  go_wp2
  go_ret
  exact ⟨rfl, KK.out z9⟩

set_option maxRecDepth 100000 in
set_option maxHeartbeats 6400000 in
theorem asmPrints_no (op d n m imm kind : Int) (hb : -9223372036854775808 ≤ imm ∧ imm ≤ 9223372036854775807) (w : World) (ht : Tab w) (hr : ¬ GrI.right ⟨op, d, n, m, imm, kind⟩) : Calls Tryd.prog 3 #[.agg #[.int .i64 op, .int .i64 d, .int .i64 n, .int .i64 m, .int .i64 imm, .int .i64 kind]] w fun e w' => e = .returned (.bool true) ∧ Below w.heap.size w w' := by
  have TH := Lib.hid ht
  have AW := Lib.hid (fun w2 (t2 : Tab w2) => aawake_any w2 t2)
  have P1 := Lib.hid (fun w2 (t2 : Tab w2) => aprint_no op d n m imm kind w2 t2 hb (by simpa [encB] using hr))
  have P2 := Lib.hid (fun w2 => rprint_no op d n m imm kind w2 hr)
  clear ht hr hb
  go_enter Tryd.func3, Tryd.ntmps3
  go_upto_region 1 with fail
  refine to_pt ?_
  intro U0 hU0
  have r_b : ∀ z : Wb U0, Row z.at (w.heap.size) [.int .i64 op, .int .i64 d, .int .i64 n, .int .i64 m, .int .i64 imm, .int .i64 kind] 23 := Row.next (Row.new w [.int .i64 op, .int .i64 d, .int .i64 n, .int .i64 m, .int .i64 imm, .int .i64 kind] _) hU0
  have KK := Lib.hid (KB.next (KB.alloc (Below.refl w.heap.size w) (.cells #[.int .i64 op, .int .i64 d, .int .i64 n, .int .i64 m, .int .i64 imm, .int .i64 kind] 23)) hU0)
  clear hU0
  obtain ⟨c_b_0, c_b_1, c_b_2, c_b_3, c_b_4, c_b_5⟩ := six r_b
  have TZ := Lib.hid fun z => TH.out.below (KK.out z)
  refine wp_region_wb (by kernel_rfl) (by kernel_rfl) ?_
  repeat (go_big_quiet_step (first | (go_at_call 9; exact Calls.wb (AW.out _ (TZ.out _))) | (go_at_call 10; exact Calls.wb (P1.out _ (TZ.out _))) | (go_at_call 11; exact Calls.wb (P2.out _))))
  refine wpQuiet_nil ?_
  rintro _ ⟨z9, rfl⟩
  go_wp2
  go_ret
  exact ⟨rfl, KK.out z9⟩

theorem asmPrints_walk (op d n m imm kind : Int) (hb : -9223372036854775808 ≤ imm ∧ imm ≤ 9223372036854775807) (w : World) (ht : Tab w) : Calls Tryd.prog 3 #[.agg #[.int .i64 op, .int .i64 d, .int .i64 n, .int .i64 m, .int .i64 imm, .int .i64 kind]] w fun e w' => e = .returned (.bool true) ∧ Below w.heap.size w w' := by
  by_cases hr : GrI.right ⟨op, d, n, m, imm, kind⟩
  · exact asmPrints_yes op d n m imm kind hb w ht hr
  · exact asmPrints_no op d n m imm kind hb w ht hr
end Go.Proofs.YtebpmngllljkaaaDoor
