/-
  Layer 5, the walks: lists of numbers: no31.
-/
import Derived.Test.YtnehdgapcgbdeaaGf
set_option linter.unusedSimpArgs false
set_option linter.unusedVariables false
namespace GrG
def seenB (z : Int) (xs : List Int) (q : Nat) : Bool := (z == 31) || decide (z ∈ xs.take q)
theorem seenB_zero (z : Int) (xs : List Int) : seenB z xs 0 = (z == 31) := by simp [seenB]
theorem seenB_all (z : Int) (xs : List Int) (L : Nat) (h : L = xs.length) : seenB z xs L = decide (z = 31 ∨ z ∈ xs) := by
  rw [Bool.eq_iff_iff]
  simp [seenB, h]
theorem seenB_succ (z : Int) (xs : List Int) (q : Nat) (h : q < xs.length) : seenB z xs (q + 1) = (seenB z xs q || (xs.getD q 0 == z)) := by
  rw [Bool.eq_iff_iff]
  simp only [seenB, List.take_succ_eq_append_getElem h, List.mem_append, List.mem_singleton, Bool.or_eq_true, beq_iff_eq, decide_eq_true_eq, List.getD_eq_getElem?_getD, List.getElem?_eq_getElem h, Option.getD_some]
  constructor
  · rintro (h | h | h)
    · exact .inl (.inl h)
    · exact .inl (.inr h)
    · exact .inr h.symm
  · rintro ((h | h) | h)
    · exact .inl h
    · exact .inr (.inl h)
    · exact .inr (.inr h.symm)
end GrG
namespace Go.Proofs.Ytnehdgapcgbdeaa
open Go.RowKit
theorem Own.keep {w w' : World} {base : Nat} {v : Value} {xs : List Int} (h : Own w base v xs) (k : Below w.heap.size w w') : Own w' base v xs := by
  obtain ⟨h1, h2 | ⟨g, cap, cur, e, hb, hg, rest⟩⟩ := h
  · exact ⟨h1, .inl h2⟩
  · have hlt : g < w.heap.size := by
      by_cases c : g < w.heap.size
      · exact c
      · rw [Array.getElem?_eq_none (by omega)] at hg
        cases hg
    exact ⟨h1, .inr ⟨g, cap, cur, e, hb, (k.block g hlt).trans hg, rest⟩⟩

set_option maxHeartbeats 6400000 in
theorem no31_any (b cap : Nat) (zs : List Int) (w : World) (hl : zs.length ≤ 100) (hz : IAt w b zs) :
    Calls Try.prog 38 #[.slice (some ⟨b, 0, none⟩) zs.length cap] w (ToldPost (GrG.no31L zs) w) := by
  obtain ⟨i0, hi, hz0, hz1, hz2⟩ := info_parts info_int
  have HZ := Lib.hid hz
  have HI := Lib.hid (show zs.length ≤ 100 from hl)
  clear hz
  go_enter Try.func38, Try.ntmps38
  go_wp2_with fail
  go_loopw [3, 4] (fun v i wr => ∃ k : Nat, k ≤ zs.length ∧ i = .int .i64 k ∧ Own wr w.heap.size v (GrG.no31L (zs.take k)) ∧ Below w.heap.size w wr) (fun _ i _ => zs.length - (intOf i).toNat)
  case atStart => exact ⟨0, by omega, rfl, World.ownsRow_nil _ _ _ _, Below.refl _ _⟩
  case round =>
    obtain ⟨k, hk, rfl, hown, hb⟩ := hrel
    have HB := Lib.hid hb
    have HO := Lib.hid hown
    clear hb hown
    by_cases c : k < zs.length
    · have hc := HZ.out.keep HB.out k c
      have HS := Lib.hid (GrG.no31L_snoc zs k c)
      have hxl := GrG.no31L_len zs k
      obtain ⟨z, hzz⟩ : ∃ z, z = zs.getD k 0 := ⟨_, rfl⟩
      rw [← hzz] at hc HS
      have HZZ := Lib.hid hzz
      clear hzz
      obtain ⟨xs, hxs⟩ : ∃ xs, xs = GrG.no31L (zs.take k) := ⟨_, rfl⟩
      rw [← hxs] at HO HS hxl
      clear hxs
      rcases HO.out.opened with ⟨rfl, rfl⟩ | ⟨g, cap2, rfl, hg, ha⟩
      · have HLe := Lib.hid (show 0 = ([] : List Int).length from rfl)
        obtain ⟨xs, hx0⟩ : ∃ xs : List Int, xs = [] := ⟨_, rfl⟩
        rw [← hx0] at HO HS HLe hxl
        clear hx0
        go_wp2_with fail
        obtain ⟨wo, rfl⟩ : ∃ wo : World, wo = wr := ⟨_, rfl⟩
        go_loopw [5, 6] (fun s i wr => ∃ q : Nat, q ≤ 0 ∧ i = .int .i64 q ∧ s = .bool (GrG.seenB z xs q) ∧ Below wo.heap.size wo wr) (fun _ i _ => 0 - (intOf i).toNat)
        case atStart => exact ⟨0, by omega, rfl, by rw [GrG.seenB_zero], Below.refl _ _⟩
        case round =>
          obtain ⟨q, hq, rfl, rfl, hb2⟩ := hrel
          have HB2 := Lib.hid hb2
          clear hb2
          by_cases cq : q < 0
          · omega
          · obtain rfl : 0 = q := by omega
            have HSE := Lib.hid (show GrG.seenB z xs 0 = decide (z = 31 ∨ z ∈ xs) from GrG.seenB_all z xs 0 HLe.out)
            have HOW := Lib.hid (HO.out.keep HB2.out)
            have HBW := Lib.hid (show Below w.heap.size w wr from HB.out.trans (HB2.out.mono HB.out.size))
            have hc2 := HZ.out.keep HBW.out k c
            rw [← HZZ.out] at hc2
            cases hs : GrG.seenB z xs 0 with
            | true =>
              have HE := Lib.hid (show GrG.no31L (zs.take (k + 1)) = xs by
                rw [HSE.out] at hs
                rw [HS.out, GrG.stepN, if_pos (by simpa using hs)])
              go_wp2
              go_roundw
              case rel => exact ⟨k + 1, by omega, by go_num, by rw [HE.out]; exact HOW.out, HBW.out⟩
              case measure => simp [intOf]; omega
            | false =>
              have HE := Lib.hid (show GrG.no31L (zs.take (k + 1)) = xs ++ [z] by
                rw [HSE.out] at hs
                rw [HS.out, GrG.stepN, if_neg (by simpa using hs)])
              have k2 := Lib.hid (app_cells wr z)
              have k3 := Lib.hid (show ∀ u ∈ [Value.int .i64 z], u.oneCell' = true by simp [Value.oneCell'])
              have k4 := Lib.hid (show xs.length + 1 ≤ maxLen by unfold maxLen; omega)
              have k5 := Lib.hid (show (xs.length + 1) * 8 ≤ 140737488355328 by omega)
              have k6 := Lib.hid (show ∀ o : Obj, w.heap.size ≤ (wr.alloc o).heap.size from fun o => by have := HBW.out.size; simp; omega)
              go_wp2_with (at_builtin; refine wpList_append_own _ rfl (.tmp 38) (.tmp 43) 27 rfl w.heap.size 3 i0 (.int .i64 0) 1 8 Try.underlying27 hi hz0 hz1 hz2 rfl (by decide) _ _ _ rfl (HOW.out.alloc _) ⟨wr.heap.size, 0, none⟩ 1 1 [.int .i64 z] rfl rfl (k2.out _) k3.out k4.out k5.out (k6.out _) ?_)
              intro v1 w1 h1 hg1 _
              have HR := Lib.hid (told_rel HBW.out HOW.out h1 hg1)
              clear h1 hg1
              go_wp2
              go_roundw
              case rel => exact ⟨k + 1, by omega, by go_num, by rw [HE.out]; exact HR.out.1, HR.out.2⟩
              case measure => simp [intOf]; omega
      · have HA2 := Lib.hid ha
        clear ha
        obtain ⟨L, hL⟩ : ∃ L, L = xs.length := ⟨_, rfl⟩
        rw [← hL] at HO ⊢
        have HLe := Lib.hid hL
        have hLl : L ≤ k := by rw [hL]; exact hxl
        clear hL
        go_wp2_with fail
        obtain ⟨wo, rfl⟩ : ∃ wo : World, wo = wr := ⟨_, rfl⟩
        go_loopw [5, 6] (fun s i wr => ∃ q : Nat, q ≤ L ∧ i = .int .i64 q ∧ s = .bool (GrG.seenB z xs q) ∧ Below wo.heap.size wo wr) (fun _ i _ => L - (intOf i).toNat)
        case atStart => exact ⟨0, by omega, rfl, by rw [GrG.seenB_zero], Below.refl _ _⟩
        case round =>
          obtain ⟨q, hq, rfl, rfl, hb2⟩ := hrel
          have HB2 := Lib.hid hb2
          clear hb2
          by_cases cq : q < L
          · have ha := (HA2.out.keep HB2.out) q (by rw [← HLe.out]; exact cq)
            have kz : ∀ x : Wb wr, x.at.cell? ⟨b, k, none⟩ = some (.int .i64 z) := fun x => by
              have := HZ.out.keep (HB.out.trans ((HB2.out.trans (x.bel.mono HB2.out.size)).mono HB.out.size)) k c
              rw [← HZZ.out] at this
              exact this
            have ky : ∀ x : Wb wr, x.at.cell? ⟨g, q, none⟩ = some (.int .i64 (xs.getD q 0)) := fun x => (HA2.out.keep (HB2.out.trans (x.bel.mono HB2.out.size))) q (by rw [← HLe.out]; exact cq)
            have q0 : (0 : Int) ≤ (q : Int) := by omega
            have q1 : (q : Int) < (L : Int) := by omega
            have i0' : (0 : Int) ≤ (k : Int) := by omega
            have i1' : (k : Int) < (zs.length : Int) := by omega
            have HSN := Lib.hid (GrG.seenB_succ z xs q (by rw [← HLe.out]; exact cq))
            obtain ⟨y, hy⟩ : ∃ y, y = xs.getD q 0 := ⟨_, rfl⟩
            rw [← hy] at ky HSN
            clear hy ha
            cases hs : GrG.seenB z xs q with
            | true =>
              have HN := Lib.hid (show GrG.seenB z xs (q + 1) = true by rw [HSN.out, hs]; rfl)
              go_wp2_with fail
              refine wp_region_wb (by kernel_rfl) (by kernel_rfl) ?_
              repeat (go_big_quiet_step (fail))
              refine wpQuiet_nil ?_
              rintro _ ⟨x1, rfl⟩
              go_wp2
              go_roundw
              case rel => exact ⟨q + 1, by omega, by go_num, by rw [HN.out], HB2.out.trans (x1.bel.mono HB2.out.size)⟩
              case measure => simp [intOf]; omega
            | false =>
              have HN := Lib.hid (show GrG.seenB z xs (q + 1) = (y == z) by rw [HSN.out, hs]; rfl)
              go_wp2_with fail
              refine wp_region_wb (by kernel_rfl) (by kernel_rfl) ?_
              repeat (go_big_quiet_step (fail))
              refine wpQuiet_nil ?_
              rintro _ ⟨x1, rfl⟩
              go_wp2
              go_roundw
              case rel => exact ⟨q + 1, by omega, by go_num, by rw [HN.out], HB2.out.trans (x1.bel.mono HB2.out.size)⟩
              case measure => simp [intOf]; omega
          · obtain rfl : L = q := by omega
            have HSE := Lib.hid (show GrG.seenB z xs L = decide (z = 31 ∨ z ∈ xs) from GrG.seenB_all z xs L HLe.out)
            have HOW := Lib.hid (HO.out.keep HB2.out)
            have HBW := Lib.hid (show Below w.heap.size w wr from HB.out.trans (HB2.out.mono HB.out.size))
            have hc2 := HZ.out.keep HBW.out k c
            rw [← HZZ.out] at hc2
            cases hs : GrG.seenB z xs L with
            | true =>
              have HE := Lib.hid (show GrG.no31L (zs.take (k + 1)) = xs by
                rw [HSE.out] at hs
                rw [HS.out, GrG.stepN, if_pos (by simpa using hs)])
              go_wp2
              go_roundw
              case rel => exact ⟨k + 1, by omega, by go_num, by rw [HE.out]; exact HOW.out, HBW.out⟩
              case measure => simp [intOf]; omega
            | false =>
              have HE := Lib.hid (show GrG.no31L (zs.take (k + 1)) = xs ++ [z] by
                rw [HSE.out] at hs
                rw [HS.out, GrG.stepN, if_neg (by simpa using hs)])
              have k2 := Lib.hid (app_cells wr z)
              have k3 := Lib.hid (show ∀ u ∈ [Value.int .i64 z], u.oneCell' = true by simp [Value.oneCell'])
              have k4 := Lib.hid (show xs.length + 1 ≤ maxLen by unfold maxLen; omega)
              have k5 := Lib.hid (show (xs.length + 1) * 8 ≤ 140737488355328 by omega)
              have k6 := Lib.hid (show ∀ o : Obj, w.heap.size ≤ (wr.alloc o).heap.size from fun o => by have := HBW.out.size; simp; omega)
              go_wp2_with (at_builtin; refine wpList_append_own _ rfl (.tmp 38) (.tmp 43) 27 rfl w.heap.size 3 i0 (.int .i64 0) 1 8 Try.underlying27 hi hz0 hz1 hz2 rfl (by decide) _ _ _ rfl (HOW.out.alloc _) ⟨wr.heap.size, 0, none⟩ 1 1 [.int .i64 z] rfl rfl (k2.out _) k3.out k4.out k5.out (k6.out _) ?_)
              intro v1 w1 h1 hg1 _
              have HR := Lib.hid (told_rel HBW.out HOW.out h1 hg1)
              clear h1 hg1
              go_wp2
              go_roundw
              case rel => exact ⟨k + 1, by omega, by go_num, by rw [HE.out]; exact HR.out.1, HR.out.2⟩
              case measure => simp [intOf]; omega
    · have HE := Lib.hid (show GrG.no31L (zs.take k) = GrG.no31L zs by rw [List.take_of_length_le (by omega)])
      go_wp2
      go_ret
      exact ⟨_, rfl, by rw [← HE.out]; exact HO.out.iv, HB.out⟩
end Go.Proofs.Ytnehdgapcgbdeaa
