/-
  Layer 10, the walks: the code's sign.
-/
import Derived.Test.YtgpngjgilcbigaaDoorEd
import Derived.Shelf.Strings.Prefix
import Derived.Shelf.Small.Strs
set_option linter.unusedSimpArgs false
set_option linter.unusedVariables false
namespace Go.Proofs
def Tryd.laysHP_ren : Go.Shelf.Ren := ⟨fun | 99 => 57 | 206 => 72 | n => n, fun | 9 => 9 | 4 => 4 | 3 => 3 | n => n, fun | n => n⟩
theorem Tryd.laysHP : Go.Proofs.Lays.n99 Tryd.prog Tryd.laysHP_ren := {
  mixed := by kernel_rfl
  f99 := Tryd.func57.trans (congrArg some (by kernel_rfl))
  f206 := Tryd.func72.trans (congrArg some (by kernel_rfl))
  t3 := Tryd.underlying3
  a3 := Tryd.isAgg3
  z3 := Tryd.sizeOf3
  v3 := Tryd.zeroValue3
  t4 := Tryd.underlying4
  a4 := Tryd.isAgg4
  z4 := Tryd.sizeOf4
  v4 := Tryd.zeroValue4
  t9 := Tryd.underlying9
  a9 := Tryd.isAgg9
  z9 := Tryd.sizeOf9
  v9 := Tryd.zeroValue9 }
def Tryd.laysIB_ren : Go.Shelf.Ren := ⟨fun | 137 => 58 | 217 => 73 | 266 => 82 | n => n, fun | 9 => 9 | 5 => 5 | 3 => 3 | n => n, fun | n => n⟩
theorem Tryd.laysIB : Go.Proofs.Lays.n137 Tryd.prog Tryd.laysIB_ren := {
  mixed := by kernel_rfl
  f137 := Tryd.func58.trans (congrArg some (by kernel_rfl))
  f217 := Tryd.func73.trans (congrArg some (by kernel_rfl))
  f266 := Tryd.func82.trans (congrArg some (by kernel_rfl))
  t3 := Tryd.underlying3
  a3 := Tryd.isAgg3
  z3 := Tryd.sizeOf3
  v3 := Tryd.zeroValue3
  t5 := Tryd.underlying5
  a5 := Tryd.isAgg5
  z5 := Tryd.sizeOf5
  v5 := Tryd.zeroValue5
  t9 := Tryd.underlying9
  a9 := Tryd.isAgg9
  z9 := Tryd.sizeOf9
  v9 := Tryd.zeroValue9 }
end Go.Proofs
namespace GrL
open Go GrP
theorem indexByte_mem : ∀ (l : Tx) (c : UInt8), 0 ≤ Lib.indexByte l c ↔ c ∈ l
  | [], c => by simp [Lib.indexByte]
  | b :: l, c => by
    have ih := indexByte_mem l c
    have hg := Lib.indexByte_ge l c
    unfold Lib.indexByte
    by_cases h : b = c
    · subst h; simp
    · have hb : (b == c) = false := by simpa using h
      rw [if_neg (by simp [hb])]
      by_cases h1 : Lib.indexByte l c = -1
      · rw [if_pos (by simp [h1])]
        rw [h1] at ih
        have : ¬ c ∈ l := fun e => by have := ih.2 e; omega
        simp [this, Ne.symm h]
      · rw [if_neg (by simpa using h1)]
        constructor
        · intro _; exact List.mem_cons_of_mem _ (ih.1 (by omega))
        · intro e
          rcases List.mem_cons.1 e with e | e
          · exact absurd e.symm h
          · have := ih.2 e; omega
theorem hasPrefix_two (l : Tx) (a b : UInt8) : Lib.hasPrefix l [a, b] = decide (l.take 2 = [a, b]) := by
  unfold Lib.hasPrefix
  rw [Bool.eq_iff_iff, List.isPrefixOf_iff_prefix, List.prefix_iff_eq_take, decide_eq_true_eq]
  exact ⟨fun e => e.symm, fun e => e.symm⟩
end GrL
namespace Go.Proofs.YtgpngjgilcbigaaDoor
open Go.RowKit GrP GrL Go.Shelf

theorem hp_any (a p : Tx) (w : World) : Calls Tryd.prog 57 #[.string (strL a), .string (strL p)] w fun e w' => e = .returned (.bool (Lib.hasPrefix a p)) ∧ w = w' :=
  (Any.strings_HasPrefix Tryd.laysHP (strL a) (strL p) w).mono fun _ _ h => ⟨h.1, h.2.symm⟩
theorem ib_any (a : Tx) (c : UInt8) (w : World) : Calls Tryd.prog 58 #[.string (strL a), .int .u8 (c.toNat : Int)] w fun e w' => e = .returned (.int .i64 (Lib.indexByte a c)) ∧ w = w' :=
  (Any.strings_IndexByte Tryd.laysIB (strL a) (c.toNat : Int) w).mono fun _ _ h => ⟨by rw [h.1]; simp [strL_data], h.2.symm⟩

set_option maxRecDepth 100000 in
set_option maxHeartbeats 1600000 in
theorem lsign_any (c : UInt8) (l : Tx) (w : World) : Calls Tryd.prog 48 #[.string (strL (c :: l))] w fun e w' => e = .returned (.int .i64 ((sgn (c :: l) : Nat) : Int)) ∧ w = w' := by
  have H1 := Lib.hid (fun w => hp_any (c :: l) [47, 92] w)
  have H2 := Lib.hid (fun w => hp_any (c :: l) [92, 47] w)
  have HI := Lib.hid (fun w => ib_any ones c w)
  have HM := Lib.hid (indexByte_mem ones c)
  rw [hasPrefix_two] at H1 H2
  have IX := s_idx (c :: l) 0 (by simp)
  simp only [List.getElem_cons_zero] at IX
  rw [show ((0 : Nat) : Int) = 0 from rfl] at IX
  obtain ⟨k, hk⟩ : ∃ k, k = Lib.indexByte ones c := ⟨_, rfl⟩
  obtain ⟨n, hn⟩ : ∃ n, n = c.toNat := ⟨_, rfl⟩
  rw [← hk, ← hn] at HI
  rw [← hk] at HM
  rw [← hn] at IX
  have P1 : (strL [47, 92] : ByteArray) = ⟨#[47, 92]⟩ := rfl
  have P2 : (strL [92, 47] : ByteArray) = ⟨#[92, 47]⟩ := rfl
  have P3 : (strL ones : ByteArray) = ⟨#[61, 91, 93, 40, 41, 58, 44, 126]⟩ := rfl
  rw [P1] at H1
  rw [P2] at H2
  rw [P3] at HI
  clear P1 P2 P3 hk hn
  by_cases a : (c :: l).take 2 = [47, 92]
  · have E := Lib.hid (show sgn (c :: l) = 2 by rw [sgn, if_pos (.inl a)])
    rw [decide_eq_true a] at H1
    obtain ⟨s, hs⟩ : ∃ s, s = c :: l := ⟨_, rfl⟩
    rw [← hs] at H1 H2 IX E ⊢
    clear hs
    clear a
    go_enter Tryd.func48, Tryd.ntmps48
    go_wp2_with (go_at_call 57; refine (H1.out _).mono ?_; rintro e w9 ⟨rfl, rfl⟩)
    go_ret
    exact ⟨by rw [E.out]; rfl, rfl⟩
  · rw [decide_eq_false a] at H1
    by_cases b : (c :: l).take 2 = [92, 47]
    · have E := Lib.hid (show sgn (c :: l) = 2 by rw [sgn, if_pos (.inr b)])
      rw [decide_eq_true b] at H2
      obtain ⟨s, hs⟩ : ∃ s, s = c :: l := ⟨_, rfl⟩
      rw [← hs] at H1 H2 IX E ⊢
      clear hs
      clear a b
      go_enter Tryd.func48, Tryd.ntmps48
      go_upto_region 2 with (go_at_call 57; refine (H1.out _).mono ?_; rintro e w9 ⟨rfl, rfl⟩)
      go_wp2_with (go_at_call 57; refine (H2.out _).mono ?_; rintro e w9 ⟨rfl, rfl⟩)
      go_ret
      exact ⟨by rw [E.out]; rfl, rfl⟩
    · rw [decide_eq_false b] at H2
      by_cases m : 0 ≤ k
      · have E := Lib.hid (show sgn (c :: l) = 1 by rw [sgn, if_neg (by simp only [not_or]; exact ⟨a, b⟩), if_pos (by simpa using HM.out.1 m)])
        obtain ⟨s, hs⟩ : ∃ s, s = c :: l := ⟨_, rfl⟩
        rw [← hs] at H1 H2 IX E ⊢
        clear hs
        clear a b
        go_enter Tryd.func48, Tryd.ntmps48
        go_upto_region 2 with (go_at_call 57; refine (H1.out _).mono ?_; rintro e w9 ⟨rfl, rfl⟩)
        go_upto_region 4 with (go_at_call 57; refine (H2.out _).mono ?_; rintro e w9 ⟨rfl, rfl⟩)
        go_wp2_with (go_at_call 58; refine (HI.out _).mono ?_; rintro e w9 ⟨rfl, rfl⟩)
        go_ret
        exact ⟨by rw [E.out]; rfl, rfl⟩
      · have E := Lib.hid (show sgn (c :: l) = 0 by rw [sgn, if_neg (by simp only [not_or]; exact ⟨a, b⟩), if_neg (by simpa using fun e => m (HM.out.2 e))])
        obtain ⟨s, hs⟩ : ∃ s, s = c :: l := ⟨_, rfl⟩
        rw [← hs] at H1 H2 IX E ⊢
        clear hs
        clear a b
        go_enter Tryd.func48, Tryd.ntmps48
        go_upto_region 2 with (go_at_call 57; refine (H1.out _).mono ?_; rintro e w9 ⟨rfl, rfl⟩)
        go_upto_region 4 with (go_at_call 57; refine (H2.out _).mono ?_; rintro e w9 ⟨rfl, rfl⟩)
        go_wp2_with (go_at_call 58; refine (HI.out _).mono ?_; rintro e w9 ⟨rfl, rfl⟩)
        go_ret
        exact ⟨by rw [E.out]; rfl, rfl⟩
end Go.Proofs.YtgpngjgilcbigaaDoor
