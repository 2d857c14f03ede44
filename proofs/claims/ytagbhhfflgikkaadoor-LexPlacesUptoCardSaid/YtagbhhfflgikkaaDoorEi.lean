/-
  Layer 10, the walks: the page's signs.
-/
import Derived.Test.YtagbhhfflgikkaaDoorEh
set_option linter.unusedSimpArgs false
set_option linter.unusedVariables false
namespace GrL
open Go GrP Go.Proofs.YtagbhhfflgikkaaDoor
theorem find_at {α : Type} (f : α → Bool) : ∀ (L : List α) (i : Nat) (h : i < L.length), (∀ j (hj : j < L.length), j < i → f L[j] = false) → f L[i] = true → L.find? f = some L[i]
  | a :: L, 0, h, _, h2 => by
    simp only [List.getElem_cons_zero] at h2
    simp [h2]
  | a :: L, i + 1, h, h1, h2 => by
    have h0 := h1 0 (by simp) (by omega)
    simp only [List.getElem_cons_zero] at h0
    rw [List.find?_cons, h0]
    exact find_at f L i (by simpa using h) (fun j hj hi => h1 (j + 1) (by simpa using hj) (by omega)) h2
theorem sgn_at {c : UInt8} {l : Tx} {i : Nat} (h : i < signT.length) (h1 : ∀ j (hj : j < signT.length), j < i → (c :: l).take signT[j].length ≠ signT[j]) (h2 : (c :: l).take signT[i].length = signT[i]) : sgn (c :: l) = signT[i].length := by
  rw [← Go.Proofs.YtagbhhfflgikkaaDoor.sgn_page, find_at _ _ i h (fun j hj hi => decide_eq_false (h1 j hj hi)) (decide_eq_true h2)]
  rfl
theorem sgn_no {c : UInt8} {l : Tx} (h1 : ∀ j (hj : j < signT.length), (c :: l).take signT[j].length ≠ signT[j]) : sgn (c :: l) = 0 := by
  rw [← Go.Proofs.YtagbhhfflgikkaaDoor.sgn_page, List.find?_eq_none.2]
  · rfl
  · intro p hp
    obtain ⟨j, hj, rfl⟩ := List.getElem_of_mem hp
    simpa using h1 j hj
theorem sign_len {i : Nat} (h : i < signT.length) : 1 ≤ signT[i].length ∧ signT[i].length ≤ 2 := by
  have : signT.all (fun p => decide (1 ≤ p.length) && decide (p.length ≤ 2)) = true := by decide
  have := List.all_eq_true.1 this _ (List.getElem_mem h)
  simpa using this
end GrL
namespace Go.Proofs.YtagbhhfflgikkaaDoor
open Go.RowKit GrP GrL Go.Shelf

set_option maxRecDepth 100000 in
set_option maxHeartbeats 3200000 in
theorem rsigns_any (c : UInt8) (l : Tx) (w : World) (hl : (c :: l).length ≤ 9223372036854775800) : Calls Tryd.prog 26 #[.string (strL (c :: l))] w fun e w' => e = .returned (.int .i64 ((sgn (c :: l) : Nat) : Int)) ∧ Below w.heap.size w w' := by
  obtain ⟨s, hs⟩ : ∃ s, s = c :: l := ⟨_, rfl⟩
  have SA := Lib.hid (fun (i : Nat) (h : i < signT.length) (h1 : ∀ j (hj : j < signT.length), j < i → s.take signT[j].length ≠ signT[j]) (h2 : s.take signT[i].length = signT[i]) => show sgn s = signT[i].length by subst hs; exact sgn_at h h1 h2)
  have SN := Lib.hid (fun (h1 : ∀ j (hj : j < signT.length), s.take signT[j].length ≠ signT[j]) => show sgn s = 0 by subst hs; exact sgn_no h1)
  rw [← hs] at hl ⊢
  clear hs
  obtain ⟨n, hn⟩ : ∃ n, n = s.length := ⟨_, rfl⟩
  have hsz : (strL s).size = n := by rw [strL_size, hn]
  have HN := Lib.hid hn
  have n0 : (0 : Int) ≤ (n : Int) := by omega
  have n1 : (n : Int) ≤ 9223372036854775800 := by omega
  clear hl hn
  go_enter Tryd.func26, Tryd.ntmps26
  go_upto_region 2 with fail
  refine to_cls ?_
  intro U0 hU0 y0
  have r_p : ∀ z : Wb U0, Row z.at w.heap.size (signT.map fun p => .string (strL p)) 9 := Row.next (Row.new _ (signT.map fun p => .string (strL p)) _) hU0
  have KK := Lib.hid (KB.next (KB.alloc (Below.refl w.heap.size w) _) hU0)
  clear hU0
  obtain ⟨pA, hpA⟩ : ∃ b, b = w.heap.size := ⟨_, rfl⟩
  rw [← hpA] at r_p
  simp only [← hpA]
  clear hpA
  have RP := Lib.hid r_p
  clear r_p
  go_wp2_with fail
  go_loopw [4] (fun iv wr => ∃ i : Nat, ∃ z : Wb U0, i ≤ 10 ∧ iv = .int .i64 (i : Int) ∧ (∀ j (hj : j < signT.length), j < i → s.take signT[j].length ≠ signT[j]) ∧ wr = z.at) (fun iv _ => 10 - (intOf iv).toNat)
  case atStart => exact ⟨0, y0, by omega, rfl, fun j h h2 => by omega, rfl⟩
  case round =>
    obtain ⟨i, y1, hi, rfl, hall, rfl⟩ := hrel
    have HA := Lib.hid hall
    have i0 : (0 : Int) ≤ (i : Int) := by omega
    clear hall
    by_cases ci : i < 10
    · have c1 : (i : Int) < 10 := by omega
      have hil : i < signT.length := ci
      have HI := Lib.hid (show i + 1 ≤ 10 by omega)
      have SL := sign_len hil
      have cell2 : ∀ z : Wb y1.at, z.at.cell? ⟨pA, i, none⟩ = some (.string (strL (signT[i]'hil))) := fun z => by
        have := ((RP.out y1).at z).cell i
        rw [List.getElem?_map, List.getElem?_eq_getElem hil] at this
        exact this
      obtain ⟨p, hp⟩ : ∃ p : List UInt8, p = signT[i]'hil := ⟨_, rfl⟩
      have HP := Lib.hid (show ∀ h : i < signT.length, p = signT[i]'h from fun _ => hp)
      rw [← hp] at cell2 SL
      obtain ⟨m, hm⟩ : ∃ m, m = p.length := ⟨_, rfl⟩
      have HM := Lib.hid hm
      have psz : (strL p).size = m := by rw [strL_size, hm]
      rw [← hm] at SL
      have m0 : (0 : Int) ≤ (m : Int) := by omega
      have m1 : (m : Int) ≤ 2 := by omega
      have HL := Lib.hid hil
      clear hp hm hil ci hi
      have TK := fun (h : m ≤ n) w => s_to s m (by have := HN.out; omega) w
      by_cases cm : m ≤ n
      · have d1 : (m : Int) ≤ (n : Int) := by omega
        have T1 := TK cm
        have TS := Lib.hid (show (strL (s.take m)).toList = (strL p).toList ↔ s.take m = p from by simp [strL, ByteArray.toList_eq])
        clear TK cm
        by_cases ct : s.take m = p
        · have e1 : ((strL (s.take m)).toList == (strL p).toList) = true := by rw [beq_iff_eq]; exact TS.out.2 ct
          have E := Lib.hid (show sgn s = m by have h := HL.out; rw [HM.out, HP.out h]; exact SA.out i h HA.out (by rw [← HP.out h, ← HM.out]; exact ct))
          clear ct
          go_upto_region 5 with fail
          refine wp_region_wb (by kernel_rfl) (by kernel_rfl) ?_
          repeat (go_big_quiet_step (fail))
          refine wpQuiet_nil ?_
          rintro _ ⟨x, rfl⟩
          go_wp2
          go_ret
          exact ⟨by rw [E.out]; rfl, KK.out ⟨x.at, y1.bel.trans (x.bel.mono y1.bel.size)⟩⟩
        · have e1 : ((strL (s.take m)).toList == (strL p).toList) = false := by rw [beq_eq_false_iff_ne]; exact fun e => ct (TS.out.1 e)
          have NX := Lib.hid (show ∀ j (hj : j < signT.length), j < i + 1 → s.take signT[j].length ≠ signT[j] from fun j hj h2 => by
            by_cases e : j = i
            · subst e; rw [← HP.out hj, ← HM.out]; exact ct
            · exact HA.out j hj (by omega))
          clear ct
          go_upto_region 5 with fail
          refine wp_region_wb (by kernel_rfl) (by kernel_rfl) ?_
          repeat (go_big_quiet_step (fail))
          refine wpQuiet_nil ?_
          rintro _ ⟨x, rfl⟩
          go_wp2
          go_roundw
          case rel => exact ⟨i + 1, ⟨x.at, y1.bel.trans (x.bel.mono y1.bel.size)⟩, HI.out, by go_num, NX.out, rfl⟩
          case measure => have := HI.out; simp [intOf] <;> omega
      · have d1 : ¬ (m : Int) ≤ (n : Int) := by omega
        have NX := Lib.hid (show ∀ j (hj : j < signT.length), j < i + 1 → s.take signT[j].length ≠ signT[j] from fun j hj h2 => by
          by_cases e : j = i
          · subst e; rw [← HP.out hj, ← HM.out]; intro e; have := congrArg List.length e; rw [List.length_take] at this; have := HM.out; have := HN.out; omega
          · exact HA.out j hj (by omega))
        clear TK cm
        go_upto_region 5 with fail
        refine wp_region_wb (by kernel_rfl) (by kernel_rfl) ?_
        repeat (go_big_quiet_step (fail))
        refine wpQuiet_nil ?_
        rintro _ ⟨x, rfl⟩
        go_wp2
        go_roundw
        case rel => exact ⟨i + 1, ⟨x.at, y1.bel.trans (x.bel.mono y1.bel.size)⟩, HI.out, by go_num, NX.out, rfl⟩
        case measure => have := HI.out; simp [intOf] <;> omega
    · obtain rfl : i = 10 := by omega
      have E := Lib.hid (show sgn s = 0 from SN.out fun j hj => HA.out j hj hj)
      clear ci hi
      go_wp2
      go_ret
      exact ⟨by rw [E.out]; rfl, KK.out y1⟩
end Go.Proofs.YtagbhhfflgikkaaDoor
