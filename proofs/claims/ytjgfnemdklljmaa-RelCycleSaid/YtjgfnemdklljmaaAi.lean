/-
  Layer 1, the walks: the page's Union, Minus, Inverse, Then, Same.
-/
import Derived.Test.YtjgfnemdklljmaaAh
set_option linter.unusedSimpArgs false
set_option linter.unusedVariables false
namespace GrR
open Go
/-- what has been filled in: the rows below k, and of row k the places below m -/
def midF (f : Mx) (k m : Nat) : Mx := fun i j => if i < k then f i j else if i = k then decide (j < m) && f i j else false
theorem midF_put (f : Mx) (k m : Nat) (i j : Nat) : putM (midF f k m) k m (f k m) i j = midF f k (m + 1) i j := by
  unfold putM midF
  by_cases c : i = k
  · by_cases d : j = m
    · simp [c, d]
    · by_cases e : j < m
      · simp [c, d, e, show j < m + 1 by omega]
      · simp [c, d, e, show ¬ j < m + 1 by omega]
  · simp [c]
theorem midF_next (f : Mx) (n k : Nat) (i j : Nat) (hj : j < n) : midF f k n i j = midF f (k + 1) 0 i j := by
  unfold midF
  by_cases c : i = k
  · subst c
    rw [if_neg (by omega), if_pos rfl, if_pos (by omega)]
    simp [hj]
  · by_cases d : i < k
    · rw [if_pos d, if_pos (by omega)]
    · rw [if_neg d, if_neg c, if_neg (by omega)]
      simp
theorem midF_end (f : Mx) (n i j : Nat) (hi : i < n) : midF f n 0 i j = f i j := by
  unfold midF
  rw [if_pos hi]
def midI (T : Mx) (k m : Nat) : Mx := fun i j => T j i && (decide (j < k) || (j == k && decide (i < m)))
theorem midI_put (T : Mx) (k m : Nat) (i j : Nat) : putM (midI T k m) m k (T k m) i j = midI T k (m + 1) i j := by
  unfold putM midI
  by_cases d : j = k
  · by_cases c : i = m
    · simp [c, d]
    · by_cases e : i < m
      · simp [c, d, e, show i < m + 1 by omega]
      · simp [c, d, e, show ¬ i < m + 1 by omega]
  · have d' : (j == k) = false := by simp [d]
    by_cases c : i = m
    · simp [c, d, d']
    · simp [c, d']
theorem midI_next (T : Mx) (n k : Nat) (i j : Nat) (hi : i < n) : midI T k n i j = midI T (k + 1) 0 i j := by
  unfold midI
  by_cases d : j = k
  · simp [d, hi]
  · have d' : (j == k) = false := by simp [d]
    by_cases e : j < k
    · simp [e, show j < k + 1 by omega]
    · simp [e, d', show ¬ j < k + 1 by omega]
/-- what the page's Then has made: the rows below x, of row x by the things below y, and by y the places below m -/
def midP (n : Nat) (A B : Mx) (x y m : Nat) : Mx := fun i j => midT n A B x y i j || (i == x && decide (j < m) && A x y && B y j)
theorem midP_put (n : Nat) (A B : Mx) (x y m : Nat) (h : A x y = true) (i j : Nat) : putM (midP n A B x y m) x m (midP n A B x y m x m || B y m) i j = midP n A B x y (m + 1) i j := by
  unfold putM midP
  by_cases c : i = x
  · by_cases d : j = m
    · simp [c, d, h]
    · by_cases e : j < m
      · simp [c, d, e, show j < m + 1 by omega]
      · simp [c, d, e, show ¬ j < m + 1 by omega]
  · have c' : (i == x) = false := by simp [c]
    simp [c, c']
theorem midP_end {n : Nat} {A B : Mx} {x y : Nat} (h : A x y = true) (i j : Nat) (hj : j < n) : midP n A B x y n i j = midT n A B x (y + 1) i j := by
  unfold midP
  rw [← midT_yes h i j]
  unfold rowM
  by_cases c : i = x
  · subst c; simp [hj, h]
  · simp [c]
def eqT (n : Nat) (T U : Mx) : Bool := (List.range n).all fun i => (List.range n).all fun j => T i j == U i j
theorem eqT_iff {n : Nat} {T U : Mx} : eqT n T U = true ↔ ∀ i, i < n → ∀ j, j < n → T i j = U i j := by
  simp only [eqT, List.all_eq_true, List.mem_range, beq_iff_eq]
theorem eqT_no {n : Nat} {T U : Mx} (h : ¬ ∀ i, i < n → ∀ j, j < n → T i j = U i j) : eqT n T U = false := by
  cases c : eqT n T U
  · rfl
  · exact absurd (eqT_iff.1 c) h
end GrR
namespace Go.Proofs.Ytjgfnemdklljmaa
open Go.RowKit GrR
/-- a table's value -/
abbrev tabV (O n : Nat) : Value := .slice (some ⟨O, 0, none⟩) n n

set_option maxRecDepth 100000 in
set_option maxHeartbeats 3200000 in
theorem runion_any (A B n : Nat) (TA TB : Mx) (w : World) (hn : n ≤ 1000) (hA : TabAt w A n TA) (hB : TabAt w B n TB) :
    Calls Try.prog 30 #[.slice (some ⟨A, 0, none⟩) n n, .slice (some ⟨B, 0, none⟩) n n] w fun e w' => e = .returned (.slice (some ⟨w.heap.size, 0, none⟩) n n) ∧ TabAt w' w.heap.size n (unionM TA TB) ∧ Below w.heap.size w w' := by
  have EM := Lib.hid (empty_any n w hn)
  have HA := Lib.hid hA
  have HB := Lib.hid hB
  have HN := Lib.hid hn
  clear hA hB hn
  go_enter Try.func30, Try.ntmps30
  go_wp2_with fail
  refine EM.out.mono ?_
  rintro e w1 ⟨rfl, h1, h2⟩
  have R0 := Lib.hid h1
  have B0 := Lib.hid h2
  clear h1 h2 EM
  go_wp2_with fail
  go_loopw [6] (fun i wr => ∃ k : Nat, k ≤ n ∧ i = .int .i64 (k : Int) ∧ TabAt wr w.heap.size n (midF (unionM TA TB) k 0) ∧ Below w.heap.size w wr) (fun i _ => n - (intOf i).toNat)
  case atStart => exact ⟨0, by omega, rfl, R0.out.eqT (fun i j hi hj => by simp [emptyM, midF]), B0.out⟩
  case round =>
    clear R0 B0
    obtain ⟨k, hk, rfl, hr, hb⟩ := hrel
    have HR := Lib.hid hr
    have HW := Lib.hid hb
    clear hr hb
    by_cases ck : k < n
    · have k1 : (k : Int) < (n : Int) := by omega
      have k0 : (0 : Int) ≤ (k : Int) := by omega
      have k2 : (k : Int) ≤ 1000 := by have := HN.out; omega
      go_wp2_with fail
      go_loopw [7] (fun i wr => ∃ m : Nat, m ≤ n ∧ i = .int .i64 (m : Int) ∧ TabAt wr w.heap.size n (midF (unionM TA TB) k m) ∧ Below w.heap.size w wr) (fun i _ => n - (intOf i).toNat)
      case atStart => exact ⟨0, by omega, rfl, HR.out, HW.out⟩
      case round =>
        clear HR HW
        obtain ⟨m, hm, rfl, hr, hb⟩ := hrel
        have HR := Lib.hid hr
        have HW := Lib.hid hb
        clear hr hb
        by_cases cm : m < n
        · have m1 : (m : Int) < (n : Int) := by omega
          have m0 : (0 : Int) ≤ (m : Int) := by omega
          have m2 : (m : Int) ≤ 1000 := by have := HN.out; omega
          have a0 : ∀ z : Wb wr, z.at.cell? ⟨A, k, none⟩ = some (.slice (some ⟨A + 1 + k, 0, none⟩) n n) := fun z => HA.out.row k ck _ (KB.at HW.out z)
          have a1 : ∀ z : Wb wr, z.at.cell? ⟨A + 1 + k, m, none⟩ = some (.bool (TA k m)) := fun z => HA.out.bit k m ck cm _ (KB.at HW.out z)
          have b0 : ∀ z : Wb wr, z.at.cell? ⟨B, k, none⟩ = some (.slice (some ⟨B + 1 + k, 0, none⟩) n n) := fun z => HB.out.row k ck _ (KB.at HW.out z)
          have b1 : ∀ z : Wb wr, z.at.cell? ⟨B + 1 + k, m, none⟩ = some (.bool (TB k m)) := fun z => HB.out.bit k m ck cm _ (KB.at HW.out z)
          have o0 : ∀ z : Wb wr, z.at.cell? ⟨w.heap.size, k, none⟩ = some (.slice (some ⟨w.heap.size + 1 + k, 0, none⟩) n n) := fun z => HR.out.row k ck _ z.bel
          have o1 : ∀ z : Wb wr, z.at.cell? ⟨w.heap.size + 1 + k, m, none⟩ = some (.bool (midF (unionM TA TB) k m k m)) := fun z => HR.out.bit k m ck cm _ z.bel
          have of : ∀ (z : Wb wr) (i : Nat), z.at.frozen? ⟨w.heap.size + 1 + k, i, none⟩ = false := fun z i => HR.out.free k ck _ z.bel i
          obtain ⟨ob, hob⟩ : ∃ b, b = midF (unionM TA TB) k m k m := ⟨_, rfl⟩
          rw [← hob] at o1
          clear hob
          have PV := Lib.hid (show ∀ v, v = unionM TA TB k m → ∀ z : Wb wr, TabAt (z.at.setCell ⟨w.heap.size + 1 + k, m, none⟩ (.bool v)) w.heap.size n (midF (unionM TA TB) k (m + 1)) from fun v hv z => ((HR.out.below z.bel).put m v ck).eqT (fun i j _ _ => by rw [hv]; exact midF_put _ _ _ _ _))
          have BV := Lib.hid (fun (v : Value) (z : Wb wr) => KB.put (KB.at HW.out z) (show w.heap.size ≤ w.heap.size + 1 + k by omega) m v)
          go_wp2_with fail
          cases ca : TA k m <;> cases cb : TB k m
          all_goals
            rw [ca] at a1
            rw [cb] at b1
            have VV := Lib.hid (show unionM TA TB k m = unionM (fun _ _ => TA k m) (fun _ _ => TB k m) 0 0 from rfl)
            rw [ca, cb] at VV
            refine wp_region_wb_tail 22 (by kernel_rfl) (by kernel_rfl) ?_
            simp only [List.take_succ_cons, List.take_zero, List.drop_succ_cons, List.drop_zero]
            repeat (go_big_quiet_step (fail))
            refine wpQuiet_nil ?_
            rintro _ ⟨x1, rfl⟩
            clear a0 a1 b0 b1
            go_wp2_with fail
            go_roundw
            case rel => exact ⟨m + 1, by omega, by go_num, PV.out _ (by rw [VV.out]; rfl) x1, BV.out _ x1⟩
            case measure => simp [intOf]; omega
        · obtain rfl : m = n := by omega
          have i2 : ¬ (m : Int) < (m : Int) := by omega
          go_wp2_with fail
          go_roundw
          case rel => exact ⟨k + 1, by omega, by go_num, HR.out.eqT (fun i j _ hj => midF_next _ _ _ _ _ hj), HW.out⟩
          case measure => simp [intOf]; omega
    · obtain rfl : k = n := by omega
      have i2 : ¬ (k : Int) < (k : Int) := by omega
      go_wp2
      go_ret
      exact ⟨rfl, HR.out.eqT (fun i j hi _ => midF_end _ _ _ _ hi), HW.out⟩

set_option maxRecDepth 100000 in
set_option maxHeartbeats 3200000 in
theorem rminus_any (A B n : Nat) (TA TB : Mx) (w : World) (hn : n ≤ 1000) (hA : TabAt w A n TA) (hB : TabAt w B n TB) :
    Calls Try.prog 31 #[.slice (some ⟨A, 0, none⟩) n n, .slice (some ⟨B, 0, none⟩) n n] w fun e w' => e = .returned (.slice (some ⟨w.heap.size, 0, none⟩) n n) ∧ TabAt w' w.heap.size n (minusM TA TB) ∧ Below w.heap.size w w' := by
  have EM := Lib.hid (empty_any n w hn)
  have HA := Lib.hid hA
  have HB := Lib.hid hB
  have HN := Lib.hid hn
  clear hA hB hn
  go_enter Try.func31, Try.ntmps31
  go_wp2_with fail
  refine EM.out.mono ?_
  rintro e w1 ⟨rfl, h1, h2⟩
  have R0 := Lib.hid h1
  have B0 := Lib.hid h2
  clear h1 h2 EM
  go_wp2_with fail
  go_loopw [6] (fun i wr => ∃ k : Nat, k ≤ n ∧ i = .int .i64 (k : Int) ∧ TabAt wr w.heap.size n (midF (minusM TA TB) k 0) ∧ Below w.heap.size w wr) (fun i _ => n - (intOf i).toNat)
  case atStart => exact ⟨0, by omega, rfl, R0.out.eqT (fun i j hi hj => by simp [emptyM, midF]), B0.out⟩
  case round =>
    clear R0 B0
    obtain ⟨k, hk, rfl, hr, hb⟩ := hrel
    have HR := Lib.hid hr
    have HW := Lib.hid hb
    clear hr hb
    by_cases ck : k < n
    · have k1 : (k : Int) < (n : Int) := by omega
      have k0 : (0 : Int) ≤ (k : Int) := by omega
      have k2 : (k : Int) ≤ 1000 := by have := HN.out; omega
      go_wp2_with fail
      go_loopw [7] (fun i wr => ∃ m : Nat, m ≤ n ∧ i = .int .i64 (m : Int) ∧ TabAt wr w.heap.size n (midF (minusM TA TB) k m) ∧ Below w.heap.size w wr) (fun i _ => n - (intOf i).toNat)
      case atStart => exact ⟨0, by omega, rfl, HR.out, HW.out⟩
      case round =>
        clear HR HW
        obtain ⟨m, hm, rfl, hr, hb⟩ := hrel
        have HR := Lib.hid hr
        have HW := Lib.hid hb
        clear hr hb
        by_cases cm : m < n
        · have m1 : (m : Int) < (n : Int) := by omega
          have m0 : (0 : Int) ≤ (m : Int) := by omega
          have m2 : (m : Int) ≤ 1000 := by have := HN.out; omega
          have a0 : ∀ z : Wb wr, z.at.cell? ⟨A, k, none⟩ = some (.slice (some ⟨A + 1 + k, 0, none⟩) n n) := fun z => HA.out.row k ck _ (KB.at HW.out z)
          have a1 : ∀ z : Wb wr, z.at.cell? ⟨A + 1 + k, m, none⟩ = some (.bool (TA k m)) := fun z => HA.out.bit k m ck cm _ (KB.at HW.out z)
          have b0 : ∀ z : Wb wr, z.at.cell? ⟨B, k, none⟩ = some (.slice (some ⟨B + 1 + k, 0, none⟩) n n) := fun z => HB.out.row k ck _ (KB.at HW.out z)
          have b1 : ∀ z : Wb wr, z.at.cell? ⟨B + 1 + k, m, none⟩ = some (.bool (TB k m)) := fun z => HB.out.bit k m ck cm _ (KB.at HW.out z)
          have o0 : ∀ z : Wb wr, z.at.cell? ⟨w.heap.size, k, none⟩ = some (.slice (some ⟨w.heap.size + 1 + k, 0, none⟩) n n) := fun z => HR.out.row k ck _ z.bel
          have o1 : ∀ z : Wb wr, z.at.cell? ⟨w.heap.size + 1 + k, m, none⟩ = some (.bool (midF (minusM TA TB) k m k m)) := fun z => HR.out.bit k m ck cm _ z.bel
          have of : ∀ (z : Wb wr) (i : Nat), z.at.frozen? ⟨w.heap.size + 1 + k, i, none⟩ = false := fun z i => HR.out.free k ck _ z.bel i
          obtain ⟨ob, hob⟩ : ∃ b, b = midF (minusM TA TB) k m k m := ⟨_, rfl⟩
          rw [← hob] at o1
          clear hob
          have PV := Lib.hid (show ∀ v, v = minusM TA TB k m → ∀ z : Wb wr, TabAt (z.at.setCell ⟨w.heap.size + 1 + k, m, none⟩ (.bool v)) w.heap.size n (midF (minusM TA TB) k (m + 1)) from fun v hv z => ((HR.out.below z.bel).put m v ck).eqT (fun i j _ _ => by rw [hv]; exact midF_put _ _ _ _ _))
          have BV := Lib.hid (fun (v : Value) (z : Wb wr) => KB.put (KB.at HW.out z) (show w.heap.size ≤ w.heap.size + 1 + k by omega) m v)
          go_wp2_with fail
          cases ca : TA k m <;> cases cb : TB k m
          all_goals
            rw [ca] at a1
            rw [cb] at b1
            have VV := Lib.hid (show minusM TA TB k m = minusM (fun _ _ => TA k m) (fun _ _ => TB k m) 0 0 from rfl)
            rw [ca, cb] at VV
            refine wp_region_wb_tail 23 (by kernel_rfl) (by kernel_rfl) ?_
            simp only [List.take_succ_cons, List.take_zero, List.drop_succ_cons, List.drop_zero]
            repeat (go_big_quiet_step (fail))
            refine wpQuiet_nil ?_
            rintro _ ⟨x1, rfl⟩
            clear a0 a1 b0 b1
            go_wp2_with fail
            go_roundw
            case rel => exact ⟨m + 1, by omega, by go_num, PV.out _ (by rw [VV.out]; rfl) x1, BV.out _ x1⟩
            case measure => simp [intOf]; omega
        · obtain rfl : m = n := by omega
          have i2 : ¬ (m : Int) < (m : Int) := by omega
          go_wp2_with fail
          go_roundw
          case rel => exact ⟨k + 1, by omega, by go_num, HR.out.eqT (fun i j _ hj => midF_next _ _ _ _ _ hj), HW.out⟩
          case measure => simp [intOf]; omega
    · obtain rfl : k = n := by omega
      have i2 : ¬ (k : Int) < (k : Int) := by omega
      go_wp2
      go_ret
      exact ⟨rfl, HR.out.eqT (fun i j hi _ => midF_end _ _ _ _ hi), HW.out⟩

set_option maxRecDepth 100000 in
set_option maxHeartbeats 3200000 in
theorem rinv_any (A n : Nat) (T : Mx) (w : World) (hn : n ≤ 1000) (hA : TabAt w A n T) :
    Calls Try.prog 35 #[.slice (some ⟨A, 0, none⟩) n n] w fun e w' => e = .returned (.slice (some ⟨w.heap.size, 0, none⟩) n n) ∧ TabAt w' w.heap.size n (invM T) ∧ Below w.heap.size w w' := by
  have EM := Lib.hid (empty_any n w hn)
  have HA := Lib.hid hA
  have HN := Lib.hid hn
  clear hA hn
  go_enter Try.func35, Try.ntmps35
  go_wp2_with fail
  refine EM.out.mono ?_
  rintro e w1 ⟨rfl, h1, h2⟩
  have R0 := Lib.hid h1
  have B0 := Lib.hid h2
  clear h1 h2 EM
  go_wp2_with fail
  go_loopw [4] (fun i wr => ∃ k : Nat, k ≤ n ∧ i = .int .i64 (k : Int) ∧ TabAt wr w.heap.size n (midI T k 0) ∧ Below w.heap.size w wr) (fun i _ => n - (intOf i).toNat)
  case atStart => exact ⟨0, by omega, rfl, R0.out.eqT (fun i j hi hj => by simp [emptyM, midI]), B0.out⟩
  case round =>
    clear R0 B0
    obtain ⟨k, hk, rfl, hr, hb⟩ := hrel
    have HR := Lib.hid hr
    have HW := Lib.hid hb
    clear hr hb
    by_cases ck : k < n
    · have k1 : (k : Int) < (n : Int) := by omega
      have k0 : (0 : Int) ≤ (k : Int) := by omega
      have k2 : (k : Int) ≤ 1000 := by have := HN.out; omega
      go_wp2_with fail
      go_loopw [5] (fun i wr => ∃ m : Nat, m ≤ n ∧ i = .int .i64 (m : Int) ∧ TabAt wr w.heap.size n (midI T k m) ∧ Below w.heap.size w wr) (fun i _ => n - (intOf i).toNat)
      case atStart => exact ⟨0, by omega, rfl, HR.out, HW.out⟩
      case round =>
        clear HR HW
        obtain ⟨m, hm, rfl, hr, hb⟩ := hrel
        have HR := Lib.hid hr
        have HW := Lib.hid hb
        clear hr hb
        by_cases cm : m < n
        · have m1 : (m : Int) < (n : Int) := by omega
          have m0 : (0 : Int) ≤ (m : Int) := by omega
          have m2 : (m : Int) ≤ 1000 := by have := HN.out; omega
          have a0 : ∀ z : Wb wr, z.at.cell? ⟨A, k, none⟩ = some (.slice (some ⟨A + 1 + k, 0, none⟩) n n) := fun z => HA.out.row k ck _ (KB.at HW.out z)
          have a1 : ∀ z : Wb wr, z.at.cell? ⟨A + 1 + k, m, none⟩ = some (.bool (T k m)) := fun z => HA.out.bit k m ck cm _ (KB.at HW.out z)
          have o0 : ∀ z : Wb wr, z.at.cell? ⟨w.heap.size, m, none⟩ = some (.slice (some ⟨w.heap.size + 1 + m, 0, none⟩) n n) := fun z => HR.out.row m cm _ z.bel
          have o1 : ∀ z : Wb wr, z.at.cell? ⟨w.heap.size + 1 + m, k, none⟩ = some (.bool (midI T k m m k)) := fun z => HR.out.bit m k cm ck _ z.bel
          have of : ∀ (z : Wb wr) (i : Nat), z.at.frozen? ⟨w.heap.size + 1 + m, i, none⟩ = false := fun z i => HR.out.free m cm _ z.bel i
          obtain ⟨ob, hob⟩ : ∃ b, b = midI T k m m k := ⟨_, rfl⟩
          rw [← hob] at o1
          clear hob
          have PV := Lib.hid (show ∀ z : Wb wr, TabAt (z.at.setCell ⟨w.heap.size + 1 + m, k, none⟩ (.bool (T k m))) w.heap.size n (midI T k (m + 1)) from fun z => ((HR.out.below z.bel).put k (T k m) cm).eqT (fun i j _ _ => midI_put _ _ _ _ _))
          have BV := Lib.hid (fun (v : Value) (z : Wb wr) => KB.put (KB.at HW.out z) (show w.heap.size ≤ w.heap.size + 1 + m by omega) k v)
          go_wp2_with fail
          refine wp_region_wb_tail 13 (by kernel_rfl) (by kernel_rfl) ?_
          simp only [List.take_succ_cons, List.take_zero, List.drop_succ_cons, List.drop_zero]
          repeat (go_big_quiet_step (fail))
          refine wpQuiet_nil ?_
          rintro _ ⟨x1, rfl⟩
          clear a0 a1
          go_wp2_with fail
          go_roundw
          case rel => exact ⟨m + 1, by omega, by go_num, PV.out x1, BV.out _ x1⟩
          case measure => simp [intOf]; omega
        · obtain rfl : m = n := by omega
          have i2 : ¬ (m : Int) < (m : Int) := by omega
          go_wp2_with fail
          go_roundw
          case rel => exact ⟨k + 1, by omega, by go_num, HR.out.eqT (fun i j hi _ => midI_next _ _ _ _ _ hi), HW.out⟩
          case measure => simp [intOf]; omega
    · obtain rfl : k = n := by omega
      have i2 : ¬ (k : Int) < (k : Int) := by omega
      go_wp2
      go_ret
      exact ⟨rfl, HR.out.eqT (fun i j hi hj => by simp [midI, invM, hj]), HW.out⟩

set_option maxRecDepth 100000 in
set_option maxHeartbeats 6400000 in
theorem rthen_any (A B n : Nat) (TA TB : Mx) (w : World) (hn : n ≤ 1000) (hA : TabAt w A n TA) (hB : TabAt w B n TB) :
    Calls Try.prog 33 #[.slice (some ⟨A, 0, none⟩) n n, .slice (some ⟨B, 0, none⟩) n n] w fun e w' => e = .returned (.slice (some ⟨w.heap.size, 0, none⟩) n n) ∧ TabAt w' w.heap.size n (thenM n TA TB) ∧ Below w.heap.size w w' := by
  have EM := Lib.hid (empty_any n w hn)
  have HA := Lib.hid hA
  have HB := Lib.hid hB
  have HN := Lib.hid hn
  clear hA hB hn
  go_enter Try.func33, Try.ntmps33
  go_wp2_with fail
  refine EM.out.mono ?_
  rintro e w1 ⟨rfl, h1, h2⟩
  have R0 := Lib.hid h1
  have B0 := Lib.hid h2
  clear h1 h2 EM
  go_wp2_with fail
  go_loopw [6] (fun i wr => ∃ k : Nat, k ≤ n ∧ i = .int .i64 (k : Int) ∧ TabAt wr w.heap.size n (midT n TA TB k 0) ∧ Below w.heap.size w wr) (fun i _ => n - (intOf i).toNat)
  case atStart => exact ⟨0, by omega, rfl, R0.out.eqT (fun i j hi hj => by simp [emptyM, midT]), B0.out⟩
  case round =>
    clear R0 B0
    obtain ⟨k, hk, rfl, hr, hb⟩ := hrel
    have HR := Lib.hid hr
    have HW := Lib.hid hb
    clear hr hb
    by_cases ck : k < n
    · have k1 : (k : Int) < (n : Int) := by omega
      have k0 : (0 : Int) ≤ (k : Int) := by omega
      have k2 : (k : Int) ≤ 1000 := by have := HN.out; omega
      go_wp2_with fail
      go_loopw [7] (fun i wr => ∃ y : Nat, y ≤ n ∧ i = .int .i64 (y : Int) ∧ TabAt wr w.heap.size n (midT n TA TB k y) ∧ Below w.heap.size w wr) (fun i _ => n - (intOf i).toNat)
      case atStart => exact ⟨0, by omega, rfl, HR.out, HW.out⟩
      case round =>
        clear HR HW
        obtain ⟨y, hy, rfl, hr, hb⟩ := hrel
        have HR := Lib.hid hr
        have HW := Lib.hid hb
        clear hr hb
        by_cases cy : y < n
        · have y1 : (y : Int) < (n : Int) := by omega
          have y0 : (0 : Int) ≤ (y : Int) := by omega
          have y2 : (y : Int) ≤ 1000 := by have := HN.out; omega
          have a0' := Lib.hid (fun (U : World) (q : Below w.heap.size w U) => HA.out.row k ck _ q)
          have a1' := Lib.hid (fun (U : World) (q : Below w.heap.size w U) => HA.out.bit k y ck cy _ q)
          cases ca : TA k y with
          | false =>
            go_wp2_with fail
            go_loopw [8] (fun i wr => i = .int .i64 0 ∧ TabAt wr w.heap.size n (midT n TA TB k y) ∧ Below w.heap.size w wr) (fun i _ => 0)
            case atStart => exact ⟨rfl, HR.out, HW.out⟩
            case round =>
              clear HR HW
              obtain ⟨rfl, hr, hb⟩ := hrel
              have HR := Lib.hid hr
              have HW := Lib.hid hb
              clear hr hb
              have a0 := a0'.out _ HW.out
              have a1 := a1'.out _ HW.out
              rw [ca] at a1
              have n1 : (0 : Int) < (n : Int) := by omega
              clear a0' a1'
              go_wp2_with fail
              clear a0 a1
              go_roundw
              case rel => exact ⟨y + 1, by omega, by go_num, HR.out.eqT (fun i j _ _ => (midT_no ca i j).symm), HW.out⟩
              case measure => simp [intOf]; omega
          | true =>
            go_wp2_with fail
            go_loopw [8] (fun i wr => ∃ m : Nat, m ≤ n ∧ i = .int .i64 (m : Int) ∧ TabAt wr w.heap.size n (midP n TA TB k y m) ∧ Below w.heap.size w wr) (fun i _ => n - (intOf i).toNat)
            case atStart => exact ⟨0, by omega, rfl, HR.out.eqT (fun i j _ _ => by simp [midP]), HW.out⟩
            case round =>
              clear HR HW
              obtain ⟨m, hm, rfl, hr, hb⟩ := hrel
              have HR := Lib.hid hr
              have HW := Lib.hid hb
              clear hr hb
              have a0 := a0'.out _ HW.out
              have a1 := a1'.out _ HW.out
              rw [ca] at a1
              by_cases cm : m < n
              · have m1 : (m : Int) < (n : Int) := by omega
                have m0 : (0 : Int) ≤ (m : Int) := by omega
                have m2 : (m : Int) ≤ 1000 := by have := HN.out; omega
                go_upto_region 11 with fail
                clear a0 a1
                have b0 : ∀ z : Wb wr, z.at.cell? ⟨B, y, none⟩ = some (.slice (some ⟨B + 1 + y, 0, none⟩) n n) := fun z => HB.out.row y cy _ (KB.at HW.out z)
                have b1 : ∀ z : Wb wr, z.at.cell? ⟨B + 1 + y, m, none⟩ = some (.bool (TB y m)) := fun z => HB.out.bit y m cy cm _ (KB.at HW.out z)
                have o0 : ∀ z : Wb wr, z.at.cell? ⟨w.heap.size, k, none⟩ = some (.slice (some ⟨w.heap.size + 1 + k, 0, none⟩) n n) := fun z => HR.out.row k ck _ z.bel
                have o1 : ∀ z : Wb wr, z.at.cell? ⟨w.heap.size + 1 + k, m, none⟩ = some (.bool (midP n TA TB k y m k m)) := fun z => HR.out.bit k m ck cm _ z.bel
                have of : ∀ (z : Wb wr) (i : Nat), z.at.frozen? ⟨w.heap.size + 1 + k, i, none⟩ = false := fun z i => HR.out.free k ck _ z.bel i
                obtain ⟨ob, hob⟩ : ∃ b, b = midP n TA TB k y m k m := ⟨_, rfl⟩
                rw [← hob] at o1
                have PV := Lib.hid (show ∀ v, v = (ob || TB y m) → ∀ z : Wb wr, TabAt (z.at.setCell ⟨w.heap.size + 1 + k, m, none⟩ (.bool v)) w.heap.size n (midP n TA TB k y (m + 1)) from fun v hv z => ((HR.out.below z.bel).put m v ck).eqT (fun i j _ _ => by rw [hv, hob]; exact midP_put _ _ _ _ _ _ ca _ _))
                have BV := Lib.hid (fun (v : Value) (z : Wb wr) => KB.put (KB.at HW.out z) (show w.heap.size ≤ w.heap.size + 1 + k by omega) m v)
                clear hob
                cases ob <;> cases cb : TB y m
                all_goals
                  rw [cb] at b1
                  refine wp_region_wb_tail 21 (by kernel_rfl) (by kernel_rfl) ?_
                  simp only [List.take_succ_cons, List.take_zero, List.drop_succ_cons, List.drop_zero]
                  repeat (go_big_quiet_step (fail))
                  refine wpQuiet_nil ?_
                  rintro _ ⟨x1, rfl⟩
                  clear b0 b1
                  go_wp2_with fail
                  go_roundw
                  case rel => exact ⟨m + 1, by omega, by go_num, PV.out _ (by rw [cb]; rfl) x1, BV.out _ x1⟩
                  case measure => simp [intOf]; omega
              · obtain rfl : m = n := by omega
                have i2 : ¬ (m : Int) < (m : Int) := by omega
                have i3 : decide ((m : Int) < (m : Int)) = false := by simp
                go_wp2_with fail
                clear a0 a1
                go_roundw
                case rel => exact ⟨y + 1, by omega, by go_num, HR.out.eqT (fun i j _ hj => midP_end ca i j hj), HW.out⟩
                case measure => simp [intOf]; omega
        · obtain rfl : y = n := by omega
          have i2 : ¬ (y : Int) < (y : Int) := by omega
          go_wp2_with fail
          go_roundw
          case rel => exact ⟨k + 1, by omega, by go_num, HR.out.eqT (fun i j _ _ => midT_next i j), HW.out⟩
          case measure => simp [intOf]; omega
    · obtain rfl : k = n := by omega
      have i2 : ¬ (k : Int) < (k : Int) := by omega
      go_wp2
      go_ret
      exact ⟨rfl, HR.out.eqT (fun i j hi _ => by unfold midT; rw [if_pos hi]), HW.out⟩

set_option maxRecDepth 100000 in
set_option maxHeartbeats 3200000 in
theorem rsame_any (A B n : Nat) (TA TB : Mx) (w : World) (hn : n ≤ 1000) (hA : TabAt w A n TA) (hB : TabAt w B n TB) :
    Calls Try.prog 59 #[.slice (some ⟨A, 0, none⟩) n n, .slice (some ⟨B, 0, none⟩) n n] w fun e w' => e = .returned (.bool (eqT n TA TB)) ∧ Below w.heap.size w w' := by
  have HA := Lib.hid hA
  have HB := Lib.hid hB
  have HN := Lib.hid hn
  have B0 := Lib.hid (Below.refl w.heap.size w)
  have cn : ((n : Int) != (n : Int)) = false := by simp
  clear hA hB hn
  go_enter Try.func59, Try.ntmps59
  go_wp2_with fail
  go_loopw [5] (fun i wr => ∃ k : Nat, k ≤ n ∧ i = .int .i64 (k : Int) ∧ (∀ i, i < k → ∀ j, j < n → TA i j = TB i j) ∧ Below w.heap.size w wr) (fun i _ => n - (intOf i).toNat)
  case atStart => exact ⟨0, by omega, rfl, fun i hi => absurd hi (by omega), B0.out⟩
  case round =>
    clear B0
    obtain ⟨k, hk, rfl, ht, hb⟩ := hrel
    have HT := Lib.hid ht
    have HW := Lib.hid hb
    clear ht hb
    by_cases ck : k < n
    · have k1 : (k : Int) < (n : Int) := by omega
      have k0 : (0 : Int) ≤ (k : Int) := by omega
      have k2 : (k : Int) ≤ 1000 := by have := HN.out; omega
      go_wp2_with fail
      go_loopw [6] (fun i wr => ∃ m : Nat, m ≤ n ∧ i = .int .i64 (m : Int) ∧ (∀ j, j < m → TA k j = TB k j) ∧ Below w.heap.size w wr) (fun i _ => n - (intOf i).toNat)
      case atStart => exact ⟨0, by omega, rfl, fun i hi => absurd hi (by omega), HW.out⟩
      case round =>
        clear HW
        obtain ⟨m, hm, rfl, hr, hb⟩ := hrel
        have HR := Lib.hid hr
        have HW := Lib.hid hb
        clear hr hb
        by_cases cm : m < n
        · have m1 : (m : Int) < (n : Int) := by omega
          have m0 : (0 : Int) ≤ (m : Int) := by omega
          have m2 : (m : Int) ≤ 1000 := by have := HN.out; omega
          have a0 : ∀ z : Wb wr, z.at.cell? ⟨A, k, none⟩ = some (.slice (some ⟨A + 1 + k, 0, none⟩) n n) := fun z => HA.out.row k ck _ (KB.at HW.out z)
          have a1 : ∀ z : Wb wr, z.at.cell? ⟨A + 1 + k, m, none⟩ = some (.bool (TA k m)) := fun z => HA.out.bit k m ck cm _ (KB.at HW.out z)
          have b0 : ∀ z : Wb wr, z.at.cell? ⟨B, k, none⟩ = some (.slice (some ⟨B + 1 + k, 0, none⟩) n n) := fun z => HB.out.row k ck _ (KB.at HW.out z)
          have b1 : ∀ z : Wb wr, z.at.cell? ⟨B + 1 + k, m, none⟩ = some (.bool (TB k m)) := fun z => HB.out.bit k m ck cm _ (KB.at HW.out z)
          have BN := Lib.hid (show TA k m ≠ TB k m → eqT n TA TB = false from fun h => eqT_no fun q => h (q k ck m cm))
          have BE := Lib.hid (show TA k m = TB k m → ∀ j, j < m + 1 → TA k j = TB k j from fun h j hj => by
            by_cases e : j = m
            · rw [e]; exact h
            · exact HR.out j (by omega))
          go_wp2_with fail
          cases ca : TA k m <;> cases cb : TB k m
          all_goals
            rw [ca] at a1
            rw [cb] at b1
            refine wp_region_wb (by kernel_rfl) (by kernel_rfl) ?_
            repeat (go_big_quiet_step (fail))
            refine wpQuiet_nil ?_
            rintro _ ⟨x1, rfl⟩
            clear a0 a1 b0 b1
            have B3 := Lib.hid (KB.at HW.out x1)
            first
              | (go_wp2_with fail; go_roundw; (case rel => exact ⟨m + 1, by omega, by go_num, BE.out (by rw [ca, cb]), B3.out⟩); (case measure => simp [intOf]; omega))
              | (go_wp2; go_ret; exact ⟨(by rw [BN.out (by rw [ca, cb]; decide)]; rfl), B3.out⟩)
        · obtain rfl : m = n := by omega
          have i2 : ¬ (m : Int) < (m : Int) := by omega
          go_wp2_with fail
          go_roundw
          case rel => exact ⟨k + 1, by omega, by go_num, (fun i hi j hj => by
            by_cases e : i = k
            · rw [e]; exact HR.out j hj
            · exact HT.out i (by omega) j hj), HW.out⟩
          case measure => simp [intOf]; omega
    · obtain rfl : k = n := by omega
      have i2 : ¬ (k : Int) < (k : Int) := by omega
      have D := Lib.hid (eqT_iff.2 HT.out)
      go_wp2
      go_ret
      exact ⟨(by rw [D.out]; rfl), HW.out⟩
end Go.Proofs.Ytjgfnemdklljmaa
