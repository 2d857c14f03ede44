/-
  Layer 4, the walks: register.
  Layer 4, the walks: same.
  Layer 4: asm's tables as facts; the closures that guess gives to kind; kind over each of them.
-/
import Derived.Test.YtebpmngllljkaaaDoorVh
import Derived.Test.YtebpmngllljkaaaDoorVf
set_option linter.unusedSimpArgs false
set_option linter.unusedVariables false
namespace Go.Proofs.YtebpmngllljkaaaDoor
open Go.RowKit GrP GrA

/-- a slice of texts -/
def SlT (W : World) (v : Value) (L : List Tx) : Prop := ∃ a cap, v = .slice (some a) L.length cap ∧ L.length ≤ 4194304 ∧ ∀ i (h : i < L.length), W.cell? (a.add i) = some (sv L[i])
theorem SlT.below {W U : World} {v : Value} {L : List Tx} (h : SlT W v L) (k : Below W.heap.size W U) : SlT U v L := by
  obtain ⟨a, cap, e, hl, hc⟩ := h
  refine ⟨a, cap, e, hl, fun i hi => ?_⟩
  rw [k.cell (World.block_lt_of_cell? W _ (hc i hi))]
  exact hc i hi

set_option maxRecDepth 100000 in
set_option maxHeartbeats 1600000 in
theorem aregister_any (L : List Tx) (v : Value) (i : Nat) (w : World) (ht : TB w) (h : SlT w v L) (hi : i ≤ 8) : Calls Tryd.prog 48 #[v, .int .i64 (i : Int)] w fun e w' => e = .returned (.int .i64 (register L i)) ∧ Below w.heap.size w w' := by
  obtain ⟨a, cap, rfl, hl, hc⟩ := h
  obtain ⟨n, hn⟩ : ∃ n, n = L.length := ⟨_, rfl⟩
  rw [← hn]
  by_cases c : i < n
  · have hci := hc i (by omega)
    obtain ⟨t, ht2⟩ : ∃ t, t = L[i]'(by omega) := ⟨_, rfl⟩
    rw [← ht2] at hci
    have hci : w.cell? (a.add i) = some (.string (strL t)) := hci
    have NO := Lib.hid (numberOf_any t w ht)
    have RS := Lib.hid (show register L i = ((numberOf t).getD 0 : Nat) by rw [register, if_pos (by omega), List.getD_eq_getElem?_getD, List.getElem?_eq_getElem (by omega), ht2]; rfl)
    have c2 : ¬ (n : Int) ≤ (i : Int) := by omega
    have c3 : (i : Int) < (n : Int) := by omega
    have j0 : (0 : Int) ≤ (i : Int) := by omega
    obtain ⟨m, hm⟩ : ∃ m, m = numberOf t := ⟨_, rfl⟩
    rw [← hm] at NO RS
    clear ht hc hn hl hi c ht2 hm
    go_enter Tryd.func48, Tryd.ntmps48
    go_wp2_with fail
    refine NO.out.mono ?_
    rintro e w2 ⟨rfl, hb⟩
    have K2 := Lib.hid hb
    clear hb
    go_wp2
    go_ret
    exact ⟨by rw [RS.out]; rfl, K2.out⟩
  · have RS := Lib.hid (show register L i = 0 by rw [register, if_neg (by omega)])
    have c2 : (n : Int) ≤ (i : Int) := by omega
    clear ht hc hn hl hi c
    go_enter Tryd.func48, Tryd.ntmps48
    go_wp2
    go_ret
    exact ⟨by rw [RS.out]; rfl, Below.refl _ _⟩
end Go.Proofs.YtebpmngllljkaaaDoor

namespace GrA
theorem take_eq_succ {A B : List Tx} {k : Nat} (ha : k < A.length) (hb : k < B.length) (h : A.take k = B.take k) (e : A[k] = B[k]) : A.take (k + 1) = B.take (k + 1) := by
  rw [List.take_succ_eq_append_getElem ha, List.take_succ_eq_append_getElem hb, h, e]
end GrA
namespace Go.Proofs.YtebpmngllljkaaaDoor
open Go.RowKit GrP GrA

set_option maxRecDepth 100000 in
set_option maxHeartbeats 3200000 in
theorem same_any (A B : List Tx) (v u : Value) (w : World) (h : SlT w v A) (g : SlT w u B) : Calls Tryd.prog 35 #[v, u] w fun e w' => e = .returned (.bool (decide (A = B))) ∧ Below w.heap.size w w' := by
  have HA := Lib.hid h
  have HB := Lib.hid g
  obtain ⟨a, cap, rfl, hl, hc⟩ := h
  obtain ⟨b, cap2, rfl, gl, gc⟩ := g
  by_cases c : A.length = B.length
  · obtain ⟨n, hn⟩ : ∃ n, n = A.length := ⟨_, rfl⟩
    have hn2 : n = B.length := by omega
    rw [← hn, ← hn2]
    have HC := Lib.hid hc
    have GC := Lib.hid gc
    have NA := Lib.hid hn
    have NB := Lib.hid hn2
    have n0 : (0 : Int) ≤ (n : Int) := by omega
    have n1 : (n : Int) ≤ 4194304 := by omega
    clear hc gc hl gl c hn hn2 HA HB
    go_enter Tryd.func35, Tryd.ntmps35
    go_wp2_with fail
    go_loopw [5, 13] (fun _ iv wr => ∃ k : Nat, k ≤ n ∧ iv = .int .i64 (k : Int) ∧ A.take k = B.take k ∧ Below w.heap.size w wr) (fun _ iv _ => n - (intOf iv).toNat)
    case atStart => exact ⟨0, by omega, rfl, by simp, Below.refl _ _⟩
    case round =>
      obtain ⟨k, hk, rfl, ht, hbel⟩ := hrel
      have K1 := Lib.hid hbel
      have hn := NA.out
      have hn2 := NB.out
      have k0 : (0 : Int) ≤ (k : Int) := by omega
      by_cases c : k < n
      · have d1 : (k : Int) < (n : Int) := by omega
        obtain ⟨s, hs⟩ : ∃ s, s = A[k]'(by omega) := ⟨_, rfl⟩
        obtain ⟨t, ht2⟩ : ∃ t, t = B[k]'(by omega) := ⟨_, rfl⟩
        have ca : ∀ z : Wb wr, z.at.cell? (a.add k) = some (.string (strL s)) := fun z => by
          have h1 := HC.out k (by omega)
          rw [← hs] at h1
          have kb := hbel.trans (z.bel.mono hbel.size)
          rw [kb.cell (World.block_lt_of_cell? w _ h1)]
          exact h1
        have cb : ∀ z : Wb wr, z.at.cell? (b.add k) = some (.string (strL t)) := fun z => by
          have h1 := GC.out k (by omega)
          rw [← ht2] at h1
          have kb := hbel.trans (z.bel.mono hbel.size)
          rw [kb.cell (World.block_lt_of_cell? w _ h1)]
          exact h1
        have KZ := Lib.hid (fun z : Wb wr => hbel.trans (z.bel.mono hbel.size))
        have ca0 : wr.cell? (a.add k) = some (.string (strL s)) := ca ⟨wr, Below.refl _ _⟩
        have cb0 : wr.cell? (b.add k) = some (.string (strL t)) := cb ⟨wr, Below.refl _ _⟩
        by_cases e : s = t
        · have T1 := Lib.hid (take_eq_succ (by omega) (by omega) ht (by rw [← hs, ← ht2]; exact e))
          have HI := Lib.hid (show k + 1 ≤ n by omega)
          subst e
          clear ht hbel hn hn2 hs ht2 c hk
          go_wp2_with fail
          refine wp_region_wb (by kernel_rfl) (by kernel_rfl) ?_
          repeat (go_big_quiet_step (fail))
          refine wpQuiet_nil ?_
          rintro _ ⟨z, rfl⟩
          have KK := Lib.hid (KZ.out z)
          go_wp2
          go_roundw
          case rel => exact ⟨k + 1, HI.out, by go_num, T1.out, KK.out⟩
          case measure => have := HI.out; simp [intOf] <;> omega
        · have NE := Lib.hid (show decide (A = B) = false by
            rw [decide_eq_false_iff_not]
            intro h
            subst h
            exact e (by rw [hs, ht2]))
          have ne1 : ((strL s).toList == (strL t).toList) = false := by rw [beq_eq_false_iff_ne, ne_eq, str_eq]; exact e
          have ne2 : ((strL s).toList != (strL t).toList) = true := by rw [bne, ne1]; rfl
          clear ht hbel hn hn2 hs ht2 c hk e
          go_wp2_with fail
          refine wp_region_wb (by kernel_rfl) (by kernel_rfl) ?_
          repeat (go_big_quiet_step (fail))
          refine wpQuiet_nil ?_
          rintro _ ⟨z, rfl⟩
          have KK := Lib.hid (KZ.out z)
          go_wp2
          go_ret
          exact ⟨by rw [NE.out]; rfl, KK.out⟩
      · obtain rfl : k = n := by omega
        have E := Lib.hid (show decide (A = B) = true by
          rw [decide_eq_true_iff]
          rw [hn] at ht
          rw [List.take_length, ← hn, hn2, List.take_length] at ht
          exact ht)
        clear ht hbel hn hn2 c hk
        go_wp2
        go_ret
        exact ⟨by rw [E.out]; rfl, K1.out⟩
  · have E := Lib.hid (show decide (A = B) = false by
      rw [decide_eq_false_iff_not]
      intro h
      exact c (by rw [h]))
    have c2 : ¬ (A.length : Int) = (B.length : Int) := by omega
    have c3 : ((A.length : Int) != (B.length : Int)) = true := by simp; omega
    clear hc gc HA HB c
    go_enter Tryd.func35, Tryd.ntmps35
    go_wp2
    go_ret
    exact ⟨by rw [E.out]; rfl, Below.refl _ _⟩
end Go.Proofs.YtebpmngllljkaaaDoor

namespace GrA
theorem idx_some {l : List Tx} {w : Tx} {k : Nat} (hk : k < l.length) (h : l.getD k [] = w) (h2 : ∀ m : Nat, m < k → ¬ l.getD m [] = w) : kindOf l w = (k : Int) := by
  unfold kindOf
  have : l.idxOf? w = some k := by
    unfold List.idxOf?
    rw [List.findIdx?_eq_some_iff_getElem]
    refine ⟨hk, ?_, fun j hj => ?_⟩
    · rw [List.getD_eq_getElem?_getD, List.getElem?_eq_getElem hk] at h
      simpa using h
    · have := h2 j hj
      rw [List.getD_eq_getElem?_getD, List.getElem?_eq_getElem (by omega)] at this
      simpa using this
  rw [this]
  rfl
theorem idx_none {l : List Tx} {w : Tx} (h2 : ∀ m : Nat, m < l.length → ¬ l.getD m [] = w) : kindOf l w = 0 := by
  unfold kindOf
  have : l.idxOf? w = none := by
    unfold List.idxOf?
    rw [List.findIdx?_eq_none_iff]
    intro x hx
    obtain ⟨i, hi, rfl⟩ := List.getElem_of_mem hx
    have := h2 i hi
    rw [List.getD_eq_getElem?_getD, List.getElem?_eq_getElem hi] at this
    simpa using this
  rw [this]
  rfl
end GrA
namespace Go.Proofs.YtebpmngllljkaaaDoor
open Go.RowKit GrP GrA

def TxAt (g : Nat) (T : List Tx) (w : World) : Prop := ∀ i, i < T.length → w.cell? ⟨g, i, none⟩ = some (.string (strL (T.getD i [])))
theorem TxAt.below {g : Nat} {T : List Tx} {w w' : World} (h : TxAt g T w) (k : Below w.heap.size w w') : TxAt g T w' := fun i hi => by
  rw [k.cell (World.block_lt_of_cell? w _ (h i hi))]
  exact h i hi

theorem conds_any (i : Nat) (hi : i < 2) (w : World) (h : TxAt 1 conds w) : Calls Tryd.prog 52 #[.int .i64 (i : Int)] w fun e w' => e = .returned (.string (strL (conds.getD i []))) ∧ w = w' := by
  have c := h i hi
  have i0 : (0 : Int) ≤ (i : Int) := by omega
  have i1 : (i : Int) < 2 := by omega
  obtain ⟨s, hs⟩ : ∃ s, s = conds.getD i [] := ⟨_, rfl⟩
  rw [← hs] at c ⊢
  clear hs h hi
  go_enter Tryd.func52, Tryd.ntmps52
  go_wp2
  go_ret
  exact ⟨rfl, rfl⟩

set_option maxRecDepth 100000 in
set_option maxHeartbeats 1600000 in
theorem kind_conds (x : Tx) (w : World) (h : TxAt 1 conds w) : Calls Tryd.prog 51 #[.int .i64 2, .func (.func 52) #[] #[], .string (strL x)] w fun e w' => e = .returned (.int .i64 (kindOf conds x)) ∧ Below w.heap.size w w' := by
  have TH := Lib.hid h
  clear h
  go_enter Tryd.func51, Tryd.ntmps51
  go_wp2_with fail
  go_loopw [7, 9] (fun _ i wr => ∃ k : Nat, k ≤ 2 ∧ i = .int .i64 (k : Int) ∧ (∀ m : Nat, m < k → ¬ conds.getD m [] = x) ∧ Below w.heap.size w wr) (fun _ i _ => 2 - (intOf i).toNat)
  case atStart => exact ⟨0, by omega, rfl, fun m h => absurd h (by omega), Below.refl _ _⟩
  case round =>
    obtain ⟨k, hk, rfl, hno, hbel⟩ := hrel
    have KB1 := Lib.hid hbel
    have k0 : (0 : Int) ≤ (k : Int) := by omega
    by_cases c : k < 2
    · have RG := Lib.hid (conds_any k c wr (TH.out.below KB1.out))
      have c2 : (k : Int) < 2 := by omega
      obtain ⟨r, hr⟩ : ∃ r, r = conds.getD k [] := ⟨_, rfl⟩
      rw [← hr] at RG
      by_cases e : r = x
      · have EN := Lib.hid (idx_some (l := conds) (k := k) c (by rw [← hr]; exact e) hno)
        clear hno hbel hr hk c
        subst e
        go_wp2_with fail
        refine RG.out.mono ?_
        rintro e w2 ⟨rfl, rfl⟩
        go_wp2
        go_ret
        exact ⟨by rw [EN.out]; rfl, KB1.out⟩
      · have NE : ((strL r).toList == (strL x).toList) = false := by rw [beq_eq_false_iff_ne, ne_eq, str_eq]; exact e
        have N2 := Lib.hid (show ∀ m : Nat, m < k + 1 → ¬ conds.getD m [] = x from fun m hm => by
          by_cases h : m < k
          · exact hno m h
          · rw [show m = k by omega, ← hr]; exact e)
        have HI := Lib.hid (show k + 1 ≤ 2 by omega)
        clear hno hbel hr hk e c
        go_wp2_with fail
        refine RG.out.mono ?_
        rintro e w2 ⟨rfl, rfl⟩
        go_wp2
        go_roundw
        case rel => exact ⟨k + 1, HI.out, by go_num, N2.out, KB1.out⟩
        case measure => have := HI.out; simp [intOf] <;> omega
    · obtain rfl : k = 2 := by omega
      have EN := Lib.hid (idx_none (l := conds) hno)
      clear hno hbel hk c
      go_wp2
      go_ret
      exact ⟨by rw [EN.out]; rfl, KB1.out⟩

theorem bars_any (i : Nat) (hi : i < 16) (w : World) (h : TxAt 2 bars w) : Calls Tryd.prog 53 #[.int .i64 (i : Int)] w fun e w' => e = .returned (.string (strL (bars.getD i []))) ∧ w = w' := by
  have c := h i hi
  have i0 : (0 : Int) ≤ (i : Int) := by omega
  have i1 : (i : Int) < 16 := by omega
  obtain ⟨s, hs⟩ : ∃ s, s = bars.getD i [] := ⟨_, rfl⟩
  rw [← hs] at c ⊢
  clear hs h hi
  go_enter Tryd.func53, Tryd.ntmps53
  go_wp2
  go_ret
  exact ⟨rfl, rfl⟩

set_option maxRecDepth 100000 in
set_option maxHeartbeats 1600000 in
theorem kind_bars (x : Tx) (w : World) (h : TxAt 2 bars w) : Calls Tryd.prog 51 #[.int .i64 16, .func (.func 53) #[] #[], .string (strL x)] w fun e w' => e = .returned (.int .i64 (kindOf bars x)) ∧ Below w.heap.size w w' := by
  have TH := Lib.hid h
  clear h
  go_enter Tryd.func51, Tryd.ntmps51
  go_wp2_with fail
  go_loopw [7, 9] (fun _ i wr => ∃ k : Nat, k ≤ 16 ∧ i = .int .i64 (k : Int) ∧ (∀ m : Nat, m < k → ¬ bars.getD m [] = x) ∧ Below w.heap.size w wr) (fun _ i _ => 16 - (intOf i).toNat)
  case atStart => exact ⟨0, by omega, rfl, fun m h => absurd h (by omega), Below.refl _ _⟩
  case round =>
    obtain ⟨k, hk, rfl, hno, hbel⟩ := hrel
    have KB1 := Lib.hid hbel
    have k0 : (0 : Int) ≤ (k : Int) := by omega
    by_cases c : k < 16
    · have RG := Lib.hid (bars_any k c wr (TH.out.below KB1.out))
      have c2 : (k : Int) < 16 := by omega
      obtain ⟨r, hr⟩ : ∃ r, r = bars.getD k [] := ⟨_, rfl⟩
      rw [← hr] at RG
      by_cases e : r = x
      · have EN := Lib.hid (idx_some (l := bars) (k := k) c (by rw [← hr]; exact e) hno)
        clear hno hbel hr hk c
        subst e
        go_wp2_with fail
        refine RG.out.mono ?_
        rintro e w2 ⟨rfl, rfl⟩
        go_wp2
        go_ret
        exact ⟨by rw [EN.out]; rfl, KB1.out⟩
      · have NE : ((strL r).toList == (strL x).toList) = false := by rw [beq_eq_false_iff_ne, ne_eq, str_eq]; exact e
        have N2 := Lib.hid (show ∀ m : Nat, m < k + 1 → ¬ bars.getD m [] = x from fun m hm => by
          by_cases h : m < k
          · exact hno m h
          · rw [show m = k by omega, ← hr]; exact e)
        have HI := Lib.hid (show k + 1 ≤ 16 by omega)
        clear hno hbel hr hk e c
        go_wp2_with fail
        refine RG.out.mono ?_
        rintro e w2 ⟨rfl, rfl⟩
        go_wp2
        go_roundw
        case rel => exact ⟨k + 1, HI.out, by go_num, N2.out, KB1.out⟩
        case measure => have := HI.out; simp [intOf] <;> omega
    · obtain rfl : k = 16 := by omega
      have EN := Lib.hid (idx_none (l := bars) hno)
      clear hno hbel hk c
      go_wp2
      go_ret
      exact ⟨by rw [EN.out]; rfl, KB1.out⟩

theorem flushes_any (i : Nat) (hi : i < 8) (w : World) (h : TxAt 3 flushes w) : Calls Tryd.prog 54 #[.int .i64 (i : Int)] w fun e w' => e = .returned (.string (strL (flushes.getD i []))) ∧ w = w' := by
  have c := h i hi
  have i0 : (0 : Int) ≤ (i : Int) := by omega
  have i1 : (i : Int) < 8 := by omega
  obtain ⟨s, hs⟩ : ∃ s, s = flushes.getD i [] := ⟨_, rfl⟩
  rw [← hs] at c ⊢
  clear hs h hi
  go_enter Tryd.func54, Tryd.ntmps54
  go_wp2
  go_ret
  exact ⟨rfl, rfl⟩

set_option maxRecDepth 100000 in
set_option maxHeartbeats 1600000 in
theorem kind_flushes (x : Tx) (w : World) (h : TxAt 3 flushes w) : Calls Tryd.prog 51 #[.int .i64 8, .func (.func 54) #[] #[], .string (strL x)] w fun e w' => e = .returned (.int .i64 (kindOf flushes x)) ∧ Below w.heap.size w w' := by
  have TH := Lib.hid h
  clear h
  go_enter Tryd.func51, Tryd.ntmps51
  go_wp2_with fail
  go_loopw [7, 9] (fun _ i wr => ∃ k : Nat, k ≤ 8 ∧ i = .int .i64 (k : Int) ∧ (∀ m : Nat, m < k → ¬ flushes.getD m [] = x) ∧ Below w.heap.size w wr) (fun _ i _ => 8 - (intOf i).toNat)
  case atStart => exact ⟨0, by omega, rfl, fun m h => absurd h (by omega), Below.refl _ _⟩
  case round =>
    obtain ⟨k, hk, rfl, hno, hbel⟩ := hrel
    have KB1 := Lib.hid hbel
    have k0 : (0 : Int) ≤ (k : Int) := by omega
    by_cases c : k < 8
    · have RG := Lib.hid (flushes_any k c wr (TH.out.below KB1.out))
      have c2 : (k : Int) < 8 := by omega
      obtain ⟨r, hr⟩ : ∃ r, r = flushes.getD k [] := ⟨_, rfl⟩
      rw [← hr] at RG
      by_cases e : r = x
      · have EN := Lib.hid (idx_some (l := flushes) (k := k) c (by rw [← hr]; exact e) hno)
        clear hno hbel hr hk c
        subst e
        go_wp2_with fail
        refine RG.out.mono ?_
        rintro e w2 ⟨rfl, rfl⟩
        go_wp2
        go_ret
        exact ⟨by rw [EN.out]; rfl, KB1.out⟩
      · have NE : ((strL r).toList == (strL x).toList) = false := by rw [beq_eq_false_iff_ne, ne_eq, str_eq]; exact e
        have N2 := Lib.hid (show ∀ m : Nat, m < k + 1 → ¬ flushes.getD m [] = x from fun m hm => by
          by_cases h : m < k
          · exact hno m h
          · rw [show m = k by omega, ← hr]; exact e)
        have HI := Lib.hid (show k + 1 ≤ 8 by omega)
        clear hno hbel hr hk e c
        go_wp2_with fail
        refine RG.out.mono ?_
        rintro e w2 ⟨rfl, rfl⟩
        go_wp2
        go_roundw
        case rel => exact ⟨k + 1, HI.out, by go_num, N2.out, KB1.out⟩
        case measure => have := HI.out; simp [intOf] <;> omega
    · obtain rfl : k = 8 := by omega
      have EN := Lib.hid (idx_none (l := flushes) hno)
      clear hno hbel hk c
      go_wp2
      go_ret
      exact ⟨by rw [EN.out]; rfl, KB1.out⟩

theorem systems_any (i : Nat) (hi : i < 3) (w : World) (h : TxAt 4 systems w) : Calls Tryd.prog 55 #[.int .i64 (i : Int)] w fun e w' => e = .returned (.string (strL (systems.getD i []))) ∧ w = w' := by
  have c := h i hi
  have i0 : (0 : Int) ≤ (i : Int) := by omega
  have i1 : (i : Int) < 3 := by omega
  obtain ⟨s, hs⟩ : ∃ s, s = systems.getD i [] := ⟨_, rfl⟩
  rw [← hs] at c ⊢
  clear hs h hi
  go_enter Tryd.func55, Tryd.ntmps55
  go_wp2
  go_ret
  exact ⟨rfl, rfl⟩

set_option maxRecDepth 100000 in
set_option maxHeartbeats 1600000 in
theorem kind_systems (x : Tx) (w : World) (h : TxAt 4 systems w) : Calls Tryd.prog 51 #[.int .i64 3, .func (.func 55) #[] #[], .string (strL x)] w fun e w' => e = .returned (.int .i64 (kindOf systems x)) ∧ Below w.heap.size w w' := by
  have TH := Lib.hid h
  clear h
  go_enter Tryd.func51, Tryd.ntmps51
  go_wp2_with fail
  go_loopw [7, 9] (fun _ i wr => ∃ k : Nat, k ≤ 3 ∧ i = .int .i64 (k : Int) ∧ (∀ m : Nat, m < k → ¬ systems.getD m [] = x) ∧ Below w.heap.size w wr) (fun _ i _ => 3 - (intOf i).toNat)
  case atStart => exact ⟨0, by omega, rfl, fun m h => absurd h (by omega), Below.refl _ _⟩
  case round =>
    obtain ⟨k, hk, rfl, hno, hbel⟩ := hrel
    have KB1 := Lib.hid hbel
    have k0 : (0 : Int) ≤ (k : Int) := by omega
    by_cases c : k < 3
    · have RG := Lib.hid (systems_any k c wr (TH.out.below KB1.out))
      have c2 : (k : Int) < 3 := by omega
      obtain ⟨r, hr⟩ : ∃ r, r = systems.getD k [] := ⟨_, rfl⟩
      rw [← hr] at RG
      by_cases e : r = x
      · have EN := Lib.hid (idx_some (l := systems) (k := k) c (by rw [← hr]; exact e) hno)
        clear hno hbel hr hk c
        subst e
        go_wp2_with fail
        refine RG.out.mono ?_
        rintro e w2 ⟨rfl, rfl⟩
        go_wp2
        go_ret
        exact ⟨by rw [EN.out]; rfl, KB1.out⟩
      · have NE : ((strL r).toList == (strL x).toList) = false := by rw [beq_eq_false_iff_ne, ne_eq, str_eq]; exact e
        have N2 := Lib.hid (show ∀ m : Nat, m < k + 1 → ¬ systems.getD m [] = x from fun m hm => by
          by_cases h : m < k
          · exact hno m h
          · rw [show m = k by omega, ← hr]; exact e)
        have HI := Lib.hid (show k + 1 ≤ 3 by omega)
        clear hno hbel hr hk e c
        go_wp2_with fail
        refine RG.out.mono ?_
        rintro e w2 ⟨rfl, rfl⟩
        go_wp2
        go_roundw
        case rel => exact ⟨k + 1, HI.out, by go_num, N2.out, KB1.out⟩
        case measure => have := HI.out; simp [intOf] <;> omega
    · obtain rfl : k = 3 := by omega
      have EN := Lib.hid (idx_none (l := systems) hno)
      clear hno hbel hk c
      go_wp2
      go_ret
      exact ⟨by rw [EN.out]; rfl, KB1.out⟩

end Go.Proofs.YtebpmngllljkaaaDoor
