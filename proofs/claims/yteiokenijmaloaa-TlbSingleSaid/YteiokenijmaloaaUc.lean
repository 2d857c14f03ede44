/-
  Layer 9, the walks: the search in a row of entries.
-/
import Derived.Test.YteiokenijmaloaaUb
set_option linter.unusedSimpArgs false
set_option linter.unusedVariables false
namespace GrT
open Go
def entsC (L : List E) : List Value := L.flatMap fun e => [.int .i64 e.space, .int .u64 e.page, .int .u64 e.first, .int .u64 e.last]
theorem entsC_len (L : List E) : (entsC L).length = L.length * 4 := by
  induction L with
  | nil => rfl
  | cons p L ih => show (_ :: _ :: _ :: _ :: entsC L).length = _; simp [ih]; omega
theorem entsC_app (A B : List E) : entsC (A ++ B) = entsC A ++ entsC B := List.flatMap_append
theorem entsC_get (L : List E) (k : Nat) (h : k < L.length) : (entsC L)[k * 4]? = some (.int .i64 L[k].space) ∧ (entsC L)[k * 4 + 1]? = some (.int .u64 L[k].page) ∧ (entsC L)[k * 4 + 2]? = some (.int .u64 L[k].first) ∧ (entsC L)[k * 4 + 3]? = some (.int .u64 L[k].last) := by
  induction L generalizing k with
  | nil => simp at h
  | cons p L ih =>
    have e : entsC (p :: L) = .int .i64 p.space :: .int .u64 p.page :: .int .u64 p.first :: .int .u64 p.last :: entsC L := rfl
    rw [e]
    cases k with
    | zero => simp
    | succ k =>
      have := ih k (by simp at h; omega)
      rw [show (k + 1) * 4 = k * 4 + 4 by omega]
      simpa using this
theorem entsC_take (L : List E) (n : Nat) : (entsC L).take (n * 4) = entsC (L.take n) := by
  induction L generalizing n with
  | nil => simp [entsC]
  | cons p L ih =>
    have e : entsC (p :: L) = .int .i64 p.space :: .int .u64 p.page :: .int .u64 p.first :: .int .u64 p.last :: entsC L := rfl
    cases n with
    | zero => simp [entsC]
    | succ n => rw [e, show (n + 1) * 4 = n * 4 + 1 + 1 + 1 + 1 by omega]; simp only [List.take_succ_cons, ih]; rfl
theorem entsC_drop (L : List E) (n : Nat) : (entsC L).drop (n * 4) = entsC (L.drop n) := by
  induction L generalizing n with
  | nil => simp [entsC]
  | cons p L ih =>
    have e : entsC (p :: L) = .int .i64 p.space :: .int .u64 p.page :: .int .u64 p.first :: .int .u64 p.last :: entsC L := rfl
    cases n with
    | zero => simp
    | succ n => rw [e, show (n + 1) * 4 = n * 4 + 1 + 1 + 1 + 1 by omega]; simp only [List.drop_succ_cons, ih]
theorem entsC_one (L : List E) : ∀ u ∈ entsC L, u.oneCell' = true := fun u hu => by
  obtain ⟨p, _, hp⟩ := List.mem_flatMap.1 hu
  simp only [List.mem_cons, List.not_mem_nil, or_false] at hp
  rcases hp with rfl | rfl | rfl | rfl <;> rfl
end GrT
namespace Go.Proofs.Yteiokenijmaloaa
open Go.RowKit GrT

/-- a slice of entries -/
def SlE (W : World) (v : Value) (L : List E) : Prop := SlAt W v 4 L.length (entsC L)
theorem SlE.below {W U : World} {v : Value} {L : List E} (h : SlE W v L) (k : Below W.heap.size W U) : SlE U v L := SlAt.below h k
theorem SlE.at {W : World} {a : Addr} {n c : Nat} {L : List E} (h : SlE W (.slice (some a) n c) L) (k : Nat) (hk : k < L.length) : W.cell? (a.add (k * 4)) = some (.int .i64 L[k].space) ∧ W.cell? ⟨(a.add (k * 4)).block, (a.add (k * 4)).off + 1, none⟩ = some (.int .u64 L[k].page) ∧ W.cell? ⟨(a.add (k * 4)).block, (a.add (k * 4)).off + 2, none⟩ = some (.int .u64 L[k].first) ∧ W.cell? ⟨(a.add (k * 4)).block, (a.add (k * 4)).off + 3, none⟩ = some (.int .u64 L[k].last) := by
  obtain ⟨_, ⟨e, _⟩ | ⟨b, cap, e, _, _, hx⟩⟩ := h
  · cases e
  · injection e with e1 e2 e3
    injection e1 with e1
    subst e1
    obtain ⟨g0, g1, g2, g3⟩ := entsC_get L k hk
    have hr : ∀ r, 0 < r → (⟨(a.add (k * 4)).block, (a.add (k * 4)).off + r, none⟩ : Addr) = a.add (k * 4 + r) := fun r h => by
      rw [← add_add]
      obtain ⟨x, hx⟩ : ∃ x, x = a.add (k * 4) := ⟨_, rfl⟩
      rw [← hx]
      unfold Addr.add
      rw [if_neg (by omega)]
    exact ⟨hx _ _ g0, by rw [hr 1 (by omega)]; exact hx _ _ g1, by rw [hr 2 (by omega)]; exact hx _ _ g2, by rw [hr 3 (by omega)]; exact hx _ _ g3⟩
theorem SlE.len {W : World} {a : Option Addr} {n c : Nat} {L : List E} (h : SlE W (.slice a n c) L) : n = L.length := by
  obtain ⟨_, ⟨e, h0⟩ | ⟨b, cap, e, _⟩⟩ := h
  · injection e with e1 e2 e3; omega
  · injection e with e1 e2 e3
theorem SlE.addr {W : World} {p : Option Addr} {n c : Nat} {L : List E} (h : SlE W (.slice p n c) L) (hn : 0 < n) : ∃ a, p = some a := by
  obtain ⟨_, ⟨e, h0⟩ | ⟨a, cp, e, _⟩⟩ := h
  · injection e with e1 e2 e3
    omega
  · injection e with e1 e2 e3
    exact ⟨a, e1⟩
theorem half_eq (i j : Nat) (h : i + j ≤ 2000000) : ((i : Int) + (j : Int)) / 2 = (((i + j) / 2 : Nat) : Int) := by simp

set_option maxRecDepth 100000 in
set_option maxHeartbeats 6400000 in
theorem search_any (v : Value) (L : List E) (e : E) (w : World) (h : SlE w v L) (hr : Rise L) (hn : L.length ≤ 1000) :
    Calls Try.prog 43 #[v, ev e, .func (.func 44) #[] #[]] w fun x w' => x = .returned (.tuple #[.int .i64 (posE L e : Nat), .bool (decide (L[posE L e]? = some e))]) ∧ Below w.heap.size w w' := by
  obtain ⟨p, n, cp, rfl⟩ := SlAt.form h
  have HN := Lib.hid h.len
  have HS := Lib.hid h
  have HR := Lib.hid hr
  have q9 : n ≤ 1000 := by have := h.len; omega
  have CMP := Lib.hid (fun (x : E) (w : World) => compare_any x e w)
  unfold ev at CMP ⊢
  clear h hr hn
  go_enter Try.func43, Try.ntmps43
  go_upto_region 1 with fail
  have RB := Lib.hid (Row.new w [.int .i64 e.space, .int .u64 e.page, .int .u64 e.first, .int .u64 e.last] 25)
  have KW := Lib.hid (KB.alloc (Below.refl w.heap.size w) (.cells ([.int .i64 e.space, .int .u64 e.page, .int .u64 e.first, .int .u64 e.last] : List Value).toArray 25))
  obtain ⟨V, hV⟩ : ∃ V, V = w.alloc (.cells ([.int .i64 e.space, .int .u64 e.page, .int .u64 e.first, .int .u64 e.last] : List Value).toArray 25) := ⟨_, rfl⟩
  rw [← hV] at RB KW
  rw [show w.alloc (.cells #[.int .i64 e.space, .int .u64 e.page, .int .u64 e.first, .int .u64 e.last] 25) = V from hV.symm]
  clear hV
  go_wp2_with fail
  go_loopw [9, 10] (fun iv jv wr => ∃ i j : Nat, i ≤ j ∧ j ≤ n ∧ iv = .int .i64 (i : Int) ∧ jv = .int .i64 (j : Int) ∧ (∀ q (hq : q < L.length), q < i → ltP L[q] e) ∧ (∀ q (hq : q < L.length), j ≤ q → ¬ ltP L[q] e) ∧ Below V.heap.size V wr) (fun iv jv _ => (intOf jv - intOf iv).toNat)
  case atStart => exact ⟨0, n, by omega, by omega, rfl, rfl, fun q hq h => absurd h (by omega), fun q hq h => absurd hq (by have := HN.out; omega), Below.refl _ _⟩
  case round =>
    obtain ⟨i, j, hij, hj, rfl, rfl, hlo, hhi, hb⟩ := hrel
    have LO := Lib.hid hlo
    have HI := Lib.hid hhi
    have BB := Lib.hid hb
    clear hlo hhi hb
    have bx : ∀ y : Wb wr, Row y.at w.heap.size [.int .i64 e.space, .int .u64 e.page, .int .u64 e.first, .int .u64 e.last] 25 := fun y => RB.out.below (BB.out.trans (y.bel.mono BB.out.size))
    have b0 : ∀ y : Wb wr, y.at.cell? ⟨w.heap.size, 0, none⟩ = some (.int .i64 e.space) := fun y => (bx y).cell 0
    have b1 : ∀ y : Wb wr, y.at.cell? ⟨w.heap.size, 1, none⟩ = some (.int .u64 e.page) := fun y => (bx y).cell 1
    have b2 : ∀ y : Wb wr, y.at.cell? ⟨w.heap.size, 2, none⟩ = some (.int .u64 e.first) := fun y => (bx y).cell 2
    have b3 : ∀ y : Wb wr, y.at.cell? ⟨w.heap.size, 3, none⟩ = some (.int .u64 e.last) := fun y => (bx y).cell 3
    clear bx
    by_cases cij : i < j
    · obtain ⟨m, hm⟩ : ∃ m, m = (i + j) / 2 := ⟨_, rfl⟩
      have hm1 : i ≤ m := by omega
      have hm2 : m < j := by omega
      have lm : m < L.length := by have := HN.out; omega
      obtain ⟨a, rfl⟩ := SlE.addr HS.out (by omega)
      have AT := Lib.hid (fun y : Wb wr => (HS.out.below (KW.out.trans ((BB.out.trans (y.bel.mono BB.out.size)).mono KW.out.size))).at m lm)
      have UP := Lib.hid (fun (c : ltP L[m] e) => show ∀ q (hq : q < L.length), q < m + 1 → ltP L[q] e from fun q hq h => half_up HR.out e lm c hq (by omega))
      have DN := Lib.hid (fun (c : ¬ ltP L[m] e) => show ∀ q (hq : q < L.length), m ≤ q → ¬ ltP L[q] e from fun q hq h => half_down HR.out e lm c hq h)
      have CV := Lib.hid (cmp_neg L[m] e)
      have CC := Lib.hid (fun w => CMP.out L[m] w)
      obtain ⟨x, hx⟩ : ∃ x, x = L[m] := ⟨_, rfl⟩
      rw [← hx] at AT UP DN CV CC
      clear hx lm
      obtain ⟨cv, hcv⟩ : ∃ cv, cv = cmp x e := ⟨_, rfl⟩
      rw [← hcv] at CV CC
      clear hcv
      obtain ⟨x0, x1, x2, x3⟩ := x
      simp only at AT CC
      have a0 := fun y : Wb wr => (AT.out y).1
      have a1 := fun y : Wb wr => (AT.out y).2.1
      have a2 := fun y : Wb wr => (AT.out y).2.2.1
      have a3 := fun y : Wb wr => (AT.out y).2.2.2
      clear AT
      have i0 : (0 : Int) ≤ (i : Int) := by omega
      have i1 : (i : Int) ≤ 1000 := by omega
      have j0 : (0 : Int) ≤ (j : Int) := by omega
      have j1 : (j : Int) ≤ 1000 := by omega
      have dij : decide ((i : Int) < (j : Int)) = true := by simp; omega
      have m0 : (0 : Int) ≤ (m : Int) := by omega
      have m1 : (m : Int) < (n : Int) := by omega
      have m2 : (n : Int) ≤ 1000 := by omega
      have hh : ((i : Int) + (j : Int)) / 2 = (m : Int) := by rw [hm]; simp
      clear hm
      by_cases c : cv < 0
      · have dc : decide (cv < 0) = true := by simpa using c
        have UU := Lib.hid (UP.out (CV.out.1 c))
        clear c
        go_wp2_with fail
        refine wp_region_wb (by kernel_rfl) (by kernel_rfl) ?_
        repeat (go_big_quiet_step ((go_at_call 44; exact Calls.wb (CC.out _))))
        refine wpQuiet_nil ?_
        rintro _ ⟨y, rfl⟩
        go_wp2
        go_roundw
        case rel => exact ⟨m + 1, j, by omega, by omega, by go_num, rfl, UU.out, HI.out, BB.out.trans (y.bel.mono BB.out.size)⟩
        case measure => simp [intOf]; omega
      · have dc : decide (cv < 0) = false := by simpa using c
        have UU := Lib.hid (DN.out (fun h => c (CV.out.2 h)))
        clear c
        go_wp2_with fail
        refine wp_region_wb (by kernel_rfl) (by kernel_rfl) ?_
        repeat (go_big_quiet_step ((go_at_call 44; exact Calls.wb (CC.out _))))
        refine wpQuiet_nil ?_
        rintro _ ⟨y, rfl⟩
        go_wp2
        go_roundw
        case rel => exact ⟨i, m, by omega, by omega, rfl, rfl, LO.out, UU.out, BB.out.trans (y.bel.mono BB.out.size)⟩
        case measure => simp [intOf]; omega
    · obtain rfl : i = j := by omega
      have PO := Lib.hid (show posE L e = i from posE_eq e L i (by have := HN.out; omega) (fun q hq => LO.out q (by have := HN.out; omega) hq) (fun hq => HI.out i hq (Nat.le_refl _)))
      have KZ := Lib.hid (fun y : Wb wr => show Below w.heap.size w y.at from KW.out.trans ((BB.out.trans (y.bel.mono BB.out.size)).mono KW.out.size))
      have i0 : (0 : Int) ≤ (i : Int) := by omega
      have dij : decide ((i : Int) < (i : Int)) = false := by simp
      by_cases ci : i < n
      · have lm : i < L.length := by have := HN.out; omega
        obtain ⟨a, rfl⟩ := SlE.addr HS.out (by omega)
        have AT := Lib.hid (fun y : Wb wr => (HS.out.below (KZ.out y)).at i lm)
        have CV := Lib.hid (cmp_zero L[i] e)
        have LI := Lib.hid (show L[i]? = some L[i] from List.getElem?_eq_getElem lm)
        have CC := Lib.hid (fun w => CMP.out L[i] w)
        obtain ⟨x, hx⟩ : ∃ x, x = L[i] := ⟨_, rfl⟩
        rw [← hx] at AT CV CC LI
        clear hx lm
        obtain ⟨cv, hcv⟩ : ∃ cv, cv = cmp x e := ⟨_, rfl⟩
        rw [← hcv] at CV CC
        clear hcv
        have DD := Lib.hid (show decide (L[posE L e]? = some e) = (cv == 0) by
          rw [PO.out, LI.out, Bool.eq_iff_iff, decide_eq_true_iff, beq_iff_eq, CV.out]
          exact ⟨fun h => by injection h, fun h => by rw [h]⟩)
        obtain ⟨x0, x1, x2, x3⟩ := x
        simp only at AT CC
        have a0 := fun y : Wb wr => (AT.out y).1
        have a1 := fun y : Wb wr => (AT.out y).2.1
        have a2 := fun y : Wb wr => (AT.out y).2.2.1
        have a3 := fun y : Wb wr => (AT.out y).2.2.2
        clear AT
        have m1 : (i : Int) < (n : Int) := by omega
        have d2 : decide ((i : Int) < (n : Int)) = true := by simp; omega
        go_wp2_with fail
        refine wp_region_wb (by kernel_rfl) (by kernel_rfl) ?_
        repeat (go_big_quiet_step ((go_at_call 44; exact Calls.wb (CC.out _))))
        refine wpQuiet_nil ?_
        rintro _ ⟨y, rfl⟩
        go_wp2
        exact bodyPost_ret (v := .tuple #[.int .i64 (i : Int), .bool (cv == 0)]) (by simp [results, Try.results43, go_sem, *]) rfl ⟨by rw [DD.out, PO.out], KZ.out y⟩
      · have d2 : decide ((i : Int) < (n : Int)) = false := by simp; omega
        have DD := Lib.hid (show decide (L[posE L e]? = some e) = false by rw [PO.out, List.getElem?_eq_none (by have := HN.out; omega)]; simp)
        go_wp2_with fail
        refine wp_region_wb (by kernel_rfl) (by kernel_rfl) ?_
        repeat (go_big_quiet_step (fail))
        refine wpQuiet_nil ?_
        rintro _ ⟨y, rfl⟩
        go_wp2
        exact bodyPost_ret (v := .tuple #[.int .i64 (i : Int), .bool false]) (by simp [results, Try.results43, go_sem, *]) rfl ⟨by rw [DD.out, PO.out], KZ.out y⟩
end Go.Proofs.Yteiokenijmaloaa
