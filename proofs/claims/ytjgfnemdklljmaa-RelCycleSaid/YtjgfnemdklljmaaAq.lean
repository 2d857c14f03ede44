/-
  Layer 1, the walks: least, sorted, Acyclic, Order; the page's Order.
-/
import Derived.Test.YtjgfnemdklljmaaAp
import Derived.Test.YtjgfnemdklljmaaAm
set_option linter.unusedSimpArgs false
set_option linter.unusedVariables false
namespace GrR
open Go
def intC (n : Nat) (f : Nat → Int) : List Value := (List.range n).map fun j => .int .i64 (f j)
theorem intC_get {n : Nat} {f : Nat → Int} {j : Nat} (h : j < n) : (intC n f)[j]? = some (.int .i64 (f j)) := by simp [intC, h]
theorem intC_set (n : Nat) (f : Nat → Int) (j : Nat) (b : Int) : (intC n f).set j (.int .i64 b) = intC n (fun k => if k = j then b else f k) := by
  unfold intC
  apply List.ext_getElem?
  intro k
  rw [List.getElem?_set]
  by_cases c : j = k
  · subst c
    by_cases d : j < n
    · simp [d]
    · simp [d]
  · rw [if_neg c]
    by_cases d : k < n
    · have : ¬ k = j := by omega
      simp [d, this]
    · simp [d]
theorem intC_ext {n : Nat} {f g : Nat → Int} (h : ∀ i, i < n → f i = g i) : intC n f = intC n g := List.map_congr_left fun i hi => by rw [h i (List.mem_range.1 hi)]
def natC (L : List Nat) : List Value := L.map fun a : Nat => Value.int .i64 (a : Int)
theorem optI_find (f : Nat → Int) (k : Nat) (h0 : ∀ a, a < k → f a ≠ 0) (n : Nat) (hk : k < n) (h : f k = 0) : (List.range n).find? (fun a => f a == 0) = some k := by
  rw [show n = k + (n - k) by omega, List.range_add, List.find?_append]
  have : (List.range k).find? (fun a => f a == 0) = none := List.find?_eq_none.2 fun x hx => by simp [h0 x (List.mem_range.1 hx)]
  rw [this, show n - k = (n - k - 1) + 1 by omega, List.range_succ_eq_map]
  simp [h]
theorem optI_none (f : Nat → Int) (n : Nat) (h0 : ∀ a, a < n → f a ≠ 0) : (List.range n).find? (fun a => f a == 0) = none := List.find?_eq_none.2 fun x hx => by simp [h0 x (List.mem_range.1 hx)]
def cntK (T : Mx) (k b : Nat) : Nat := (List.range k).countP fun a => T a b
theorem cntK_succ (T : Mx) (k b : Nat) : cntK T (k + 1) b = cntK T k b + (T k b).toNat := by
  unfold cntK
  rw [List.range_succ, List.countP_append]
  cases h : T k b <;> simp [h]
theorem cntK_le (T : Mx) (k b : Nat) : cntK T k b ≤ k := by
  have := List.countP_le_length (p := fun a => T a b) (l := List.range k)
  simpa [cntK] using this
theorem ah_start (n : Nat) (T : Mx) : AhOk n T [] (fun b => (cntK T n b : Int)) := by
  refine ⟨by simp, fun a _ _ => ?_, fun a _ => by simp⟩
  unfold cntK cntA
  simp
end GrR
namespace Go.Proofs.Ytjgfnemdklljmaa
open Go.RowKit GrR

theorem intInfo : (Try.prog.info? 3).map (fun i => (i.zero, i.size, i.bytes)) = some (some (.int .i64 0), 1, 8) := by kernel_rfl
theorem make_ints (n : Nat) (hn : n ≤ 1000) (w : World) : (Instr.makeSlice 50 (.int .i64 (n : Int)) (.int .i64 (n : Int))).run Try.prog w = .ok (.slice (some ⟨w.heap.size, 0, none⟩) n n) (w.alloc (.cells (intC n (fun _ => 0)).toArray 3)) := by
  obtain ⟨i0, hi, hz0, hz1, hz2⟩ := info_parts intInfo
  have := run_make (P := Try.prog) w 50 3 i0 _ Try.underlying50 hi hz0 .i64 .i64 (n : Int) (n : Int) (by omega) (Int.le_refl _) (by rw [hz2]; omega) (by omega)
  rw [this]
  simp only [Int.toNat_natCast, hz1]
  rw [show (Value.int .i64 0).cells = #[Value.int .i64 0] from rfl, made_one]
  simp [intC, List.map_const']
theorem make_room (n : Nat) (hn : n ≤ 1000) (w : World) (base : Nat) (hb : base ≤ w.heap.size) : ∃ w1, (Instr.makeSlice 50 (.int .i64 0) (.int .i64 (n : Int))).run Try.prog w = .ok (.slice (some ⟨w.heap.size, 0, none⟩) 0 n) w1 ∧ w1.ownsRow base 3 1 (.slice (some ⟨w.heap.size, 0, none⟩) 0 n) 0 [] ∧ w.grownBy w1 none := by
  obtain ⟨i0, hi, hz0, hz1, hz2⟩ := info_parts intInfo
  exact run_make_own (P := Try.prog) w base 50 3 i0 _ 1 Try.underlying50 hi hz0 hz1 .i64 .i64 n (by rw [hz2]; omega) (by unfold maxLen; omega) hb
theorem Row.grownR {V U : World} {B : Nat} {L : List Value} {TT : TypeId} {row : Option Nat} (h : Row V B L TT) (hg : V.grownBy U row) (hne : some B ≠ row) : Row U B L TT := (hg.block B h.lt hne).trans h
theorem one_new' (w : World) (v : Value) (T : TypeId) : ∀ (j : Nat) (u : Value), [v][j]? = some u → (w.alloc (.cells #[v] T)).cell? (({ block := w.heap.size, off := 0 } : Addr).add j) = some u := app_cell w v T
theorem one_int' (k : IntKind) (n : Int) : ∀ u ∈ [Value.int k n], u.oneCell' = true := by
  intro u hu
  simp at hu
  subst hu
  rfl

set_option maxRecDepth 100000 in
set_option maxHeartbeats 1600000 in
theorem least_any (H n : Nat) (f : Nat → Int) (w : World) (hn : n ≤ 1000) (h : Row w H (intC n f) 3) :
    Calls Try.prog 63 #[.slice (some ⟨H, 0, none⟩) n n] w fun e w' => e = .returned (.int .i64 (optI ((List.range n).find? fun a => f a == 0))) ∧ w = w' := by
  have HH := Lib.hid h
  clear h
  go_enter Try.func63, Try.ntmps63
  go_wp2_with fail
  go_loop [7] (fun i => ∃ k : Nat, k ≤ n ∧ i = .int .i64 (k : Int) ∧ ∀ a, a < k → f a ≠ 0) (fun i => n - (intOf i).toNat)
  case atStart => exact ⟨0, by omega, rfl, fun i hi => absurd hi (by omega)⟩
  case round =>
    obtain ⟨k, hk, rfl, ht⟩ := hrel
    have HT := Lib.hid ht
    clear ht
    by_cases ck : k < n
    · have k1 : (k : Int) < (n : Int) := by omega
      have k0 : (0 : Int) ≤ (k : Int) := by omega
      have c0 : w.cell? ⟨H, k, none⟩ = some (.int .i64 (f k)) := by rw [HH.out.cell, intC_get ck]
      obtain ⟨v, hv⟩ : ∃ v, v = f k := ⟨_, rfl⟩
      rw [← hv] at c0
      by_cases c : v = 0
      · have D := Lib.hid (optI_find f k HT.out n ck (by rw [← hv, c]))
        have c1 : (v == (0 : Int)) = true := by simpa using c
        clear hv c
        go_wp2
        go_ret
        exact ⟨(by rw [D.out]; rfl), rfl⟩
      · have HV := Lib.hid hv
        have c1 : (v == (0 : Int)) = false := by simpa using c
        have HC := Lib.hid c
        clear hv c
        go_wp2_with fail
        go_round
        case rel => exact ⟨k + 1, by omega, by go_num, fun a ha => by
          by_cases e : a = k
          · rw [e, ← HV.out]; exact HC.out
          · exact HT.out a (by omega)⟩
        case measure => simp [intOf]; omega
    · obtain rfl : k = n := by omega
      have i2 : ¬ (k : Int) < (k : Int) := by omega
      have D := Lib.hid (optI_none f k HT.out)
      go_wp2
      go_ret
      exact ⟨(by rw [D.out]; rfl), rfl⟩

def SortPost (n : Nat) (T : Mx) (w : World) (e : Ending) (w' : World) : Prop :=
  ∃ v, e = .returned v ∧ SlAt w' v 1 (sortL n T n []).length (natC (sortL n T n [])) ∧ Below w.heap.size w w'
set_option maxRecDepth 100000 in
set_option maxHeartbeats 12800000 in
theorem sorted_any (B n : Nat) (T : Mx) (w : World) (h : RelAt w B n T) :
    Calls Try.prog 60 #[.pointer (some ⟨B, 0, none⟩)] w (SortPost n T w) := by
  obtain ⟨i0, hi, hz0, hz1, hz2⟩ := info_parts intInfo
  have HR := Lib.hid h
  have M := Lib.hid h.most
  have SU := Lib.hid h.sup
  have LT := Lib.hid h.lt
  have SZ := Lib.hid (size_any B n T w h)
  have MK := make_ints n (by have := M.out; omega) w
  have R0 := Lib.hid (Row.new w (intC n (fun _ => 0)) 3)
  have B0 := Lib.hid (KB.alloc (Below.refl _ w) (.cells (intC n (fun _ => 0)).toArray 3))
  clear h
  go_enter Try.func60, Try.ntmps60
  go_wp2_with fail
  refine SZ.out.mono ?_
  rintro e w1 ⟨rfl, rfl⟩
  clear SZ
  go_upto_region 3 with fail
  clear MK
  go_wp2_with fail
  go_loopw [5, 6, 15] (fun _ _ i wr => ∃ k : Nat, k ≤ n ∧ i = .int .i64 (k : Int) ∧ Row wr w.heap.size (intC n (fun b => (cntK T k b : Int))) 3 ∧ Below w.heap.size w wr) (fun _ _ i _ => n - (intOf i).toNat)
  case atStart => exact ⟨0, by omega, rfl, R0.out, B0.out⟩
  case round =>
    clear R0 B0
    obtain ⟨k, hk, rfl, hr, hb⟩ := hrel
    have RR := Lib.hid hr
    have HB := Lib.hid hb
    clear hr hb
    by_cases ck : k < n
    · have k1 : (k : Int) < (n : Int) := by omega
      have k0 : (0 : Int) ≤ (k : Int) := by omega
      have k2 : (k : Int) < 128 := by have := M.out; omega
      go_upto_region 7 with fail
      go_loopw [6, 19] (fun _ i wr => ∃ m : Nat, m ≤ n ∧ i = .int .i64 (m : Int) ∧ Row wr w.heap.size (intC n (fun b => (cntK T k b : Int) + (if b < m then ((T k b).toNat : Int) else 0))) 3 ∧ Below w.heap.size w wr) (fun _ i _ => n - (intOf i).toNat)
      case atStart => exact ⟨0, by omega, rfl, by rw [intC_ext (g := fun b => (cntK T k b : Int)) (fun i _ => by simp)]; exact RR.out, HB.out⟩
      case round =>
        clear RR HB
        obtain ⟨m, hm, rfl, hr, hb⟩ := hrel
        have RR := Lib.hid hr
        have HB := Lib.hid hb
        clear hr hb
        by_cases cm : m < n
        · have m1 : (m : Int) < (n : Int) := by omega
          have m0 : (0 : Int) ≤ (m : Int) := by omega
          have m2 : (m : Int) < 128 := by have := M.out; omega
          have BA := Lib.hid (bit_any B n T k m wr (HR.out.below HB.out) (by omega) (by omega))
          cases c : T k m with
          | false =>
            rw [c] at BA
            have E := Lib.hid (show intC n (fun b => (cntK T k b : Int) + (if b < m + 1 then ((T k b).toNat : Int) else 0)) = intC n (fun b => (cntK T k b : Int) + (if b < m then ((T k b).toNat : Int) else 0)) from intC_ext fun b _ => by
              by_cases e : b = m
              · subst e; simp [c]
              · by_cases g : b < m
                · simp [g, show b < m + 1 by omega]
                · simp [g, show ¬ b < m + 1 by omega])
            go_wp2_with (go_at_call 51; refine BA.out.mono ?_; rintro e w1 ⟨rfl, rfl⟩)
            go_roundw
            case rel => exact ⟨m + 1, by omega, by go_num, by rw [E.out]; exact RR.out, HB.out⟩
            case measure => simp [intOf]; omega
          | true =>
            rw [c] at BA
            have c0 : wr.cell? ⟨w.heap.size, m, none⟩ = some (.int .i64 (cntK T k m : Int)) := by rw [RR.out.cell, intC_get cm]; simp
            have f0 := RR.out.free m
            have CL := cntK_le T k m
            obtain ⟨v, hv⟩ : ∃ v, v = cntK T k m := ⟨_, rfl⟩
            rw [← hv] at c0 CL
            have HV := Lib.hid hv
            have v9 : (v : Int) ≤ 128 := by omega
            clear hv CL
            have R3 := Lib.hid (show Row (wr.setCell ⟨w.heap.size, m, none⟩ (.int .i64 ((v : Int) + 1))) w.heap.size (intC n (fun b => (cntK T k b : Int) + (if b < m + 1 then ((T k b).toNat : Int) else 0))) 3 by
              have := RR.out.set m (.int .i64 ((v : Int) + 1))
              rw [intC_set] at this
              rw [intC_ext (g := fun b => if b = m then (v : Int) + 1 else (cntK T k b : Int) + (if b < m then ((T k b).toNat : Int) else 0)) (fun b _ => by
                by_cases e : b = m
                · subst e; simp [c, HV.out]
                · by_cases g : b < m
                  · simp [g, e, show b < m + 1 by omega]
                  · simp [g, e, show ¬ b < m + 1 by omega])]
              exact this)
            have B3 := Lib.hid (KB.put HB.out (Nat.le_refl _) m (.int .i64 ((v : Int) + 1)))
            go_wp2_with (go_at_call 51; refine BA.out.mono ?_; rintro e w1 ⟨rfl, rfl⟩)
            clear c0 f0
            go_roundw
            case rel => exact ⟨m + 1, by omega, by go_num, R3.out, B3.out⟩
            case measure => simp [intOf]; omega
        · obtain rfl : m = n := by omega
          have i2 : ¬ (m : Int) < (m : Int) := by omega
          have E := Lib.hid (show intC m (fun b => (cntK T (k + 1) b : Int)) = intC m (fun b => (cntK T k b : Int) + (if b < m then ((T k b).toNat : Int) else 0)) from intC_ext fun b hb => by
            rw [cntK_succ, if_pos hb]; simp)
          go_wp2_with fail
          go_roundw
          case rel => exact ⟨k + 1, by omega, by go_num, by rw [E.out]; exact RR.out, HB.out⟩
          case measure => simp [intOf]; omega
    · obtain rfl : k = n := by omega
      have i2 : ¬ (k : Int) < (k : Int) := by omega
      obtain ⟨w2, mk2, ho2, hg2⟩ := make_room k (by have := M.out; omega) wr (w.heap.size + 1) (show w.heap.size + 1 ≤ wr.heap.size from RR.out.lt)
      have R2 := Lib.hid (RR.out.grownR hg2 (by simp))
      have B2 := Lib.hid (show Below w.heap.size w w2 from HB.out.grown hg2 (HB.out.size) (fun j hj => by cases hj))
      have O2 := Lib.hid ho2
      clear ho2 hg2
      go_upto_region 14 with fail
      clear mk2 RR HB i2 hk
      go_wp2_with fail
      go_loopw [7, 8, 9, 40] (fun v _ _ i wr => ∃ (D : List Nat) (f : Nat → Int), D.length ≤ k ∧ i = .int .i64 (D.length : Int) ∧ OrdG k T D ∧ AhOk k T D f ∧ Row wr w.heap.size (intC k f) 3 ∧ wr.ownsRow (w.heap.size + 1) 3 1 v D.length (natC D) ∧ sortL k T (k - D.length) D = sortL k T k [] ∧ Below w.heap.size w wr) (fun _ _ _ i _ => k - (intOf i).toNat)
      case atStart => exact ⟨[], _, by simp, rfl, OrdG.nil k T, ah_start k T, R2.out, (by simpa [natC] using O2.out), rfl, B2.out⟩
      case round =>
        clear R2 B2 O2
        obtain ⟨D, f, hk, rfl, hgood, hah, hr, ho, hs, hb⟩ := hrel
        have GD := Lib.hid hgood
        have AH := Lib.hid hah
        have RR := Lib.hid hr
        have HO := Lib.hid ho
        have HS := Lib.hid hs
        have HB := Lib.hid hb
        clear hgood hah hr ho hs hb
        obtain ⟨t, ht⟩ : ∃ t, t = D.length := ⟨_, rfl⟩
        rw [← ht] at hk HO HS ⊢
        have TE := Lib.hid ht
        clear ht
        by_cases ck : t < k
        · have k1 : (t : Int) < (k : Int) := by omega
          have k0 : (0 : Int) ≤ (t : Int) := by omega
          have k2 : (t : Int) < 128 := by have := M.out; omega
          have LE := Lib.hid (least_any w.heap.size k f wr (by have := M.out; omega) RR.out)
          rw [AH.out.find] at LE
          cases cp : pickO k T D with
          | none =>
            rw [cp, show optI none = -1 from rfl] at LE
            have SE := Lib.hid (show sortL k T k [] = D by
              rw [← HS.out, show k - t = (k - t - 1) + 1 by omega, sortL, cp])
            go_wp2_with (go_at_call 63; refine LE.out.mono ?_; rintro e w1 ⟨rfl, rfl⟩)
            go_ret
            exact ⟨_, rfl, by rw [SE.out, ← TE.out]; exact SlAt.own HO.out, HB.out⟩
          | some a =>
            rw [cp, show optI (some a) = (a : Int) from rfl] at LE
            obtain ⟨ha, hfree⟩ := pick_some cp
            have a1 : (a : Int) < (k : Int) := by omega
            have a0 : (0 : Int) ≤ (a : Int) := by omega
            have a2 : (a : Int) < 128 := by have := M.out; omega
            have SE := Lib.hid (show sortL k T (k - (t + 1)) (D ++ [a]) = sortL k T k [] by
              rw [← HS.out, show k - t = (k - (t + 1)) + 1 by omega, sortL, cp])
            have GD2 := Lib.hid (GD.out.step SU.out ha hfree)
            have AH2 := Lib.hid (AH.out.step ha hfree)
            have c0 : wr.cell? ⟨w.heap.size, a, none⟩ = some (.int .i64 (f a)) := by rw [RR.out.cell, intC_get ha]
            obtain ⟨v0, hv0⟩ : ∃ v, v = f a := ⟨_, rfl⟩
            rw [← hv0] at c0
            clear hv0
            have f0 := RR.out.free a
            have HA := Lib.hid ha
            clear ha hfree cp
            go_upto_region 19 with (go_at_call 63; refine LE.out.mono ?_; rintro e w1 ⟨rfl, rfl⟩)
            clear c0 f0 LE
            refine to_cls ?_
            intro U hU z
            have R3 := Lib.hid (Row.next (RR.out.set a (.int .i64 (-1))) hU z)
            have B3 := Lib.hid (KB.next (KB.put HB.out (Nat.le_refl _) a (.int .i64 (-1))) hU z)
            have O3 := Lib.hid (own_below (own_below (own_set HO.out (show w.heap.size < w.heap.size + 1 by omega) a (.int .i64 (-1))) hU) z.bel)
            clear hU RR HB HO
            rw [intC_set] at R3
            go_wp2_with (at_builtin; refine wpList_append_own _ rfl (.tmp 49) (.tmp 51) 50 rfl (w.heap.size + 1) 3 i0 (.int .i64 0) 1 8 Try.underlying50 hi hz0 hz1 hz2 rfl (by decide) _ _ _ rfl (O3.out.alloc _) ⟨z.at.heap.size, 0, none⟩ 1 1 [.int .i64 (a : Int)] rfl rfl ?c1 ?c2 ?c3 ?c4 ?c5 ?_)
            case c1 => exact one_new' _ _ _
            case c2 => exact one_int' _ _
            case c3 => unfold maxLen; omega
            case c4 => omega
            case c5 => have := R3.out.lt; simp; omega
            intro v' w3 hown' hgrow _
            have NB := Lib.hid (fun (j : Nat) (hj : _ = some j) => (O3.out.lt j hj).1)
            have R4 := Lib.hid ((R3.out.old _).grownR hgrow (fun e => by have := (O3.out.lt _ e.symm).1; omega))
            have B4 := Lib.hid (show Below w.heap.size w w3 from (B3.out.alloc B3.out.size _).grown hgrow (by have := B3.out.size; simp; omega) (fun j hj => by have := (O3.out.lt j hj).1; omega))
            have O4 := Lib.hid (show w3.ownsRow (w.heap.size + 1) 3 1 v' (t + 1) (natC (D ++ [a])) by
              unfold natC at hown' ⊢
              rw [List.map_append]
              exact hown')
            clear hown' hgrow R3 B3 O3 NB
            go_wp2_with fail
            go_loopw [9, 54] (fun _ i wr => ∃ m : Nat, m ≤ k ∧ i = .int .i64 (m : Int) ∧ Row wr w.heap.size (intC k (fun b => (if b = a then -1 else f b) - (if b < m then ((T a b).toNat : Int) else 0))) 3 ∧ wr.ownsRow (w.heap.size + 1) 3 1 v' (t + 1) (natC (D ++ [a])) ∧ Below w.heap.size w wr) (fun _ i _ => k - (intOf i).toNat)
            case atStart => exact ⟨0, by omega, rfl, by rw [intC_ext (g := fun b => if b = a then -1 else f b) (fun i _ => by simp)]; exact R4.out, O4.out, B4.out⟩
            case round =>
              clear R4 B4 O4
              obtain ⟨m, hm, rfl, hr, ho, hb⟩ := hrel
              have RR := Lib.hid hr
              have HO := Lib.hid ho
              have HB := Lib.hid hb
              clear hr ho hb
              by_cases cm : m < k
              · have m1 : (m : Int) < (k : Int) := by omega
                have m0 : (0 : Int) ≤ (m : Int) := by omega
                have m2 : (m : Int) < 128 := by have := M.out; omega
                have BA := Lib.hid (bit_any B k T a m wr (HR.out.below HB.out) (by have := HA.out; omega) (by omega))
                cases c : T a m with
                | false =>
                  rw [c] at BA
                  have E := Lib.hid (show intC k (fun b => (if b = a then -1 else f b) - (if b < m + 1 then ((T a b).toNat : Int) else 0)) = intC k (fun b => (if b = a then -1 else f b) - (if b < m then ((T a b).toNat : Int) else 0)) from intC_ext fun b _ => by
                    by_cases e : b = m
                    · subst e; simp [c]
                    · by_cases g : b < m
                      · simp [g, show b < m + 1 by omega]
                      · simp [g, show ¬ b < m + 1 by omega])
                  go_wp2_with (go_at_call 51; refine BA.out.mono ?_; rintro e w1 ⟨rfl, rfl⟩)
                  go_roundw
                  case rel => exact ⟨m + 1, by omega, by go_num, by rw [E.out]; exact RR.out, HO.out, HB.out⟩
                  case measure => simp [intOf]; omega
                | true =>
                  rw [c] at BA
                  have ma := Lib.hid (show m ≠ a from fun e => by
                    have q := AH2.out.inD a HA.out (by simp)
                    have := GD2.out.irr a (by simp)
                    exact this (.one (by rw [← e] at c ⊢; exact c)))
                  have c0 : wr.cell? ⟨w.heap.size, m, none⟩ = some (.int .i64 (f m)) := by rw [RR.out.cell, intC_get cm]; simp [ma.out]
                  have f0 := RR.out.free m
                  have FL := AH.out.low m cm
                  have FH : f m ≤ 128 := by
                    by_cases d : m ∈ D
                    · have := AH.out.inD m cm d; omega
                    · rw [AH.out.out m cm d]
                      have := cntA_le k T D m
                      have := M.out
                      omega
                  rw [← TE.out] at FL
                  have v8 : -128 ≤ f m := by omega
                  obtain ⟨v, hv⟩ : ∃ v, v = f m := ⟨_, rfl⟩
                  rw [← hv] at c0 FH v8
                  have HV := Lib.hid hv
                  clear hv FL
                  have R3 := Lib.hid (show Row (wr.setCell ⟨w.heap.size, m, none⟩ (.int .i64 (v - 1))) w.heap.size (intC k (fun b => (if b = a then -1 else f b) - (if b < m + 1 then ((T a b).toNat : Int) else 0))) 3 by
                    have := RR.out.set m (.int .i64 (v - 1))
                    rw [intC_set] at this
                    rw [intC_ext (g := fun b => if b = m then v - 1 else (if b = a then -1 else f b) - (if b < m then ((T a b).toNat : Int) else 0)) (fun b _ => by
                      by_cases e : b = m
                      · subst e; simp [c, HV.out, ma.out]
                      · by_cases g : b < m
                        · simp [g, e, show b < m + 1 by omega]
                        · simp [g, e, show ¬ b < m + 1 by omega])]
                    exact this)
                  have B3 := Lib.hid (KB.put HB.out (Nat.le_refl _) m (.int .i64 (v - 1)))
                  have O3 := Lib.hid (own_set HO.out (show w.heap.size < w.heap.size + 1 by omega) m (.int .i64 (v - 1)))
                  go_wp2_with (go_at_call 51; refine BA.out.mono ?_; rintro e w1 ⟨rfl, rfl⟩)
                  clear c0 f0
                  go_roundw
                  case rel => exact ⟨m + 1, by omega, by go_num, R3.out, O3.out, B3.out⟩
                  case measure => simp [intOf]; omega
              · obtain rfl : m = k := by omega
                have i2 : ¬ (m : Int) < (m : Int) := by omega
                have E := Lib.hid (show intC m (fun b => (if b = a then -1 else f b) - ((T a b).toNat : Int)) = intC m (fun b => (if b = a then -1 else f b) - (if b < m then ((T a b).toNat : Int) else 0)) from intC_ext fun b hb => by
                  simp [hb])
                have LN := Lib.hid (show (D ++ [a]).length = t + 1 by simp [TE.out])
                go_wp2_with fail
                go_roundw
                case rel => exact ⟨D ++ [a], _, by rw [LN.out]; omega, by rw [LN.out]; go_num, GD2.out, AH2.out, by rw [E.out]; exact RR.out, by rw [LN.out]; exact HO.out, by rw [LN.out]; exact SE.out, HB.out⟩
                case measure => simp [intOf]; omega
        · obtain rfl : t = k := by omega
          have i2 : ¬ (t : Int) < (t : Int) := by omega
          have SE := Lib.hid (show sortL t T t [] = D by rw [← HS.out, Nat.sub_self]; rfl)
          go_wp2
          go_ret
          exact ⟨_, rfl, by rw [SE.out, ← TE.out]; exact SlAt.own HO.out, HB.out⟩
end Go.Proofs.Ytjgfnemdklljmaa
