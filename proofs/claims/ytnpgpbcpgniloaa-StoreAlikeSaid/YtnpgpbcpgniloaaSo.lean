/-
  Layer 6, the page's lists: Write, Of: that they return.
  Layer 6, the walks: the page's Of; Of.
  Layers 6 and 8, the walks: Read; a law's memory.
-/
import Derived.Test.YtnpgpbcpgniloaaSk
import Derived.Deep.RegionHeld3
import Derived.Deep.DrawnRows
import Derived.Test.YtnpgpbcpgniloaaWh
set_option linter.unusedSimpArgs false
set_option linter.unusedVariables false
namespace Go.Proofs.Ytnpgpbcpgniloaa
open Go.RowKit GrS

theorem rcells_any (v : Value) (L : List (Int × Int)) (w : World) (h : SlP w v L) (hn : L.length ≤ 100000) :
    Calls Try.prog 25 #[v] w fun e w' => ∃ v, e = .returned v ∧ Below w.heap.size w w' ∧ w'.ownsRow w.heap.size 64 2 v (cellsTo L L.length).length (cellsL (cellsTo L L.length)) := by
  have h' := h
  obtain ⟨_, ⟨rfl, h0⟩ | ⟨a, c, rfl, _⟩⟩ := h'
  · obtain rfl : L = [] := List.eq_nil_of_length_eq_zero h0
    go_enter Try.func25, Try.ntmps25
    go_wp2_with fail
    refine wp_loop_rounds 2 ?_
    rw [rounds_succ]
    go_wp2
    go_ret
    exact ⟨_, rfl, Below.refl _ _, World.ownsRow_nil _ _ _ _⟩
  · exact rcells_some a _ c L w h hn

/-- what the page's Write answers -/
def wrL (L : List (Int × Int)) (a x : Int) : List (Int × Int) × Int :=
  if codeA a = 0 then (if 256 < (cellsTo (L ++ [(a, x)]) (L ++ [(a, x)]).length).length then (L, 2) else (L ++ [(a, x)], 0)) else (L, codeA a)

set_option maxRecDepth 100000 in
set_option maxHeartbeats 3200000 in
theorem rwrite_bad (v : Value) (L : List (Int × Int)) (a x : Int) (w : World) (a0 : 0 ≤ a) (a1 : a < 18446744073709551616) (hc : codeA a ≠ 0) :
    Calls Try.prog 29 #[v, .int .u64 a, .int .u64 x] w fun e w' => e = .returned (.tuple #[v, .int .i64 (codeA a)]) ∧ Below w.heap.size w w' := by
  have CK := Lib.hid (rcheck_any a w a0 a1)
  obtain ⟨C, hC⟩ : ∃ C, C = codeA a := ⟨_, rfl⟩
  rw [← hC] at CK hc ⊢
  have cb : (C != 0) = true := by simpa using hc
  clear hc hC
  go_enter Try.func29, Try.ntmps29
  go_wp2_with fail
  refine CK.out.mono ?_
  rintro e w2 ⟨rfl, rfl⟩
  go_wp2
  exact bodyPost_ret (v := .tuple #[v, .int .i64 C]) (by simp [results, Try.results29, go_sem, *]) rfl ⟨rfl, Below.refl _ _⟩

set_option maxRecDepth 100000 in
set_option maxHeartbeats 3200000 in
theorem rwrite_nil (a x : Int) (w : World) (a0 : 0 ≤ a) (a1 : a < 18446744073709551616) (hc : codeA a = 0) :
    Calls Try.prog 29 #[.slice none 0 0, .int .u64 a, .int .u64 x] w fun e w' => ∃ v2, e = .returned (.tuple #[v2, .int .i64 (wrL [] a x).2]) ∧ Below w.heap.size w w' ∧ SlP w' v2 (wrL [] a x).1 := by
  obtain ⟨i0, hi, hz0, hz1, hz2⟩ := info_parts cbytes
  have CK := Lib.hid (rcheck_any a w a0 a1)
  rw [hc] at CK
  have HC := Lib.hid hc
  clear hc
  go_enter Try.func29, Try.ntmps29
  go_wp2_with fail
  refine CK.out.mono ?_
  rintro e w2 ⟨rfl, rfl⟩
  clear CK
  have OE := Lib.hid (show (w.alloc (.cells #[] 64)).ownsRow w.heap.size 64 2 (.slice (some ⟨w.heap.size, 0, none⟩) 0 0) 0 [] from World.ownsRow_made w #[] 0 (Nat.le_refl _) (by unfold maxLen; omega) rfl)
  have O1 := OE
  obtain ⟨w1, hw1⟩ : ∃ w1, w1 = w.alloc (.cells #[] 64) := ⟨_, rfl⟩
  have B1 := Lib.hid (show Below w.heap.size w w1 by rw [hw1]; exact KB.alloc (Below.refl _ _) _)
  rw [← hw1] at O1
  have k2 := Lib.hid (show ∀ (T : TypeId) j u, ([.int .u64 a, .int .u64 x] : List Value)[j]? = some u → ((w.alloc (.cells #[] 64)).alloc (.cells #[.int .u64 a, .int .u64 x] T)).cell? ((⟨w.heap.size + 1, 0, none⟩ : Addr).add j) = some u from fun T j u hj => by have := app_two (w.alloc (.cells #[] 64)) (.int .u64 a) (.int .u64 x) T j u hj; simpa only [World.size_alloc] using this)
  have k3 := Lib.hid (show ∀ u ∈ [Value.int .u64 a, .int .u64 x], u.oneCell' = true by simp [Value.oneCell'])
  have s5 := Lib.hid (show ∀ o : Obj, w.heap.size ≤ ((w.alloc (.cells #[] 64)).alloc o).heap.size from fun o => by have := B1.out.size; simp; omega)
  go_wp2_with (at_builtin; refine wpList_append_own _ rfl (.tmp 19) (.tmp 23) 23 rfl w.heap.size 64 i0 (.agg #[.int .u64 0, .int .u64 0]) 2 16 Try.underlying23 hi hz0 hz1 hz2 rfl (by decide) _ _ _ rfl (OE.out.alloc _) ⟨w.heap.size + 1, 0, none⟩ 1 1 [.int .u64 a, .int .u64 x] rfl rfl (k2.out _) k3.out (by unfold maxLen; omega) (by omega) (s5.out _) ?_)
  intro v2 w3 h2 hg2 _
  have O2 := Lib.hid (show w3.ownsRow w.heap.size 64 2 v2 (0 + 1) (cellsL ([] ++ [(a, x)])) by rw [cellsL_app]; exact h2)
  have B2 := Lib.hid (show Below w.heap.size w w3 from (KB.alloc (KB.alloc (Below.refl _ _) _) _).grown hg2 (s5.out _) (fun k hk => (OE.out.lt k hk).1))
  clear h2 hg2
  have S2 := Lib.hid (show SlP w3 v2 ([] ++ [(a, x)]) from by
    have := SlAt.own O2.out
    exact this)
  go_wp2_with fail
  refine (rcells_any v2 ([] ++ [(a, x)]) w3 S2.out (by simp)).mono ?_
  rintro e w4 ⟨v3, rfl, b4, o4⟩
  have B4 := Lib.hid (B2.out.trans (b4.mono B2.out.size))
  have S4 := Lib.hid (S2.out.below b4)
  obtain ⟨q, hq⟩ : ∃ q, q = (cellsTo ([] ++ [(a, x)]) ([] ++ [(a, x)]).length).length := ⟨_, rfl⟩
  rw [← hq] at o4
  have O4 := Lib.hid (own_open o4)
  have HQ := Lib.hid hq
  clear b4 o4 hq
  by_cases cq : 256 < q
  · have EW := Lib.hid (show wrL [] a x = ([], 2) by unfold wrL; rw [if_pos HC.out, if_pos (by rw [← HQ.out]; exact cq)])
    rcases O4.out with ⟨rfl, hz⟩ | ⟨r, rc, rfl, _⟩
    · have d9 : decide (256 < (0 : Int)) = false := by decide
      exact absurd cq (by omega)
    · have d9 : decide (256 < (q : Int)) = true := by simp; omega
      go_wp2
      exact bodyPost_ret (v := .tuple #[.slice none 0 0, .int .i64 2]) (by simp [results, Try.results29, go_sem, *]) rfl ⟨_, by rw [EW.out], B4.out, by rw [EW.out]; exact SlAt.nil _ _⟩
  · have EW := Lib.hid (show wrL [] a x = ([] ++ [(a, x)], 0) by unfold wrL; rw [if_pos HC.out, if_neg (by rw [← HQ.out]; exact cq)])
    rcases O4.out with ⟨rfl, hz⟩ | ⟨r, rc, rfl, _⟩
    · have d9 : decide (256 < (0 : Int)) = false := by decide
      go_wp2
      exact bodyPost_ret (v := .tuple #[v2, .int .i64 0]) (by simp [results, Try.results29, go_sem, *]) rfl ⟨_, by rw [EW.out], B4.out, by rw [EW.out]; exact S4.out⟩
    · have d9 : decide (256 < (q : Int)) = false := by simp; omega
      go_wp2
      exact bodyPost_ret (v := .tuple #[v2, .int .i64 0]) (by simp [results, Try.results29, go_sem, *]) rfl ⟨_, by rw [EW.out], B4.out, by rw [EW.out]; exact S4.out⟩

set_option maxRecDepth 100000 in
set_option maxHeartbeats 3200000 in
theorem rwrite_some (b : Addr) (n cp : Nat) (L : List (Int × Int)) (a x : Int) (w : World) (h : SlP w (.slice (some b) n cp) L) (hnl : n = L.length) (a0 : 0 ≤ a) (a1 : a < 18446744073709551616) (hn : L.length ≤ 50000) (hc : codeA a = 0) :
    Calls Try.prog 29 #[.slice (some b) n cp, .int .u64 a, .int .u64 x] w fun e w' => ∃ v2, e = .returned (.tuple #[v2, .int .i64 (wrL L a x).2]) ∧ Below w.heap.size w w' ∧ SlP w' v2 (wrL L a x).1 := by
  obtain ⟨i0, hi, hz0, hz1, hz2⟩ := info_parts cbytes
  have CK := Lib.hid (rcheck_any a w a0 a1)
  rw [hc] at CK
  have HC := Lib.hid hc
  have HS := Lib.hid h
  have HN := Lib.hid hn
  have NE := Lib.hid hnl
  have bn : n ≤ 50000 := by omega
  clear h hn hnl
  clear hc
  go_enter Try.func29, Try.ntmps29
  go_wp2_with fail
  refine CK.out.mono ?_
  rintro e w2 ⟨rfl, rfl⟩
  clear CK
  have OE := Lib.hid (show (w.alloc (.cells #[] 64)).ownsRow w.heap.size 64 2 (.slice (some ⟨w.heap.size, 0, none⟩) 0 0) 0 [] from World.ownsRow_made w #[] 0 (Nat.le_refl _) (by unfold maxLen; omega) rfl)
  have CX := Lib.hid (show ∀ i u, (cellsL L)[i]? = some u → (w.alloc (.cells #[] 64)).cell? (b.add i) = some u from by
    obtain ⟨_, ⟨e, _⟩ | ⟨a', c', e, _, _, hx⟩⟩ := HS.out.below (KB.alloc (Below.refl _ _) (.cells #[] 64))
    · cases e
    · injection e with e1 e2 e3
      injection e1 with e1
      subst e1
      exact hx)
  have CLn := Lib.hid (show (cellsL L).length = n * 2 by rw [cellsL_len, NE.out])
  have s0 := Lib.hid (show w.heap.size ≤ (w.alloc (.cells #[] 64)).heap.size by simp)
  go_wp2_with (at_builtin; refine wpList_append_own _ rfl (.tmp 16) (.tmp 17) 23 rfl w.heap.size 64 i0 (.agg #[.int .u64 0, .int .u64 0]) 2 16 Try.underlying23 hi hz0 hz1 hz2 rfl (by decide) _ _ _ rfl OE.out b n cp (cellsL L) rfl CLn.out CX.out (cellsL_one L) (by unfold maxLen; omega) (by omega) s0.out ?_)
  intro v1 w1 h1 hg1 _
  have O1 := Lib.hid (show w1.ownsRow w.heap.size 64 2 v1 n (cellsL L) by simpa using h1)
  have B1 := Lib.hid (show Below w.heap.size w w1 from ((Below.refl _ _).alloc (Nat.le_refl _) _).grown hg1 s0.out (fun k hk => by cases hk; exact Nat.le_refl _))
  clear h1 hg1 OE CX
  have k2 := Lib.hid (app_two w1 (.int .u64 a) (.int .u64 x))
  have k3 := Lib.hid (show ∀ u ∈ [Value.int .u64 a, .int .u64 x], u.oneCell' = true by simp [Value.oneCell'])
  have s5 := Lib.hid (show ∀ o : Obj, w.heap.size ≤ (w1.alloc o).heap.size from fun o => by have := B1.out.size; simp; omega)
  go_wp2_with (at_builtin; refine wpList_append_own _ rfl (.tmp 19) (.tmp 23) 23 rfl w.heap.size 64 i0 (.agg #[.int .u64 0, .int .u64 0]) 2 16 Try.underlying23 hi hz0 hz1 hz2 rfl (by decide) _ _ _ rfl (O1.out.alloc _) ⟨w1.heap.size, 0, none⟩ 1 1 [.int .u64 a, .int .u64 x] rfl rfl (k2.out _) k3.out (by unfold maxLen; omega) (by omega) (s5.out _) ?_)
  intro v2 w3 h2 hg2 _
  have O2 := Lib.hid (show w3.ownsRow w.heap.size 64 2 v2 (n + 1) (cellsL (L ++ [(a, x)])) by rw [cellsL_app]; exact h2)
  have B2 := Lib.hid (show Below w.heap.size w w3 from (KB.alloc B1.out _).grown hg2 (s5.out _) (fun k hk => (O1.out.lt k hk).1))
  clear h2 hg2
  have S2 := Lib.hid (show SlP w3 v2 (L ++ [(a, x)]) from by
    have := SlAt.own O2.out
    unfold SlP
    rw [show (L ++ [(a, x)]).length = n + 1 by simp; exact NE.out.symm]
    exact this)
  go_wp2_with fail
  refine (rcells_any v2 (L ++ [(a, x)]) w3 S2.out (by have := HN.out; simp; omega)).mono ?_
  rintro e w4 ⟨v3, rfl, b4, o4⟩
  have B4 := Lib.hid (B2.out.trans (b4.mono B2.out.size))
  have S4 := Lib.hid (S2.out.below b4)
  obtain ⟨q, hq⟩ : ∃ q, q = (cellsTo (L ++ [(a, x)]) (L ++ [(a, x)]).length).length := ⟨_, rfl⟩
  rw [← hq] at o4
  have O4 := Lib.hid (own_open o4)
  have HQ := Lib.hid hq
  clear b4 o4 hq
  by_cases cq : 256 < q
  · have EW := Lib.hid (show wrL L a x = (L, 2) by unfold wrL; rw [if_pos HC.out, if_pos (by rw [← HQ.out]; exact cq)])
    rcases O4.out with ⟨rfl, hz⟩ | ⟨r, rc, rfl, _⟩
    · have d9 : decide (256 < (0 : Int)) = false := by decide
      exact absurd cq (by omega)
    · have d9 : decide (256 < (q : Int)) = true := by simp; omega
      go_wp2
      exact bodyPost_ret (v := .tuple #[.slice (some b) n cp, .int .i64 2]) (by simp [results, Try.results29, go_sem, *]) rfl ⟨_, by rw [EW.out], B4.out, by rw [EW.out]; exact HS.out.below B4.out⟩
  · have EW := Lib.hid (show wrL L a x = (L ++ [(a, x)], 0) by unfold wrL; rw [if_pos HC.out, if_neg (by rw [← HQ.out]; exact cq)])
    rcases O4.out with ⟨rfl, hz⟩ | ⟨r, rc, rfl, _⟩
    · have d9 : decide (256 < (0 : Int)) = false := by decide
      go_wp2
      exact bodyPost_ret (v := .tuple #[v2, .int .i64 0]) (by simp [results, Try.results29, go_sem, *]) rfl ⟨_, by rw [EW.out], B4.out, by rw [EW.out]; exact S4.out⟩
    · have d9 : decide (256 < (q : Int)) = false := by simp; omega
      go_wp2
      exact bodyPost_ret (v := .tuple #[v2, .int .i64 0]) (by simp [results, Try.results29, go_sem, *]) rfl ⟨_, by rw [EW.out], B4.out, by rw [EW.out]; exact S4.out⟩

theorem rwrite_any (v : Value) (L : List (Int × Int)) (a x : Int) (w : World) (h : SlP w v L) (a0 : 0 ≤ a) (a1 : a < 18446744073709551616) (hn : L.length ≤ 50000) :
    Calls Try.prog 29 #[v, .int .u64 a, .int .u64 x] w fun e w' => ∃ v2, e = .returned (.tuple #[v2, .int .i64 (wrL L a x).2]) ∧ Below w.heap.size w w' ∧ SlP w' v2 (wrL L a x).1 := by
  by_cases c : codeA a = 0
  · have h' := h
    obtain ⟨_, ⟨rfl, h0⟩ | ⟨b, cp, rfl, _⟩⟩ := h'
    · obtain rfl : L = [] := List.eq_nil_of_length_eq_zero h0
      exact rwrite_nil a x w a0 a1 c
    · exact rwrite_some b L.length cp L a x w h rfl a0 a1 hn c
  · have e : wrL L a x = (L, codeA a) := by unfold wrL; rw [if_neg c]
    rw [e]
    exact (rwrite_bad v L a x w a0 a1 c).mono fun e w' ⟨e1, b⟩ => ⟨v, e1, b, h.below b⟩
end Go.Proofs.Ytnpgpbcpgniloaa

namespace Go.Proofs.Ytnpgpbcpgniloaa
open Go.RowKit GrS

def Bd (L : List (Int × Int)) : Prop := ∀ p ∈ L, (0 ≤ p.1 ∧ p.1 < 18446744073709551616) ∧ 0 ≤ p.2 ∧ p.2 < 18446744073709551616

set_option maxRecDepth 100000 in
set_option maxHeartbeats 3200000 in
theorem rof_some (a : Addr) (n cp : Nat) (L : List (Int × Int)) (w : World) (h : SlP w (.slice (some a) n cp) L) (hb : Bd L) (hn : n ≤ 1000) :
    Calls Try.prog 20 #[.slice (some a) n cp] w fun e w' => ∃ v c, e = .returned (.tuple #[v, .int .i64 c]) ∧ Below w.heap.size w w' := by
  have HN := Lib.hid h.len
  have HS := Lib.hid h
  have HB := Lib.hid hb
  clear h hb
  go_enter Try.func20, Try.ntmps20
  go_wp2_with fail
  go_loopw [4, 5] (fun lv i wr => ∃ (k : Nat) (M : List (Int × Int)), k ≤ n ∧ i = .int .i64 (k : Int) ∧ SlP wr lv M ∧ M.length ≤ k ∧ Below w.heap.size w wr) (fun _ i _ => n - (intOf i).toNat)
  case atStart => exact ⟨0, [], by omega, rfl, SlAt.nil _ _, by simp, Below.refl _ _⟩
  case round =>
    obtain ⟨k, M, hk, rfl, hm, hml, hbel⟩ := hrel
    have HM := Lib.hid hm
    have BB := Lib.hid hbel
    have ML := Lib.hid hml
    clear hm hbel hml
    by_cases ck : k < n
    · have lk : k < L.length := by have := HN.out; omega
      have YY := Lib.hid (fun (U : World) (b : Below w.heap.size w U) => (HS.out.below b).at k lk)
      have BD := Lib.hid (HB.out L[k] (List.getElem_mem lk))
      obtain ⟨⟨x0, x1⟩, hx⟩ : ∃ p, p = L[k] := ⟨_, rfl⟩
      rw [← hx] at YY BD
      clear hx lk
      have i0 : (0 : Int) ≤ (k : Int) := by omega
      have i1 : (k : Int) < (n : Int) := by omega
      have WC := Lib.hid (fun (U : World) (b : Below wr.heap.size wr U) => rwrite_any _ M x0 x1 U (HM.out.below b) BD.out.1.1 BD.out.1.2 (by have := ML.out; omega))
      obtain ⟨C, hC⟩ : ∃ C, C = (wrL M x0 x1).2 := ⟨_, rfl⟩
      obtain ⟨M2, hM2⟩ : ∃ C, C = (wrL M x0 x1).1 := ⟨_, rfl⟩
      have M2L := Lib.hid (show M2.length ≤ k + 1 by rw [hM2]; have := ML.out; unfold wrL; split <;> (try split) <;> simp <;> omega)
      rw [← hC, ← hM2] at WC
      clear hC hM2
      have K0 := Lib.hid (YY.out wr.drew BB.out.drew)
      go_wp2_with fail
      go_region_held3 (fun w' => w'.cell? (a.add (k * 2)) = some (.int .u64 x0) ∧ w'.cell? ⟨(a.add (k * 2)).block, (a.add (k * 2)).off + 1, none⟩ = some (.int .u64 x1))
        (first | exact K0.out | exact K3.out)
        (first | (go_at_call 29; refine (WC.out _ (Below.refl _ _).drew).mono ?_; rintro e w3 ⟨v2, rfl, b3, s3⟩; have B3 := Lib.hid (BB.out.trans ((((Below.refl wr.heap.size wr).drew).trans b3).mono BB.out.size)); have S3 := Lib.hid s3; have K3 := Lib.hid (YY.out w3 B3.out); clear b3 s3))
      by_cases cc : C = 0
      · have cb : (C != 0) = false := by simpa using cc
        clear cc
        go_wp2
        go_roundw
        case rel => exact ⟨k + 1, M2, by omega, by go_num, S3.out, M2L.out, B3.out⟩
        case measure => simp [intOf]; omega
      · have cb : (C != 0) = true := by simpa using cc
        clear cc
        go_wp2
        exact bodyPost_ret (v := .tuple #[.slice none 0 0, .int .i64 C]) (by simp [results, Try.results20, go_sem, *]) rfl ⟨_, _, rfl, B3.out⟩
    · obtain rfl : n = k := by omega
      have BK := BB
      go_wp2
      exact bodyPost_ret (v := .tuple #[u4, .int .i64 0]) (by simp [results, Try.results20, go_sem, *]) rfl ⟨_, _, rfl, BK.out⟩
theorem rof_any (v : Value) (L : List (Int × Int)) (w : World) (h : SlP w v L) (hb : Bd L) (hn : L.length ≤ 1000) :
    Calls Try.prog 20 #[v] w fun e w' => ∃ v2 c, e = .returned (.tuple #[v2, .int .i64 c]) ∧ Below w.heap.size w w' := by
  have h' := h
  obtain ⟨_, ⟨rfl, h0⟩ | ⟨a, c, rfl, _⟩⟩ := h'
  · go_enter Try.func20, Try.ntmps20
    go_wp2_with fail
    refine wp_loop_rounds 2 ?_
    rw [rounds_succ]
    go_wp2
    exact bodyPost_ret (v := .tuple #[.slice none 0 0, .int .i64 0]) (by simp [results, Try.results20, go_sem, *]) rfl ⟨_, _, rfl, Below.refl _ _⟩
  · exact rof_some a _ c L w h hb hn

/-! ### Of -/
/-- a tree that holds what was written -/
def RelT (t : Option Tr) (L : List (Int × Int)) : Prop := ∀ x : Nat, lookO t x = if readL L (x : Int) = 0 then none else some (readL L (x : Int))
theorem RelT.nil : RelT none [] := fun x => by simp [lookO, readL]
theorem wrM_rel {t : Option Tr} {L : List (Int × Int)} {a v : Int} (h : RelT t L) (hw : WFO t) (a0 : 0 ≤ a) (a1 : a < 18446744073709551616) (hl : (toLO t).length ≤ 256) (h0 : (wrM t a.toNat v).2 = 0) :
    RelT (wrM t a.toNat v).1 (L ++ [(a, v)]) ∧ (toLO (wrM t a.toNat v).1).length ≤ 256 := by
  unfold wrM at h0 ⊢
  by_cases c : codeA (a.toNat : Int) = 0
  · rw [if_pos c] at h0 ⊢
    have key : ∀ x : Nat, (a = (x : Int)) ↔ (x = a.toNat) := fun x => by omega
    by_cases d : v = 0
    · rw [if_pos d] at h0 ⊢
      obtain ⟨h1, h2, h3⟩ := delO_ok (t := t) (k := a.toNat) hw
      refine ⟨fun x => ?_, by simp only; omega⟩
      simp only
      rw [h2, readL_app, h x]
      by_cases e : x = a.toNat
      · rw [if_pos e, if_pos ((key x).2 e), if_pos d]
      · rw [if_neg e, if_neg (fun e2 => e ((key x).1 e2))]
    · rw [if_neg d] at h0 ⊢
      by_cases g : 256 < (insO t a.toNat v).toL.length
      · rw [if_pos g] at h0; simp at h0
      · rw [if_neg g]
        obtain ⟨h1, h2, h3⟩ := insO_ok (t := t) (k := a.toNat) (v := v) hw (by omega)
        refine ⟨fun x => ?_, by simp only [toLO]; omega⟩
        show (insO t a.toNat v).look x = _
        rw [h2, readL_app, h x]
        by_cases e : x = a.toNat
        · rw [if_pos e, if_pos ((key x).2 e), if_neg d]
        · rw [if_neg e, if_neg (fun e2 => e ((key x).1 e2))]
  · rw [if_neg c] at h0
    exact absurd h0 c

set_option maxRecDepth 100000 in
set_option maxHeartbeats 6400000 in
theorem of_some (a : Addr) (n cp : Nat) (L : List (Int × Int)) (w : World) (h : SlP w (.slice (some a) n cp) L) (hb : Bd L) (hn : n ≤ 1000) :
    Calls Try.prog 19 #[.slice (some a) n cp] w fun e w' => ∃ p m c t, e = .returned (.tuple #[.agg #[.pointer p, .int .i64 m], .int .i64 c]) ∧ Below w.heap.size w w' ∧ MAt w' p m t ∧ m ≤ 256 ∧ (c = 0 → RelT t L) := by
  have HN := Lib.hid h.len
  have HS := Lib.hid h
  have HB := Lib.hid hb
  clear h hb
  go_enter Try.func19, Try.ntmps19
  go_upto_region 2 with fail
  refine to_cls ?_
  intro U0 hU0 z0
  have r_R := Lib.hid (show Row z0.at w.heap.size [.pointer none, .int .i64 0] 38 from (Row.next ((Row.new w [.pointer none, .int .i64 0] _).old _) hU0) z0)
  have r_M := Lib.hid (show Row z0.at (w.heap.size + 1) [.pointer none, .int .i64 0] 38 from (Row.next (Row.new' _ [.pointer none, .int .i64 0] _ _ (by simp)) hU0) z0)
  have B0 := Lib.hid (show Below w.heap.size w z0.at from KB.next (KB.alloc (KB.alloc (Below.refl _ _) _) _) hU0 z0)
  obtain ⟨R, hR⟩ : ∃ R, R = w.heap.size := ⟨_, rfl⟩
  obtain ⟨M, hM⟩ : ∃ M, M = w.heap.size + 1 := ⟨_, rfl⟩
  rw [← hM] at r_M
  simp only [← hM]
  rw [← hR] at r_R
  simp only [← hR]
  have HR := Lib.hid hR
  have HM := Lib.hid hM
  clear hR hM hU0
  go_wp2_with fail
  go_loopw [11] (fun i wr => ∃ (k : Nat) (p : Option Addr) (m : Int) (t : Option Tr), k ≤ n ∧ i = .int .i64 (k : Int) ∧ Row wr M [.pointer p, .int .i64 m] 38 ∧ Row wr R [.pointer none, .int .i64 0] 38 ∧ MAt wr p m t ∧ RelT t (L.take k) ∧ m ≤ 256 ∧ Below w.heap.size w wr) (fun i _ => n - (intOf i).toNat)
  case atStart => exact ⟨0, none, 0, none, by omega, rfl, r_M.out, r_R.out, ⟨rfl, rfl, trivial⟩, RelT.nil, by omega, B0.out⟩
  case round =>
    obtain ⟨k, p, m, t, hk, rfl, hm, hr, hma, hrel2, hm2, hbel⟩ := hrel
    have RM := Lib.hid hm
    have RR := Lib.hid hr
    have MA := Lib.hid hma
    have RT := Lib.hid hrel2
    have BB := Lib.hid hbel
    have mm := Lib.hid hm2
    clear hm hr hma hrel2 hbel hm2
    have wM := Lib.hid (show w.heap.size ≤ M by rw [HM.out]; omega)
    have wR := Lib.hid (show w.heap.size ≤ R by rw [HR.out]; omega)
    have MR := Lib.hid (show M ≠ R by rw [HM.out, HR.out]; omega)
    by_cases ck : k < n
    · have lk : k < L.length := by have := HN.out; omega
      obtain ⟨y0, y1⟩ := (HS.out.below BB.out).at k lk
      have BD := Lib.hid (HB.out L[k] (List.getElem_mem lk))
      have TK := Lib.hid (show L.take (k + 1) = L.take k ++ [L[k]] from List.take_succ_eq_append_getElem lk)
      obtain ⟨⟨x0, x1⟩, hx⟩ : ∃ p, p = L[k] := ⟨_, rfl⟩
      rw [← hx] at y0 y1 BD TK
      clear hx lk
      have i0 : (0 : Int) ≤ (k : Int) := by omega
      have i1 : (k : Int) < (n : Int) := by omega
      go_upto_region 5 with fail
      refine to_cls ?_
      intro U hU z
      have r_o : ∀ z : Wb U, Row z.at wr.heap.size [.int .u64 x0, .int .u64 x1] 64 := Row.next (Row.new _ [.int .u64 x0, .int .u64 x1] _) hU
      have r_m : ∀ z : Wb U, Row z.at M [.pointer p, .int .i64 m] 38 := Row.next (RM.out.old _) hU
      have r_r : ∀ z : Wb U, Row z.at R [.pointer none, .int .i64 0] 38 := Row.next (RR.out.old _) hU
      have bU := Lib.hid (show Below wr.heap.size wr U from (KB.alloc (Below.refl _ _) _).trans (hU.mono (by simp)))
      have o0 : ∀ z : Wb U, z.at.cell? ⟨wr.heap.size, 0, none⟩ = some (.int .u64 x0) := fun z => (r_o z).cell 0
      have o1 : ∀ z : Wb U, z.at.cell? ⟨wr.heap.size, 1, none⟩ = some (.int .u64 x1) := fun z => (r_o z).cell 1
      have m0 : ∀ z : Wb U, z.at.cell? ⟨M, 0, none⟩ = some (.pointer p) := fun z => (r_m z).cell 0
      have m1 : ∀ z : Wb U, z.at.cell? ⟨M, 1, none⟩ = some (.int .i64 m) := fun z => (r_m z).cell 1
      have WC := Lib.hid (Write_any p m t x0 x1 z.at (MA.out.below (bU.out.trans (z.bel.mono bU.out.size))) BD.out.1.1 BD.out.1.2 (by have := mm.out; omega))
      have WR2 := Lib.hid (fun h0 => wrM_rel (v := x1) RT.out MA.out.wf BD.out.1.1 BD.out.1.2 (by have := MA.out.n; have := mm.out; omega) h0)
      obtain ⟨C, hC⟩ : ∃ C, C = (wrM t x0.toNat x1).2 := ⟨_, rfl⟩
      obtain ⟨t2, ht2⟩ : ∃ C, C = (wrM t x0.toNat x1).1 := ⟨_, rfl⟩
      rw [← hC, ← ht2] at WC WR2
      clear hC ht2 y0 y1
      go_wp2_with fail
      refine WC.out.mono ?_
      rintro e w2 ⟨p2, m2, rfl, b2, ma2⟩
      have MA2 := Lib.hid ma2
      clear ma2 WC
      obtain ⟨z2, rfl⟩ := Wb.next (x := z) b2
      clear b2
      go_upto_region 6 with fail
      refine to_cls ?_
      intro U2 hU2 z3
      have r_q : ∀ z : Wb U2, Row z.at z2.at.heap.size [.pointer p2, .int .i64 m2] 38 := Row.next (Row.new _ [.pointer p2, .int .i64 m2] _) hU2
      have r_m2 : ∀ z : Wb U2, Row z.at M [.pointer p, .int .i64 m] 38 := Row.next ((r_m z2).old _) hU2
      have r_r2 : ∀ z : Wb U2, Row z.at R [.pointer none, .int .i64 0] 38 := Row.next ((r_r z2).old _) hU2
      have q2 : Below w.heap.size w z2.at := BB.out.trans ((bU.out.trans (z2.bel.mono bU.out.size)).mono BB.out.size)
      have bU2 := Lib.hid (show Below w.heap.size w U2 from (KB.alloc q2 _).trans (hU2.mono (KB.alloc q2 _).size))
      have MA3 := Lib.hid (fun z : Wb U2 => MAt.below (MA2.out.below (KB.alloc (Below.refl _ _) _ : Below z2.at.heap.size z2.at _)) (hU2.trans (z.bel.mono hU2.size)))
      clear hU2 o0 o1 m0 m1
      obtain ⟨Q, hQ⟩ : ∃ Q, Q = z2.at.heap.size := ⟨_, rfl⟩
      rw [← hQ] at r_q
      simp only [← hQ]
      clear hQ
      have q0 : ∀ z : Wb U2, z.at.cell? ⟨Q, 0, none⟩ = some (.pointer p2) := fun z => (r_q z).cell 0
      have q1 : ∀ z : Wb U2, z.at.cell? ⟨Q, 1, none⟩ = some (.int .i64 m2) := fun z => (r_q z).cell 1
      have m0 : ∀ z : Wb U2, z.at.cell? ⟨M, 0, none⟩ = some (.pointer p) := fun z => (r_m2 z).cell 0
      have m1 : ∀ z : Wb U2, z.at.cell? ⟨M, 1, none⟩ = some (.int .i64 m) := fun z => (r_m2 z).cell 1
      have fm : ∀ (z : Wb U2) (i : Nat), z.at.frozen? ⟨M, i, none⟩ = false := fun z i => (r_m2 z).free i
      have s0 : ∀ z : Wb U2, z.at.cell? ⟨R, 0, none⟩ = some (.pointer none) := fun z => (r_r2 z).cell 0
      have s1 : ∀ z : Wb U2, z.at.cell? ⟨R, 1, none⟩ = some (.int .i64 0) := fun z => (r_r2 z).cell 1
      have fs : ∀ (z : Wb U2) (i : Nat), z.at.frozen? ⟨R, i, none⟩ = false := fun z i => (r_r2 z).free i
      have q3 := Lib.hid (show Below w.heap.size w z3.at from bU2.out.trans (z3.bel.mono bU2.out.size))
      by_cases cc : C = 0
      · have cb : (C != 0) = false := by simpa using cc
        have RX := Lib.hid (WR2.out cc)
        clear cc
        go_wp2
        go_roundw
        case rel => exact ⟨k + 1, p2, m2, t2, by omega, by go_num, ((r_m2 z3).set 0 _).set 1 _, ((r_r2 z3).oth MR.out.symm 0 _).oth MR.out.symm 1 _, (((MA3.out z3).set (r_m2 z3) (by simp) 0 _).set ((r_m2 z3).set 0 _) (by simp) 1 _), by rw [TK.out]; exact RX.out.1, by have := (MA3.out z3).n; have := RX.out.2; omega, KB.put (KB.put q3.out wM.out 0 _) wM.out 1 _⟩
        case measure => simp [intOf]; omega
      · have cb : (C != 0) = true := by simpa using cc
        have CC := Lib.hid cc
        clear cc
        go_wp2
        refine bodyPost_ret (v := .tuple #[.agg #[.pointer none, .int .i64 0], .int .i64 C]) (by simp [results, Try.results19, go_sem, *]) rfl ⟨none, 0, C, none, rfl, ?_, ⟨rfl, rfl, trivial⟩, by omega, fun e => absurd e CC.out⟩
        exact KB.put (KB.put q3.out wR.out 0 _) wR.out 1 _
    · obtain rfl : n = k := by omega
      have m0 : wr.cell? ⟨M, 0, none⟩ = some (.pointer p) := RM.out.cell 0
      have m1 : wr.cell? ⟨M, 1, none⟩ = some (.int .i64 m) := RM.out.cell 1
      have s0 : wr.cell? ⟨R, 0, none⟩ = some (.pointer none) := RR.out.cell 0
      have s1 : wr.cell? ⟨R, 1, none⟩ = some (.int .i64 0) := RR.out.cell 1
      have f0 : wr.frozen? ⟨R, 0, none⟩ = false := RR.out.free 0
      have f1 : wr.frozen? ⟨R, 1, none⟩ = false := RR.out.free 1
      go_wp2
      refine bodyPost_ret (v := .tuple #[.agg #[.pointer p, .int .i64 m], .int .i64 0]) (by simp [results, Try.results19, go_sem, *]) rfl ⟨p, m, 0, t, rfl, KB.put (KB.put BB.out wR.out 0 _) wR.out 1 _, ((MA.out.set RR.out (by simp) 0 _).set (RR.out.set 0 _) (by simp) 1 _), mm.out, fun _ => by have := RT.out; rwa [HN.out, List.take_length] at this⟩
theorem of_any (v : Value) (L : List (Int × Int)) (w : World) (h : SlP w v L) (hb : Bd L) (hn : L.length ≤ 1000) :
    Calls Try.prog 19 #[v] w fun e w' => ∃ p m c t, e = .returned (.tuple #[.agg #[.pointer p, .int .i64 m], .int .i64 c]) ∧ Below w.heap.size w w' ∧ MAt w' p m t ∧ m ≤ 256 ∧ (c = 0 → RelT t L) := by
  have h' := h
  obtain ⟨_, ⟨rfl, h0⟩ | ⟨a, c, rfl, _⟩⟩ := h'
  · obtain rfl : L = [] := List.eq_nil_of_length_eq_zero h0
    clear h hb hn h0
    go_enter Try.func19, Try.ntmps19
    go_wp2_with fail
    refine wp_loop_rounds 2 ?_
    rw [rounds_succ]
    go_wp2
    refine bodyPost_ret (v := .tuple #[.agg #[.pointer none, .int .i64 0], .int .i64 0]) (by simp [results, Try.results19, go_sem, *]) rfl ⟨none, 0, 0, none, rfl, ?_, ⟨rfl, rfl, trivial⟩, by omega, fun _ => RelT.nil⟩
    repeat' (first | (with_reducible exact Below.refl _ _) | (with_reducible refine Below.setCell ?_ ?_ _) | (with_reducible refine Below.alloc ?_ ?_ _) | (simp; done) | (simp; omega))
  · exact of_some a _ c L w h hb hn
end Go.Proofs.Ytnpgpbcpgniloaa

namespace Go.Proofs.Ytnpgpbcpgniloaa
open Go.RowKit GrS

theorem readL_bd {L : List (Int × Int)} (h : Bd L) (a : Int) : 0 ≤ readL L a ∧ readL L a < 18446744073709551616 := by
  unfold readL
  cases e : L.reverse.find? (fun p => p.1 == a) with
  | none => simp
  | some p =>
    have := h p (List.mem_reverse.1 (List.mem_of_find?_eq_some e))
    exact this.2
theorem memread_any (p : Option Addr) (n : Int) (t : Option Tr) (K : Nat) (w : World) (h : MAt w p n t) (hK : K < 18446744073709551616) :
    Calls Try.prog 26 #[.agg #[.pointer p, .int .i64 n], .int .u64 (K : Int)] w fun e w' => e = .returned (.int .u64 ((lookO t K).getD 0)) ∧ Below w.heap.size w w' := by
  have GC := Lib.hid (fun (U : World) (b : Below w.heap.size w U) => mget_any p n t K U (h.below b) hK)
  clear h hK
  cases g : lookO t K with
  | none =>
    rw [g] at GC
    clear g
    unfold getV at GC
    go_enter Try.func26, Try.ntmps26
    go_upto_region 1 with fail
    refine to_cls ?_
    intro U hU z
    have r_m : ∀ z : Wb U, Row z.at w.heap.size [.pointer p, .int .i64 n] 38 := Row.next (Row.new _ [.pointer p, .int .i64 n] _) hU
    have bU := Lib.hid (show Below w.heap.size w U from (KB.alloc (Below.refl _ _) _).trans (hU.mono (by simp)))
    clear hU
    have m0 : ∀ z : Wb U, z.at.cell? ⟨w.heap.size, 0, none⟩ = some (.pointer p) := fun z => (r_m z).cell 0
    have m1 : ∀ z : Wb U, z.at.cell? ⟨w.heap.size, 1, none⟩ = some (.int .i64 n) := fun z => (r_m z).cell 1
    go_wp2_with fail
    refine (GC.out _ (bU.out.trans (z.bel.mono bU.out.size))).mono ?_
    rintro e w2 ⟨rfl, b2⟩
    have B2 := Lib.hid b2
    clear b2
    go_wp2
    go_ret
    exact ⟨rfl, (bU.out.trans (z.bel.mono bU.out.size)).trans (B2.out.mono (by have := bU.out.size; have := z.bel.size; omega))⟩
  | some u =>
    rw [g] at GC
    clear g
    unfold getV at GC
    go_enter Try.func26, Try.ntmps26
    go_upto_region 1 with fail
    refine to_cls ?_
    intro U hU z
    have r_m : ∀ z : Wb U, Row z.at w.heap.size [.pointer p, .int .i64 n] 38 := Row.next (Row.new _ [.pointer p, .int .i64 n] _) hU
    have bU := Lib.hid (show Below w.heap.size w U from (KB.alloc (Below.refl _ _) _).trans (hU.mono (by simp)))
    clear hU
    have m0 : ∀ z : Wb U, z.at.cell? ⟨w.heap.size, 0, none⟩ = some (.pointer p) := fun z => (r_m z).cell 0
    have m1 : ∀ z : Wb U, z.at.cell? ⟨w.heap.size, 1, none⟩ = some (.int .i64 n) := fun z => (r_m z).cell 1
    go_wp2_with fail
    refine (GC.out _ (bU.out.trans (z.bel.mono bU.out.size))).mono ?_
    rintro e w2 ⟨rfl, b2⟩
    have B2 := Lib.hid b2
    clear b2
    go_wp2
    go_ret
    exact ⟨rfl, (bU.out.trans (z.bel.mono bU.out.size)).trans (B2.out.mono (by have := bU.out.size; have := z.bel.size; omega))⟩
/-- a memory is read as what was written last -/
theorem RelT.reads {t : Option Tr} {L : List (Int × Int)} {p : Option Addr} {n : Int} {W : World} (h : RelT t L) (m : MAt W p n t) (a : Int) (a0 : 0 ≤ a) (a1 : a < 18446744073709551616) : ReadsAt W (.agg #[.pointer p, .int .i64 n]) a (readL L a) := fun w' k => by
  have := memread_any p n t a.toNat w' (m.below k) (by omega)
  rw [h a.toNat, Int.toNat_of_nonneg a0] at this
  by_cases c : readL L a = 0
  · rw [if_pos c] at this
    rw [c]
    exact this
  · rw [if_neg c] at this
    exact this

set_option maxRecDepth 100000 in
set_option maxHeartbeats 3200000 in
theorem mem_nil (w : World) :
    Calls Try.prog 15 #[.slice none 0 0] w fun e w' => ∃ p m ok t, e = .returned (.tuple #[.agg #[.pointer p, .int .i64 m], .bool ok]) ∧ Below w.heap.size w w' ∧ MAt w' p m t ∧ m ≤ 256 ∧ (ok = true → RelT t []) := by
  have HS := Lib.hid (show SlP w (.slice none 0 0) [] from SlAt.nil _ _)
  have HB := Lib.hid (show Bd [] from fun p hp => by simp at hp)
  have d0 : decide (200 < (0 : Int)) = false := by decide
  go_enter Try.func15, Try.ntmps15
  go_upto_region 1 with fail
  refine to_cls ?_
  intro U hU z
  have r_r : ∀ z : Wb U, Row z.at w.heap.size [.pointer none, .int .i64 0] 38 := Row.next (Row.new _ [.pointer none, .int .i64 0] _) hU
  have bU := Lib.hid (show Below w.heap.size w U from (KB.alloc (Below.refl _ _) _).trans (hU.mono (by simp)))
  clear hU
  obtain ⟨R, hR⟩ : ∃ R, R = w.heap.size := ⟨_, rfl⟩
  rw [← hR] at r_r
  simp only [← hR]
  have wR := Lib.hid (show w.heap.size ≤ R by omega)
  clear hR
  have s0 : ∀ z : Wb U, z.at.cell? ⟨R, 0, none⟩ = some (.pointer none) := fun z => (r_r z).cell 0
  have s1 : ∀ z : Wb U, z.at.cell? ⟨R, 1, none⟩ = some (.int .i64 0) := fun z => (r_r z).cell 1
  have fs : ∀ (z : Wb U) (i : Nat), z.at.frozen? ⟨R, i, none⟩ = false := fun z i => (r_r z).free i
  have bz := Lib.hid (show Below w.heap.size w z.at from bU.out.trans (z.bel.mono bU.out.size))
  go_wp2_with fail
  refine (rof_any _ [] z.at (HS.out.below bz.out) HB.out (by simp)).mono ?_
  rintro e w2 ⟨v2, C, rfl, b2⟩
  obtain ⟨z2, rfl⟩ := Wb.next (x := z) b2
  clear b2
  by_cases cc : C = 0
  · have cb : (C != 0) = false := by simpa using cc
    clear cc
    have b2 := Lib.hid (show Below w.heap.size w z2.at from bU.out.trans (z2.bel.mono bU.out.size))
    go_wp2_with fail
    refine (of_any _ [] z2.at (HS.out.below b2.out) HB.out (by simp)).mono ?_
    rintro e w3 ⟨p, m, c, t, rfl, b3, ma, m256, rl⟩
    obtain ⟨z3, rfl⟩ := Wb.next (x := z2) b3
    have MA := Lib.hid ma
    have M2 := Lib.hid m256
    have RL := Lib.hid rl
    clear b3 ma m256 rl
    go_upto_region 7 with fail
    refine to_cls ?_
    intro U2 hU2 z4
    have b3 := Lib.hid (show Below w.heap.size w z3.at from bU.out.trans (z3.bel.mono bU.out.size))
    have bU2 := Lib.hid (show Below w.heap.size w U2 from (KB.alloc b3.out _).trans (hU2.mono (KB.alloc b3.out _).size))
    have r_q : ∀ z : Wb U2, Row z.at z3.at.heap.size [.pointer p, .int .i64 m] 38 := Row.next (Row.new _ [.pointer p, .int .i64 m] _) hU2
    have r_r2 : ∀ z : Wb U2, Row z.at R [.pointer none, .int .i64 0] 38 := Row.next ((r_r z3).old _) hU2
    have MA2 := Lib.hid (fun z : Wb U2 => MAt.below (MA.out.below (KB.alloc (Below.refl _ _) _ : Below z3.at.heap.size z3.at _)) (hU2.trans (z.bel.mono hU2.size)))
    clear hU2 s0 s1 fs
    have q0 : ∀ z : Wb U2, z.at.cell? ⟨z3.at.heap.size, 0, none⟩ = some (.pointer p) := fun z => (r_q z).cell 0
    have q1 : ∀ z : Wb U2, z.at.cell? ⟨z3.at.heap.size, 1, none⟩ = some (.int .i64 m) := fun z => (r_q z).cell 1
    have s0 : ∀ z : Wb U2, z.at.cell? ⟨R, 0, none⟩ = some (.pointer none) := fun z => (r_r2 z).cell 0
    have s1 : ∀ z : Wb U2, z.at.cell? ⟨R, 1, none⟩ = some (.int .i64 0) := fun z => (r_r2 z).cell 1
    have fs : ∀ (z : Wb U2) (i : Nat), z.at.frozen? ⟨R, i, none⟩ = false := fun z i => (r_r2 z).free i
    go_wp2
    have b4 : Below w.heap.size w z4.at := bU2.out.trans (z4.bel.mono bU2.out.size)
    refine bodyPost_ret (v := .tuple #[.agg #[.pointer p, .int .i64 m], .bool (c == 0)]) (by simp [results, Try.results15, go_sem, *]) rfl ⟨p, m, (c == 0), t, rfl, KB.put (KB.put b4 wR.out 0 _) wR.out 1 _, ((MA2.out z4).set (r_r2 z4) (by simp) 0 _).set ((r_r2 z4).set 0 _) (by simp) 1 _, M2.out, fun e => RL.out (by simpa using e)⟩
  · have cb : (C != 0) = true := by simpa using cc
    clear cc
    go_wp2
    refine bodyPost_ret (v := .tuple #[.agg #[.pointer none, .int .i64 0], .bool false]) (by simp [results, Try.results15, go_sem, *]) rfl ⟨none, 0, false, none, rfl, KB.put (KB.put (bU.out.trans (z2.bel.mono bU.out.size)) wR.out 0 _) wR.out 1 _, ⟨rfl, rfl, trivial⟩, by omega, fun e => by cases e⟩

set_option maxRecDepth 100000 in
set_option maxHeartbeats 3200000 in
theorem mem_some (a : Addr) (n cp : Nat) (L : List (Int × Int)) (w : World) (h : SlP w (.slice (some a) n cp) L) (hb : Bd L) :
    Calls Try.prog 15 #[.slice (some a) n cp] w fun e w' => ∃ p m ok t, e = .returned (.tuple #[.agg #[.pointer p, .int .i64 m], .bool ok]) ∧ Below w.heap.size w w' ∧ MAt w' p m t ∧ m ≤ 256 ∧ (ok = true → RelT t L) := by
  have HN := Lib.hid h.len
  have HS := Lib.hid h
  have HB := Lib.hid hb
  clear h hb
  by_cases c0 : 200 < (n : Int)
  · have d0 : decide (200 < (n : Int)) = true := by simpa using c0
    clear c0
    go_enter Try.func15, Try.ntmps15
    go_upto_region 1 with fail
    refine to_cls ?_
    intro U hU z
    have r_r : ∀ z : Wb U, Row z.at w.heap.size [.pointer none, .int .i64 0] 38 := Row.next (Row.new _ [.pointer none, .int .i64 0] _) hU
    have bU := Lib.hid (show Below w.heap.size w U from (KB.alloc (Below.refl _ _) _).trans (hU.mono (by simp)))
    clear hU
    obtain ⟨R, hR⟩ : ∃ R, R = w.heap.size := ⟨_, rfl⟩
    rw [← hR] at r_r
    simp only [← hR]
    have wR := Lib.hid (show w.heap.size ≤ R by omega)
    clear hR
    have s0 : ∀ z : Wb U, z.at.cell? ⟨R, 0, none⟩ = some (.pointer none) := fun z => (r_r z).cell 0
    have s1 : ∀ z : Wb U, z.at.cell? ⟨R, 1, none⟩ = some (.int .i64 0) := fun z => (r_r z).cell 1
    have fs : ∀ (z : Wb U) (i : Nat), z.at.frozen? ⟨R, i, none⟩ = false := fun z i => (r_r z).free i
    go_wp2
    refine bodyPost_ret (v := .tuple #[.agg #[.pointer none, .int .i64 0], .bool false]) (by simp [results, Try.results15, go_sem, *]) rfl ⟨none, 0, false, none, rfl, KB.put (KB.put (bU.out.trans (z.bel.mono bU.out.size)) wR.out 0 _) wR.out 1 _, ⟨rfl, rfl, trivial⟩, by omega, fun e => by cases e⟩
  have d0 : decide (200 < (n : Int)) = false := by simpa using c0
  have bn : n ≤ 200 := by omega
  clear c0
  go_enter Try.func15, Try.ntmps15
  go_upto_region 1 with fail
  refine to_cls ?_
  intro U hU z
  have r_r : ∀ z : Wb U, Row z.at w.heap.size [.pointer none, .int .i64 0] 38 := Row.next (Row.new _ [.pointer none, .int .i64 0] _) hU
  have bU := Lib.hid (show Below w.heap.size w U from (KB.alloc (Below.refl _ _) _).trans (hU.mono (by simp)))
  clear hU
  obtain ⟨R, hR⟩ : ∃ R, R = w.heap.size := ⟨_, rfl⟩
  rw [← hR] at r_r
  simp only [← hR]
  have wR := Lib.hid (show w.heap.size ≤ R by omega)
  clear hR
  have s0 : ∀ z : Wb U, z.at.cell? ⟨R, 0, none⟩ = some (.pointer none) := fun z => (r_r z).cell 0
  have s1 : ∀ z : Wb U, z.at.cell? ⟨R, 1, none⟩ = some (.int .i64 0) := fun z => (r_r z).cell 1
  have fs : ∀ (z : Wb U) (i : Nat), z.at.frozen? ⟨R, i, none⟩ = false := fun z i => (r_r z).free i
  have bz := Lib.hid (show Below w.heap.size w z.at from bU.out.trans (z.bel.mono bU.out.size))
  go_wp2_with fail
  refine (rof_any _ L z.at (HS.out.below bz.out) HB.out (by rw [← HN.out]; omega)).mono ?_
  rintro e w2 ⟨v2, C, rfl, b2⟩
  obtain ⟨z2, rfl⟩ := Wb.next (x := z) b2
  clear b2
  by_cases cc : C = 0
  · have cb : (C != 0) = false := by simpa using cc
    clear cc
    have b2 := Lib.hid (show Below w.heap.size w z2.at from bU.out.trans (z2.bel.mono bU.out.size))
    go_wp2_with fail
    refine (of_any _ L z2.at (HS.out.below b2.out) HB.out (by rw [← HN.out]; omega)).mono ?_
    rintro e w3 ⟨p, m, c, t, rfl, b3, ma, m256, rl⟩
    obtain ⟨z3, rfl⟩ := Wb.next (x := z2) b3
    have MA := Lib.hid ma
    have M2 := Lib.hid m256
    have RL := Lib.hid rl
    clear b3 ma m256 rl
    go_upto_region 7 with fail
    refine to_cls ?_
    intro U2 hU2 z4
    have b3 := Lib.hid (show Below w.heap.size w z3.at from bU.out.trans (z3.bel.mono bU.out.size))
    have bU2 := Lib.hid (show Below w.heap.size w U2 from (KB.alloc b3.out _).trans (hU2.mono (KB.alloc b3.out _).size))
    have r_q : ∀ z : Wb U2, Row z.at z3.at.heap.size [.pointer p, .int .i64 m] 38 := Row.next (Row.new _ [.pointer p, .int .i64 m] _) hU2
    have r_r2 : ∀ z : Wb U2, Row z.at R [.pointer none, .int .i64 0] 38 := Row.next ((r_r z3).old _) hU2
    have MA2 := Lib.hid (fun z : Wb U2 => MAt.below (MA.out.below (KB.alloc (Below.refl _ _) _ : Below z3.at.heap.size z3.at _)) (hU2.trans (z.bel.mono hU2.size)))
    clear hU2 s0 s1 fs
    have q0 : ∀ z : Wb U2, z.at.cell? ⟨z3.at.heap.size, 0, none⟩ = some (.pointer p) := fun z => (r_q z).cell 0
    have q1 : ∀ z : Wb U2, z.at.cell? ⟨z3.at.heap.size, 1, none⟩ = some (.int .i64 m) := fun z => (r_q z).cell 1
    have s0 : ∀ z : Wb U2, z.at.cell? ⟨R, 0, none⟩ = some (.pointer none) := fun z => (r_r2 z).cell 0
    have s1 : ∀ z : Wb U2, z.at.cell? ⟨R, 1, none⟩ = some (.int .i64 0) := fun z => (r_r2 z).cell 1
    have fs : ∀ (z : Wb U2) (i : Nat), z.at.frozen? ⟨R, i, none⟩ = false := fun z i => (r_r2 z).free i
    go_wp2
    have b4 : Below w.heap.size w z4.at := bU2.out.trans (z4.bel.mono bU2.out.size)
    refine bodyPost_ret (v := .tuple #[.agg #[.pointer p, .int .i64 m], .bool (c == 0)]) (by simp [results, Try.results15, go_sem, *]) rfl ⟨p, m, (c == 0), t, rfl, KB.put (KB.put b4 wR.out 0 _) wR.out 1 _, ((MA2.out z4).set (r_r2 z4) (by simp) 0 _).set ((r_r2 z4).set 0 _) (by simp) 1 _, M2.out, fun e => RL.out (by simpa using e)⟩
  · have cb : (C != 0) = true := by simpa using cc
    clear cc
    go_wp2
    refine bodyPost_ret (v := .tuple #[.agg #[.pointer none, .int .i64 0], .bool false]) (by simp [results, Try.results15, go_sem, *]) rfl ⟨none, 0, false, none, rfl, KB.put (KB.put (bU.out.trans (z2.bel.mono bU.out.size)) wR.out 0 _) wR.out 1 _, ⟨rfl, rfl, trivial⟩, by omega, fun e => by cases e⟩
theorem mem_any (v : Value) (L : List (Int × Int)) (w : World) (h : SlP w v L) (hb : Bd L) :
    Calls Try.prog 15 #[v] w fun e w' => ∃ p m ok t, e = .returned (.tuple #[.agg #[.pointer p, .int .i64 m], .bool ok]) ∧ Below w.heap.size w w' ∧ MAt w' p m t ∧ m ≤ 256 ∧ (ok = true → RelT t L) := by
  have h' := h
  obtain ⟨_, ⟨rfl, h0⟩ | ⟨a, c, rfl, _⟩⟩ := h'
  · obtain rfl : L = [] := List.eq_nil_of_length_eq_zero h0
    exact mem_nil w
  · exact mem_some a _ c L w h hb
end Go.Proofs.Ytnpgpbcpgniloaa
