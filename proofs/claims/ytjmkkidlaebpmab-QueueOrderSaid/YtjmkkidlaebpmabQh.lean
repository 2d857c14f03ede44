/-
  Layer 19, the walks: the law of order.
-/
import Derived.Test.YtjmkkidlaebpmabQg
import Derived.Laws.AppendOwnNone
set_option linter.unusedSimpArgs false
set_option linter.unusedVariables false
namespace Go.Proofs.Ytjmkkidlaebpmab
open Go.Conc Go.RowKit

set_option maxRecDepth 100000 in
set_option maxHeartbeats 3200000 in
theorem QueueOrder_nil (L : List Int) (room : Int) (w : World) (h : SlAt w (.slice none 0 0) 1 0 (L.map (Value.int .i64))) :
    Calls Try.prog 5 #[.slice none 0 0, .int .i64 room] w fun e w' => e = .returned (.bool true) ∧ Below w.heap.size w w' := by
  have AW := Lib.hid (fun w => qawake_any w)
  obtain ⟨i0, hi, hz0, hz1, hz2⟩ := info_parts ibytes
  have HS := Lib.hid h
  have LL := Lib.hid (show L.length = 0 by simpa using h.len)
  clear h
  by_cases c1 : room < 1
  · have d1 : decide (room < 1) = true := by simpa using c1
    clear c1
    go_enter Try.func5, Try.ntmps5
    go_wp2_with fail
    refine (AW.out _).mono ?_
    rintro e w1 ⟨rfl, b⟩
    have B := Lib.hid b
    clear b
    go_wp2
    go_ret
    exact ⟨by first | rfl | simp, B.out⟩
  by_cases c2 : 50 < room
  · have d1 : decide (room < 1) = false := by simpa using c1
    have d2 : decide (50 < room) = true := by simpa using c2
    clear c1 c2
    go_enter Try.func5, Try.ntmps5
    go_wp2_with fail
    refine (AW.out _).mono ?_
    rintro e w1 ⟨rfl, b⟩
    have B := Lib.hid b
    clear b
    go_wp2
    go_ret
    exact ⟨by first | rfl | simp, B.out⟩
  obtain ⟨r, rfl⟩ : ∃ r : Nat, room = r := ⟨room.toNat, by omega⟩
  have d1 : decide ((r : Int) < 1) = false := by simpa using c1
  have d2 : decide (50 < (r : Int)) = false := by simpa using c2
  have r0 : 0 < r := by omega
  have r1 : r ≤ 50 := by omega
  clear c1 c2
  go_enter Try.func5, Try.ntmps5
  go_wp2_with fail
  refine (AW.out _).mono ?_
  rintro e w1 ⟨rfl, b⟩
  have B := Lib.hid b
  clear b
  have NN := Lib.hid (inew_any r w1 r0 (by omega))
  obtain ⟨m1, m2, m3⟩ := made w1 r 57
  have H := Lib.hid m1
  have K := Lib.hid m2
  have B1 := Lib.hid m3
  clear m1 m2 m3 AW
  go_wp2_with fail
  refine NN.out.mono ?_
  rintro e w2 ⟨rfl, rfl⟩
  clear NN
  go_wp2_with fail
  obtain ⟨W, hW⟩ : ∃ W, W = ((w1.alloc (.chan r #[] false 0 0 false)).alloc (.cells #[.chan (some w1.heap.size)] 57)) := ⟨_, rfl⟩
  rw [← hW] at H K B1 ⊢
  clear hW
  have cl := K.out.lt
  have HW := Lib.hid (HS.out.below (B.out.trans (B1.out.mono B.out.size)))
  have b0 := B.out.size
  go_loopw [7, 8] (fun v i wr => ∃ (k : Nat) (O N : List Int), k ≤ 0 ∧ i = .int .i64 k ∧ L.take k = O ++ N ∧ N.length ≤ r ∧ Ch wr w1.heap.size r (N.map (Value.int .i64)) ∧ wr.ownsRow W.heap.size 3 1 v O.length (O.map (Value.int .i64)) ∧ Only w1.heap.size W wr) (fun _ i _ => 0 - (intOf i).toNat)
  case atStart => exact ⟨0, [], [], by omega, rfl, rfl, by simp, by simpa using K.out, World.ownsRow_nil _ _ _ _, Only.refl _ _⟩
  case round =>
    obtain ⟨k, O, N, hk, rfl, hON, hNr, hch, how, hon⟩ := hrel
    have E := Lib.hid hON
    have HC := Lib.hid hch
    have HO := Lib.hid how
    have OO := Lib.hid hon
    have NR := Lib.hid hNr
    have HQ := Lib.hid (H.out.only OO.out (by omega))
    clear hON hch how hon hNr
    obtain rfl : k = 0 := by omega
    have EL := Lib.hid (show L = O ++ N by rw [← E.out, ← LL.out, List.take_length])
    have LS := Lib.hid (show O.length + N.length = 0 by have := congrArg List.length EL.out; rw [LL.out, List.length_append] at this; omega)
    go_wp2_with fail
    refine (idrain_any _ _ r N wr (by have := LS.out; omega) HQ.out HC.out).mono ?_
    rintro e w3 ⟨v2, rfl, o3, c3, ow3⟩
    have O3 := Lib.hid (OO.out.trans o3)
    have HO3 := Lib.hid (own_keep HO.out (fun g hb hg => o3.block g hg (by omega)))
    have OW := Lib.hid (own_open ow3)
    have S3 := Lib.hid (HW.out.only O3.out K.out)
    have BB := Lib.hid (show Below w.heap.size w w3 from (B.out.trans (B1.out.mono b0)).trans (O3.out.below b0 (by have := B1.out.size; omega)))
    clear o3 c3 ow3
    rcases OW.out with ⟨rfl, hn⟩ | ⟨g, cp, rfl, hg, hgl, hcells⟩
    · obtain rfl : N = [] := List.eq_nil_of_length_eq_zero hn
      have SO := Lib.hid (show SlAt w3 _ 1 L.length (L.map (Value.int .i64)) by rw [EL.out, List.append_nil]; exact SlAt.own HO3.out)
      have SI := Lib.hid (show SlAt w3 (.slice none 0 0) 1 L.length (L.map (Value.int .i64)) by rw [LL.out]; exact S3.out)
      have lb := Lib.hid (show L.length ≤ 400000 by rw [LL.out]; have := LS.out; omega)
      clear hn
      go_wp2_with (at_builtin; refine wpList_append_own_none rfl (.tmp 68) (.tmp 70) 28 rfl W.heap.size 3 i0 1 Try.underlying28 hi _ _ _ rfl HO3.out rfl ?_)
      go_wp2_with fail
      refine (qsame_any _ _ L w3 SO.out SI.out lb.out).mono ?_
      rintro e w4 ⟨rfl, b4⟩
      have B4 := Lib.hid b4
      clear b4
      go_wp2
      go_ret
      exact ⟨rfl, BB.out.trans (B4.out.mono BB.out.size)⟩
    · have CE := Lib.hid (show ∀ j u, (N.map (Value.int .i64))[j]? = some u → w3.cell? ((⟨g, 0, none⟩ : Addr).add j) = some u from fun j u hj => by
        have e : (⟨g, 0, none⟩ : Addr).add j = ⟨g, j, none⟩ := by unfold Addr.add; split <;> simp_all
        rw [e]
        exact hcells j u hj)
      have k1 := Lib.hid (show (N.map (Value.int .i64)).length = N.length * 1 by simp)
      have k3 := Lib.hid (show ∀ u ∈ N.map (Value.int .i64), u.oneCell' = true from fun u hu => by obtain ⟨a, _, rfl⟩ := List.mem_map.1 hu; rfl)
      have k4 := Lib.hid (show O.length + N.length ≤ maxLen by unfold maxLen; have := LS.out; omega)
      have k5 := Lib.hid (show (O.length + N.length) * 8 ≤ 140737488355328 by have := LS.out; omega)
      have k6 := Lib.hid (show W.heap.size ≤ w3.heap.size from O3.out.size)
      have ON := Lib.hid (show O.length + N.length = L.length by rw [LL.out]; have := LS.out; omega)
      have lb := Lib.hid (show L.length ≤ 400000 by rw [LL.out]; have := LS.out; omega)
      clear hg hgl hcells OW
      go_wp2_with (at_builtin; refine wpList_append_own _ rfl (.tmp 68) (.tmp 70) 28 rfl W.heap.size 3 i0 (.int .i64 0) 1 8 Try.underlying28 hi hz0 hz1 hz2 rfl (by decide) _ _ _ rfl HO3.out ⟨g, 0, none⟩ N.length cp (N.map (Value.int .i64)) rfl k1.out CE.out k3.out k4.out k5.out k6.out ?_)
      intro v1 w4 h1 hg1 _
      have B4 := Lib.hid (show Below W.heap.size w3 w4 from (Below.refl _ _).grown hg1 k6.out (fun k hk => (HO3.out.lt k hk).1))
      have SO := Lib.hid (show SlAt w4 v1 1 L.length (L.map (Value.int .i64)) by rw [← ON.out, EL.out, List.map_append]; exact SlAt.own h1)
      have SI := Lib.hid (show SlAt w4 (.slice none 0 0) 1 L.length (L.map (Value.int .i64)) by rw [LL.out]; exact HS.out.below (BB.out.trans (B4.out.mono (by have := B1.out.size; omega))))
      clear h1 hg1
      go_wp2_with fail
      refine (qsame_any _ _ L w4 SO.out SI.out lb.out).mono ?_
      rintro e w5 ⟨rfl, b5⟩
      have B5 := Lib.hid b5
      clear b5
      go_wp2
      go_ret
      exact ⟨rfl, (BB.out.trans (B4.out.mono (by have := B1.out.size; omega))).trans (B5.out.mono (by have := BB.out.size; have := B4.out.size; omega))⟩

set_option maxRecDepth 100000 in
set_option maxHeartbeats 3200000 in
theorem QueueOrder_some (a : Addr) (n cap : Nat) (L : List Int) (room : Int) (w : World) (h : SlAt w (.slice (some a) n cap) 1 n (L.map (Value.int .i64))) (ncap : n ≤ cap) (capm : cap ≤ maxLen) :
    Calls Try.prog 5 #[.slice (some a) n cap, .int .i64 room] w fun e w' => e = .returned (.bool true) ∧ Below w.heap.size w w' := by
  have AW := Lib.hid (fun w => qawake_any w)
  obtain ⟨i0, hi, hz0, hz1, hz2⟩ := info_parts ibytes
  have HS := Lib.hid h
  have LL := Lib.hid (show L.length = n by simpa using h.len)
  clear h
  by_cases c0 : 200 < (n : Int)
  · have d0 : decide (200 < (n : Int)) = true := by simpa using c0
    clear c0
    go_enter Try.func5, Try.ntmps5
    go_wp2_with fail
    refine (AW.out _).mono ?_
    rintro e w1 ⟨rfl, b⟩
    have B := Lib.hid b
    clear b
    go_wp2
    go_ret
    exact ⟨by first | rfl | simp, B.out⟩
  have d0 : decide (200 < (n : Int)) = false := by simpa using c0
  by_cases c1 : room < 1
  · have d1 : decide (room < 1) = true := by simpa using c1
    clear c1
    go_enter Try.func5, Try.ntmps5
    go_wp2_with fail
    refine (AW.out _).mono ?_
    rintro e w1 ⟨rfl, b⟩
    have B := Lib.hid b
    clear b
    go_wp2
    go_ret
    exact ⟨by first | rfl | simp, B.out⟩
  by_cases c2 : 50 < room
  · have d1 : decide (room < 1) = false := by simpa using c1
    have d2 : decide (50 < room) = true := by simpa using c2
    clear c1 c2
    go_enter Try.func5, Try.ntmps5
    go_wp2_with fail
    refine (AW.out _).mono ?_
    rintro e w1 ⟨rfl, b⟩
    have B := Lib.hid b
    clear b
    go_wp2
    go_ret
    exact ⟨by first | rfl | simp, B.out⟩
  obtain ⟨r, rfl⟩ : ∃ r : Nat, room = r := ⟨room.toNat, by omega⟩
  have d1 : decide ((r : Int) < 1) = false := by simpa using c1
  have d2 : decide (50 < (r : Int)) = false := by simpa using c2
  have r0 : 0 < r := by omega
  have r1 : r ≤ 50 := by omega
  have nb : n ≤ 200 := by omega
  clear c0
  clear c1 c2
  go_enter Try.func5, Try.ntmps5
  go_wp2_with fail
  refine (AW.out _).mono ?_
  rintro e w1 ⟨rfl, b⟩
  have B := Lib.hid b
  clear b
  have NN := Lib.hid (inew_any r w1 r0 (by omega))
  obtain ⟨m1, m2, m3⟩ := made w1 r 57
  have H := Lib.hid m1
  have K := Lib.hid m2
  have B1 := Lib.hid m3
  clear m1 m2 m3 AW
  go_wp2_with fail
  refine NN.out.mono ?_
  rintro e w2 ⟨rfl, rfl⟩
  clear NN
  go_wp2_with fail
  obtain ⟨W, hW⟩ : ∃ W, W = ((w1.alloc (.chan r #[] false 0 0 false)).alloc (.cells #[.chan (some w1.heap.size)] 57)) := ⟨_, rfl⟩
  rw [← hW] at H K B1 ⊢
  clear hW
  have cl := K.out.lt
  have HW := Lib.hid (HS.out.below (B.out.trans (B1.out.mono B.out.size)))
  have b0 := B.out.size
  go_loopw [7, 8] (fun v i wr => ∃ (k : Nat) (O N : List Int), k ≤ n ∧ i = .int .i64 k ∧ L.take k = O ++ N ∧ N.length ≤ r ∧ Ch wr w1.heap.size r (N.map (Value.int .i64)) ∧ wr.ownsRow W.heap.size 3 1 v O.length (O.map (Value.int .i64)) ∧ Only w1.heap.size W wr) (fun _ i _ => n - (intOf i).toNat)
  case atStart => exact ⟨0, [], [], by omega, rfl, rfl, by simp, by simpa using K.out, World.ownsRow_nil _ _ _ _, Only.refl _ _⟩
  case round =>
    obtain ⟨k, O, N, hk, rfl, hON, hNr, hch, how, hon⟩ := hrel
    have E := Lib.hid hON
    have HC := Lib.hid hch
    have HO := Lib.hid how
    have OO := Lib.hid hon
    have NR := Lib.hid hNr
    have HQ := Lib.hid (H.out.only OO.out (by omega))
    clear hON hch how hon hNr
    by_cases ck : k < n
    · have lk : k < L.length := by rw [LL.out]; exact ck
      have TK := Lib.hid (show L.take (k + 1) = L.take k ++ [L[k]] from List.take_succ_eq_append_getElem lk)
      have XV := Lib.hid (show ∀ (U : World), Only w1.heap.size W U → U.cell? (a.add k) = some (Value.int .i64 L[k]) from fun U o => by
        have := HW.out.only o K.out
        obtain ⟨_, ⟨_, h0⟩ | ⟨a', c', e, _, _, hx⟩⟩ := this
        · omega
        · injection e with e1 e2 e3
          injection e1 with e1
          subst e1
          exact hx k (Value.int .i64 L[k]) (by rw [List.getElem?_map, List.getElem?_eq_getElem lk]; rfl))
      obtain ⟨x, hx⟩ : ∃ x, x = L[k] := ⟨_, rfl⟩
      rw [← hx] at TK XV
      clear hx lk
      have cx := XV.out wr OO.out
      by_cases cf : N.length < r
      · go_wp2_with fail
        refine (iput_room _ _ r (N.map (Value.int .i64)) x wr HQ.out HC.out (by simpa using cf)).mono ?_
        rintro e w3 ⟨rfl, o3, c3⟩
        have O3 := Lib.hid o3
        have C3 := Lib.hid c3
        have HO3 := Lib.hid (own_keep HO.out (fun g hb hg => o3.block g hg (by omega)))
        clear o3 c3 cx
        go_wp2
        go_roundw
        case rel => exact ⟨k + 1, O, N ++ [x], by omega, by go_num, by rw [TK.out, E.out, List.append_assoc], by simp; omega, by rw [List.map_append]; exact C3.out, HO3.out, OO.out.trans O3.out⟩
        case measure => simp [intOf]; omega
      · cases N with
        | nil => exact absurd r0 cf
        | cons y N =>
          have nr : N.length + 1 = r := by have := NR.out; simp only [List.length_cons] at this cf; omega
          have lo : O.length ≤ 200 := by
            have := congrArg List.length E.out
            simp at this
            omega
          go_wp2_with fail
          refine (iput_full _ _ r ((y :: N).map (Value.int .i64)) x wr HQ.out HC.out (by simp; omega)).mono ?_
          rintro e w3 ⟨rfl, rfl⟩
          go_wp2_with fail
          refine (itake_some _ _ r (N.map (Value.int .i64)) y wr HQ.out HC.out).mono ?_
          rintro e w3 ⟨rfl, o3, c3⟩
          have O3 := Lib.hid (OO.out.trans o3)
          have C3 := Lib.hid c3
          have HO3 := Lib.hid (own_keep HO.out (fun g hb hg => o3.block g hg (by omega)))
          have HQ3 := Lib.hid (HQ.out.only o3 (by omega))
          clear o3 c3 cx
          have cx := XV.out w3 O3.out
          go_wp2_with fail
          refine (iput_room _ _ r (N.map (Value.int .i64)) x w3 HQ3.out C3.out (by simp; omega)).mono ?_
          rintro e w4 ⟨rfl, o4, c4⟩
          have O4 := Lib.hid (O3.out.trans o4)
          have C4 := Lib.hid c4
          have HO4 := Lib.hid (own_keep HO3.out (fun g hb hg => o4.block g hg (by omega)))
          clear o4 c4 cx
          have k2 := Lib.hid (app_cell w4 (Value.int .i64 y))
          have k3 := Lib.hid (show ∀ u ∈ [Value.int .i64 y], u.oneCell' = true by simp [Value.oneCell'])
          have k4 := Lib.hid (show O.length + 1 ≤ maxLen by unfold maxLen; omega)
          have k5 := Lib.hid (show (O.length + 1) * 8 ≤ 140737488355328 by omega)
          have k6 := Lib.hid (show ∀ o : Obj, W.heap.size ≤ (w4.alloc o).heap.size from fun o => by have := O4.out.size; simp; omega)
          go_wp2_with (at_builtin; refine wpList_append_own _ rfl (.tmp 64) (.tmp 66) 28 rfl W.heap.size 3 i0 (.int .i64 0) 1 8 Try.underlying28 hi hz0 hz1 hz2 rfl (by decide) _ _ _ rfl (HO4.out.alloc _) ⟨w4.heap.size, 0, none⟩ 1 1 [Value.int .i64 y] rfl rfl (k2.out _) k3.out k4.out k5.out (k6.out _) ?_)
          intro v1 w5 h1 hg1 _
          have CC := Lib.hid (show Ch w5 w1.heap.size r ((N ++ [x]).map (Value.int .i64)) ∧ Below W.heap.size w4 w5 from drain_rel (Nat.le_refl _) O4.out (by rw [List.map_append]; exact C4.out) cl HO4.out hg1)
          have HH := Lib.hid h1
          clear h1 hg1
          go_wp2
          go_roundw
          case rel => exact ⟨k + 1, O ++ [y], N ++ [x], by omega, by go_num, by rw [TK.out, E.out]; simp, by simp; omega, CC.out.1, by simpa using HH.out, O4.out.bel CC.out.2⟩
          case measure => simp [intOf]; omega
    · obtain rfl : n = k := by omega
      have EL := Lib.hid (show L = O ++ N by rw [← E.out, ← LL.out, List.take_length])
      have LS := Lib.hid (show O.length + N.length = n by have := congrArg List.length EL.out; rw [LL.out, List.length_append] at this; omega)
      go_wp2_with fail
      refine (idrain_any _ _ r N wr (by have := LS.out; omega) HQ.out HC.out).mono ?_
      rintro e w3 ⟨v2, rfl, o3, c3, ow3⟩
      have O3 := Lib.hid (OO.out.trans o3)
      have HO3 := Lib.hid (own_keep HO.out (fun g hb hg => o3.block g hg (by omega)))
      have OW := Lib.hid (own_open ow3)
      have S3 := Lib.hid (HW.out.only O3.out K.out)
      have BB := Lib.hid (show Below w.heap.size w w3 from (B.out.trans (B1.out.mono b0)).trans (O3.out.below b0 (by have := B1.out.size; omega)))
      clear o3 c3 ow3
      rcases OW.out with ⟨rfl, hn⟩ | ⟨g, cp, rfl, hg, hgl, hcells⟩
      · obtain rfl : N = [] := List.eq_nil_of_length_eq_zero hn
        have SO := Lib.hid (show SlAt w3 _ 1 L.length (L.map (Value.int .i64)) by rw [EL.out, List.append_nil]; exact SlAt.own HO3.out)
        have SI := Lib.hid (show SlAt w3 (.slice (some a) n cap) 1 L.length (L.map (Value.int .i64)) by rw [LL.out]; exact S3.out)
        have lb := Lib.hid (show L.length ≤ 400000 by rw [LL.out]; have := LS.out; omega)
        clear hn
        go_wp2_with (at_builtin; refine wpList_append_own_none rfl (.tmp 68) (.tmp 70) 28 rfl W.heap.size 3 i0 1 Try.underlying28 hi _ _ _ rfl HO3.out rfl ?_)
        go_wp2_with fail
        refine (qsame_any _ _ L w3 SO.out SI.out lb.out).mono ?_
        rintro e w4 ⟨rfl, b4⟩
        have B4 := Lib.hid b4
        clear b4
        go_wp2
        go_ret
        exact ⟨rfl, BB.out.trans (B4.out.mono BB.out.size)⟩
      · have CE := Lib.hid (show ∀ j u, (N.map (Value.int .i64))[j]? = some u → w3.cell? ((⟨g, 0, none⟩ : Addr).add j) = some u from fun j u hj => by
          have e : (⟨g, 0, none⟩ : Addr).add j = ⟨g, j, none⟩ := by unfold Addr.add; split <;> simp_all
          rw [e]
          exact hcells j u hj)
        have k1 := Lib.hid (show (N.map (Value.int .i64)).length = N.length * 1 by simp)
        have k3 := Lib.hid (show ∀ u ∈ N.map (Value.int .i64), u.oneCell' = true from fun u hu => by obtain ⟨a, _, rfl⟩ := List.mem_map.1 hu; rfl)
        have k4 := Lib.hid (show O.length + N.length ≤ maxLen by unfold maxLen; have := LS.out; omega)
        have k5 := Lib.hid (show (O.length + N.length) * 8 ≤ 140737488355328 by have := LS.out; omega)
        have k6 := Lib.hid (show W.heap.size ≤ w3.heap.size from O3.out.size)
        have ON := Lib.hid (show O.length + N.length = L.length by rw [LL.out]; have := LS.out; omega)
        have lb := Lib.hid (show L.length ≤ 400000 by rw [LL.out]; have := LS.out; omega)
        clear hg hgl hcells OW
        go_wp2_with (at_builtin; refine wpList_append_own _ rfl (.tmp 68) (.tmp 70) 28 rfl W.heap.size 3 i0 (.int .i64 0) 1 8 Try.underlying28 hi hz0 hz1 hz2 rfl (by decide) _ _ _ rfl HO3.out ⟨g, 0, none⟩ N.length cp (N.map (Value.int .i64)) rfl k1.out CE.out k3.out k4.out k5.out k6.out ?_)
        intro v1 w4 h1 hg1 _
        have B4 := Lib.hid (show Below W.heap.size w3 w4 from (Below.refl _ _).grown hg1 k6.out (fun k hk => (HO3.out.lt k hk).1))
        have SO := Lib.hid (show SlAt w4 v1 1 L.length (L.map (Value.int .i64)) by rw [← ON.out, EL.out, List.map_append]; exact SlAt.own h1)
        have SI := Lib.hid (show SlAt w4 (.slice (some a) n cap) 1 L.length (L.map (Value.int .i64)) by rw [LL.out]; exact HS.out.below (BB.out.trans (B4.out.mono (by have := B1.out.size; omega))))
        clear h1 hg1
        go_wp2_with fail
        refine (qsame_any _ _ L w4 SO.out SI.out lb.out).mono ?_
        rintro e w5 ⟨rfl, b5⟩
        have B5 := Lib.hid b5
        clear b5
        go_wp2
        go_ret
        exact ⟨rfl, (BB.out.trans (B4.out.mono (by have := B1.out.size; omega))).trans (B5.out.mono (by have := BB.out.size; have := B4.out.size; omega))⟩

theorem QueueOrder_walk (v : Value) (n : Nat) (L : List Int) (room : Int) (w : World) (h : SlAt w v 1 n (L.map (Value.int .i64))) :
    Calls Try.prog 5 #[v, .int .i64 room] w fun e w' => e = .returned (.bool true) ∧ Below w.heap.size w w' := by
  have h' := h
  obtain ⟨_, ⟨rfl, rfl⟩ | ⟨a, cap, rfl, h1, h2, _⟩⟩ := h'
  · exact QueueOrder_nil L room w h
  · exact QueueOrder_some a n cap L room w h h1 h2
end Go.Proofs.Ytjmkkidlaebpmab
