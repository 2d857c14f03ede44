/-
  Layer 19, the walks: Grown.
-/
import Derived.Test.YtjmkkidlaebpmabQd
import Derived.Handy
set_option linter.unusedSimpArgs false
set_option linter.unusedVariables false
namespace Go.Proofs.Ytjmkkidlaebpmab
open Go.Conc Go.RowKit


/-! ### queues of int -/
theorem igrown_no (q c cap : Nat) (L : List Value) (m : Int) (w : World) (h : Row w q [.chan (some c)] 57) (k : Ch w c cap L) (hc : cap ≤ 200000) (hm : m < 0 ∨ 200000 < m ∨ 200000 < cap + m) (h0 : 0 < cap) :
    Calls Try.prog 14 #[.pointer (some ⟨q, 0, none⟩), .int .i64 m] w fun e w' => e = .returned (.tuple #[.pointer none, .int .i64 1]) ∧ w = w' := by
  by_cases c0 : m < 0
  · have d0 : decide (m < 0) = true := by simpa using c0
    clear hm c0
    go_enter Try.func14, Try.ntmps14
    go_wp2
    exact bodyPost_ret (v := .tuple #[.pointer none, .int .i64 1]) (by simp [results, Try.results14, go_sem, *]) rfl ⟨rfl, rfl⟩
  · have d0 : decide (m < 0) = false := by simpa using c0
    by_cases c1 : 200000 < m
    · have d1 : decide (200000 < m) = true := by simpa using c1
      clear hm c0 c1
      go_enter Try.func14, Try.ntmps14
      go_wp2
      exact bodyPost_ret (v := .tuple #[.pointer none, .int .i64 1]) (by simp [results, Try.results14, go_sem, *]) rfl ⟨rfl, rfl⟩
    · have d1 : decide (200000 < m) = false := by simpa using c1
      have RM := Lib.hid (iroom_any q c cap L w h k)
      have W1 : wrap64 ((cap : Int) + m) = cap + m := wrap64_small _ (by omega) (by omega)
      have NN := Lib.hid (inew_no ((cap : Int) + m) w (by omega))
      clear h k hm hc c0 c1 h0
      go_enter Try.func14, Try.ntmps14
      go_wp2_with fail
      refine RM.out.mono ?_
      rintro e w1 ⟨rfl, rfl⟩
      go_wp2_with fail
      refine NN.out.mono ?_
      rintro e w1 ⟨rfl, rfl⟩
      go_wp2
      exact bodyPost_ret (v := .tuple #[.pointer none, .int .i64 1]) (by simp [results, Try.results14, go_sem, *]) rfl ⟨rfl, rfl⟩

set_option maxRecDepth 100000 in
set_option maxHeartbeats 1600000 in
theorem igrown_any (q c cap m : Nat) (L : List Int) (w : World) (h : Row w q [.chan (some c)] 57) (k : Ch w c cap (L.map (Value.int .i64))) (hl : L.length ≤ cap) (h0 : 0 < cap) (hm : cap + m ≤ 200000) :
    Calls Try.prog 14 #[.pointer (some ⟨q, 0, none⟩), .int .i64 (m : Int)] w fun e w' => e = .returned (.tuple #[.pointer (some ⟨w.heap.size + 1, 0, none⟩), .int .i64 0]) ∧ (Only c w w' ∧ Ch w' c cap [] ∧ Row w' (w.heap.size + 1) [.chan (some w.heap.size)] 57 ∧ Ch w' w.heap.size (cap + m) (L.map (Value.int .i64))) := by
  have d0 : decide ((m : Int) < 0) = false := by simp
  have d1 : decide (200000 < (m : Int)) = false := by simp; omega
  have RM := Lib.hid (iroom_any q c cap _ w h k)
  have W1 : wrap64 ((cap : Int) + (m : Int)) = ((cap + m : Nat) : Int) := by rw [wrap64_small _ (by omega) (by omega)]; omega
  have NN := Lib.hid (inew_any (cap + m) w (by omega) hm)
  have cl := k.lt
  have ql := h.lt
  have K := Lib.hid (show Ch ((w.alloc (.chan (cap + m) #[] false 0 0 false)).alloc (.cells #[.chan (some w.heap.size)] 57)) c cap (L.map (Value.int .i64)) from (k.old _).old _)
  have H := Lib.hid (show Row ((w.alloc (.chan (cap + m) #[] false 0 0 false)).alloc (.cells #[.chan (some w.heap.size)] 57)) q [.chan (some c)] 57 from (h.old _).old _)
  have K2 := Lib.hid (show Ch ((w.alloc (.chan (cap + m) #[] false 0 0 false)).alloc (.cells #[.chan (some w.heap.size)] 57)) w.heap.size (cap + m) [] from (Ch.new w _ _ rfl).old _)
  have H2 := Lib.hid (show Row ((w.alloc (.chan (cap + m) #[] false 0 0 false)).alloc (.cells #[.chan (some w.heap.size)] 57)) (w.heap.size + 1) [.chan (some w.heap.size)] 57 from Row.new' _ [.chan (some w.heap.size)] _ _ (by simp))
  have B := Lib.hid (show Below w.heap.size w ((w.alloc (.chan (cap + m) #[] false 0 0 false)).alloc (.cells #[.chan (some w.heap.size)] 57)) from KB.alloc (KB.alloc (Below.refl _ _) _) _)
  have S := Lib.hid (show ((w.alloc (.chan (cap + m) #[] false 0 0 false)).alloc (.cells #[.chan (some w.heap.size)] 57)).heap.size = w.heap.size + 2 by simp)
  have LL := Lib.hid hl
  have LM := Lib.hid hm
  clear h k hl h0 hm
  go_enter Try.func14, Try.ntmps14
  go_wp2_with fail
  refine RM.out.mono ?_
  rintro e w1 ⟨rfl, rfl⟩
  go_wp2_with fail
  refine NN.out.mono ?_
  rintro e w1 ⟨rfl, rfl⟩
  go_wp2_with fail
  obtain ⟨W, hW⟩ : ∃ W, W = (w.alloc (.chan (cap + m) #[] false 0 0 false)).alloc (.cells #[.chan (some w.heap.size)] 57) := ⟨_, rfl⟩
  rw [← hW] at K H K2 H2 B S ⊢
  clear hW
  refine (idrain_any q c cap L W (by have := LL.out; have := LM.out; omega) H.out K.out).mono ?_
  rintro e w2 ⟨v, rfl, o2, c2, ow⟩
  have O2 := Lib.hid o2
  have C2 := Lib.hid c2
  have K3 := Lib.hid (K2.out.only o2 (by omega))
  have H3 := Lib.hid (H2.out.only o2 (by omega))
  have OW := Lib.hid (own_open ow)
  clear o2 c2 ow RM NN K H K2 H2
  rcases OW.out with ⟨rfl, hn⟩ | ⟨g, cp, rfl, hg, hgl, hcells⟩
  · obtain rfl : L = [] := List.eq_nil_of_length_eq_zero hn
    go_wp2_with fail
    refine wp_loop_rounds 2 ?_
    rw [rounds_succ]
    go_wp2_with fail
    exact bodyPost_ret (v := .tuple #[.pointer (some ⟨w.heap.size + 1, 0, none⟩), .int .i64 0]) (by simp [results, Try.results14, go_sem, *]) rfl ⟨rfl, (Only.of_below B.out).trans O2.out, C2.out, H3.out, K3.out⟩
  · have CE := Lib.hid hcells
    have G0 := Lib.hid hg
    have G1 := Lib.hid hgl
    clear hg hgl hcells OW
    obtain ⟨n, hn⟩ : ∃ n, n = L.length := ⟨_, rfl⟩
    rw [← hn]
    have nb : n ≤ 200000 := by rw [hn]; have := LL.out; have := LM.out; omega
    have HN := Lib.hid hn
    clear hn
    go_wp2_with fail
    go_loopw [30] (fun i wr => ∃ k : Nat, k ≤ n ∧ i = .int .i64 k ∧ Only w.heap.size w2 wr ∧ Ch wr w.heap.size (cap + m) ((L.take k).map (Value.int .i64))) (fun i _ => n - (intOf i).toNat)
    case atStart => exact ⟨0, by omega, rfl, Only.refl _ _, by simpa using K3.out⟩
    case round =>
      obtain ⟨k, hk, rfl, ho, hch⟩ := hrel
      have OO := Lib.hid ho
      have HC := Lib.hid hch
      clear ho hch
      by_cases ck : k < n
      · have lk : k < L.length := by rw [← HN.out]; exact ck
        have XV := Lib.hid (CE.out k (Value.int .i64 L[k]) (by rw [List.getElem?_map, List.getElem?_eq_getElem lk]; rfl))
        have TK := Lib.hid (show L.take (k + 1) = L.take k ++ [L[k]] from List.take_succ_eq_append_getElem lk)
        obtain ⟨x, hx⟩ : ∃ x, x = L[k] := ⟨_, rfl⟩
        rw [← hx] at XV TK
        have cx : wr.cell? ⟨g, k, none⟩ = some (Value.int .i64 x) := by
          rw [World.cell?_of_block (w := w2) (OO.out.block g G1.out (by have := G0.out; have := S.out; omega))]
          exact XV.out
        have PR := Lib.hid (iput_room (w.heap.size + 1) w.heap.size (cap + m) ((L.take k).map (Value.int .i64)) x wr (H3.out.only OO.out (by omega)) HC.out (by have := LL.out; simp; omega))
        clear hx lk
        go_wp2_with fail
        refine PR.out.mono ?_
        rintro e w3 ⟨rfl, o3, c3⟩
        have O3 := Lib.hid o3
        have C3 := Lib.hid c3
        clear o3 c3 cx
        go_wp2
        go_roundw
        case rel => exact ⟨k + 1, by omega, by go_num, OO.out.trans O3.out, by rw [TK.out, List.map_append]; exact C3.out⟩
        case measure => simp [intOf]; omega
      · obtain rfl : k = n := by omega
        go_wp2
        exact bodyPost_ret (v := .tuple #[.pointer (some ⟨w.heap.size + 1, 0, none⟩), .int .i64 0]) (by simp [results, Try.results14, go_sem, *]) rfl ⟨rfl, ((Only.of_below B.out).trans O2.out).bel (OO.out.below (Nat.le_refl _) (by have := O2.out.size; have := S.out; omega)), C2.out.only OO.out (by omega), H3.out.only OO.out (by omega), by have := HC.out; rw [HN.out, List.take_length] at this; exact this⟩

/-! ### queues of string -/
theorem sgrown_no (q c cap : Nat) (L : List Value) (m : Int) (w : World) (h : Row w q [.chan (some c)] 61) (k : Ch w c cap L) (hc : cap ≤ 200000) (hm : m < 0 ∨ 200000 < m ∨ 200000 < cap + m) (h0 : 0 < cap) :
    Calls Try.prog 21 #[.pointer (some ⟨q, 0, none⟩), .int .i64 m] w fun e w' => e = .returned (.tuple #[.pointer none, .int .i64 1]) ∧ w = w' := by
  by_cases c0 : m < 0
  · have d0 : decide (m < 0) = true := by simpa using c0
    clear hm c0
    go_enter Try.func21, Try.ntmps21
    go_wp2
    exact bodyPost_ret (v := .tuple #[.pointer none, .int .i64 1]) (by simp [results, Try.results21, go_sem, *]) rfl ⟨rfl, rfl⟩
  · have d0 : decide (m < 0) = false := by simpa using c0
    by_cases c1 : 200000 < m
    · have d1 : decide (200000 < m) = true := by simpa using c1
      clear hm c0 c1
      go_enter Try.func21, Try.ntmps21
      go_wp2
      exact bodyPost_ret (v := .tuple #[.pointer none, .int .i64 1]) (by simp [results, Try.results21, go_sem, *]) rfl ⟨rfl, rfl⟩
    · have d1 : decide (200000 < m) = false := by simpa using c1
      have RM := Lib.hid (sroom_any q c cap L w h k)
      have W1 : wrap64 ((cap : Int) + m) = cap + m := wrap64_small _ (by omega) (by omega)
      have NN := Lib.hid (snew_no ((cap : Int) + m) w (by omega))
      clear h k hm hc c0 c1 h0
      go_enter Try.func21, Try.ntmps21
      go_wp2_with fail
      refine RM.out.mono ?_
      rintro e w1 ⟨rfl, rfl⟩
      go_wp2_with fail
      refine NN.out.mono ?_
      rintro e w1 ⟨rfl, rfl⟩
      go_wp2
      exact bodyPost_ret (v := .tuple #[.pointer none, .int .i64 1]) (by simp [results, Try.results21, go_sem, *]) rfl ⟨rfl, rfl⟩

set_option maxRecDepth 100000 in
set_option maxHeartbeats 1600000 in
theorem sgrown_any (q c cap m : Nat) (L : List ByteArray) (w : World) (h : Row w q [.chan (some c)] 61) (k : Ch w c cap (L.map (Value.string))) (hl : L.length ≤ cap) (h0 : 0 < cap) (hm : cap + m ≤ 200000) :
    Calls Try.prog 21 #[.pointer (some ⟨q, 0, none⟩), .int .i64 (m : Int)] w fun e w' => e = .returned (.tuple #[.pointer (some ⟨w.heap.size + 1, 0, none⟩), .int .i64 0]) ∧ (Only c w w' ∧ Ch w' c cap [] ∧ Row w' (w.heap.size + 1) [.chan (some w.heap.size)] 61 ∧ Ch w' w.heap.size (cap + m) (L.map (Value.string))) := by
  have d0 : decide ((m : Int) < 0) = false := by simp
  have d1 : decide (200000 < (m : Int)) = false := by simp; omega
  have RM := Lib.hid (sroom_any q c cap _ w h k)
  have W1 : wrap64 ((cap : Int) + (m : Int)) = ((cap + m : Nat) : Int) := by rw [wrap64_small _ (by omega) (by omega)]; omega
  have NN := Lib.hid (snew_any (cap + m) w (by omega) hm)
  have cl := k.lt
  have ql := h.lt
  have K := Lib.hid (show Ch ((w.alloc (.chan (cap + m) #[] false 0 0 false)).alloc (.cells #[.chan (some w.heap.size)] 61)) c cap (L.map (Value.string)) from (k.old _).old _)
  have H := Lib.hid (show Row ((w.alloc (.chan (cap + m) #[] false 0 0 false)).alloc (.cells #[.chan (some w.heap.size)] 61)) q [.chan (some c)] 61 from (h.old _).old _)
  have K2 := Lib.hid (show Ch ((w.alloc (.chan (cap + m) #[] false 0 0 false)).alloc (.cells #[.chan (some w.heap.size)] 61)) w.heap.size (cap + m) [] from (Ch.new w _ _ rfl).old _)
  have H2 := Lib.hid (show Row ((w.alloc (.chan (cap + m) #[] false 0 0 false)).alloc (.cells #[.chan (some w.heap.size)] 61)) (w.heap.size + 1) [.chan (some w.heap.size)] 61 from Row.new' _ [.chan (some w.heap.size)] _ _ (by simp))
  have B := Lib.hid (show Below w.heap.size w ((w.alloc (.chan (cap + m) #[] false 0 0 false)).alloc (.cells #[.chan (some w.heap.size)] 61)) from KB.alloc (KB.alloc (Below.refl _ _) _) _)
  have S := Lib.hid (show ((w.alloc (.chan (cap + m) #[] false 0 0 false)).alloc (.cells #[.chan (some w.heap.size)] 61)).heap.size = w.heap.size + 2 by simp)
  have LL := Lib.hid hl
  have LM := Lib.hid hm
  clear h k hl h0 hm
  go_enter Try.func21, Try.ntmps21
  go_wp2_with fail
  refine RM.out.mono ?_
  rintro e w1 ⟨rfl, rfl⟩
  go_wp2_with fail
  refine NN.out.mono ?_
  rintro e w1 ⟨rfl, rfl⟩
  go_wp2_with fail
  obtain ⟨W, hW⟩ : ∃ W, W = (w.alloc (.chan (cap + m) #[] false 0 0 false)).alloc (.cells #[.chan (some w.heap.size)] 61) := ⟨_, rfl⟩
  rw [← hW] at K H K2 H2 B S ⊢
  clear hW
  refine (sdrain_any q c cap L W (by have := LL.out; have := LM.out; omega) H.out K.out).mono ?_
  rintro e w2 ⟨v, rfl, o2, c2, ow⟩
  have O2 := Lib.hid o2
  have C2 := Lib.hid c2
  have K3 := Lib.hid (K2.out.only o2 (by omega))
  have H3 := Lib.hid (H2.out.only o2 (by omega))
  have OW := Lib.hid (own_open ow)
  clear o2 c2 ow RM NN K H K2 H2
  rcases OW.out with ⟨rfl, hn⟩ | ⟨g, cp, rfl, hg, hgl, hcells⟩
  · obtain rfl : L = [] := List.eq_nil_of_length_eq_zero hn
    go_wp2_with fail
    refine wp_loop_rounds 2 ?_
    rw [rounds_succ]
    go_wp2_with fail
    exact bodyPost_ret (v := .tuple #[.pointer (some ⟨w.heap.size + 1, 0, none⟩), .int .i64 0]) (by simp [results, Try.results21, go_sem, *]) rfl ⟨rfl, (Only.of_below B.out).trans O2.out, C2.out, H3.out, K3.out⟩
  · have CE := Lib.hid hcells
    have G0 := Lib.hid hg
    have G1 := Lib.hid hgl
    clear hg hgl hcells OW
    obtain ⟨n, hn⟩ : ∃ n, n = L.length := ⟨_, rfl⟩
    rw [← hn]
    have nb : n ≤ 200000 := by rw [hn]; have := LL.out; have := LM.out; omega
    have HN := Lib.hid hn
    clear hn
    go_wp2_with fail
    go_loopw [30] (fun i wr => ∃ k : Nat, k ≤ n ∧ i = .int .i64 k ∧ Only w.heap.size w2 wr ∧ Ch wr w.heap.size (cap + m) ((L.take k).map (Value.string))) (fun i _ => n - (intOf i).toNat)
    case atStart => exact ⟨0, by omega, rfl, Only.refl _ _, by simpa using K3.out⟩
    case round =>
      obtain ⟨k, hk, rfl, ho, hch⟩ := hrel
      have OO := Lib.hid ho
      have HC := Lib.hid hch
      clear ho hch
      by_cases ck : k < n
      · have lk : k < L.length := by rw [← HN.out]; exact ck
        have XV := Lib.hid (CE.out k (Value.string L[k]) (by rw [List.getElem?_map, List.getElem?_eq_getElem lk]; rfl))
        have TK := Lib.hid (show L.take (k + 1) = L.take k ++ [L[k]] from List.take_succ_eq_append_getElem lk)
        obtain ⟨x, hx⟩ : ∃ x, x = L[k] := ⟨_, rfl⟩
        rw [← hx] at XV TK
        have cx : wr.cell? ⟨g, k, none⟩ = some (Value.string x) := by
          rw [World.cell?_of_block (w := w2) (OO.out.block g G1.out (by have := G0.out; have := S.out; omega))]
          exact XV.out
        have PR := Lib.hid (sput_room (w.heap.size + 1) w.heap.size (cap + m) ((L.take k).map (Value.string)) x wr (H3.out.only OO.out (by omega)) HC.out (by have := LL.out; simp; omega))
        clear hx lk
        go_wp2_with fail
        refine PR.out.mono ?_
        rintro e w3 ⟨rfl, o3, c3⟩
        have O3 := Lib.hid o3
        have C3 := Lib.hid c3
        clear o3 c3 cx
        go_wp2
        go_roundw
        case rel => exact ⟨k + 1, by omega, by go_num, OO.out.trans O3.out, by rw [TK.out, List.map_append]; exact C3.out⟩
        case measure => simp [intOf]; omega
      · obtain rfl : k = n := by omega
        go_wp2
        exact bodyPost_ret (v := .tuple #[.pointer (some ⟨w.heap.size + 1, 0, none⟩), .int .i64 0]) (by simp [results, Try.results21, go_sem, *]) rfl ⟨rfl, ((Only.of_below B.out).trans O2.out).bel (OO.out.below (Nat.le_refl _) (by have := O2.out.size; have := S.out; omega)), C2.out.only OO.out (by omega), H3.out.only OO.out (by omega), by have := HC.out; rw [HN.out, List.take_length] at this; exact this⟩
end Go.Proofs.Ytjmkkidlaebpmab
