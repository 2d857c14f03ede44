/-
  Layer 19, the walks: the page's Put, Take; is.
-/
import Derived.Test.YtjmkkidlaebpmabQg
import Derived.Laws.AppendOwnNone
import Derived.Deep.RegionHeld3
import Derived.Deep.DrawnRows
set_option linter.unusedSimpArgs false
set_option linter.unusedVariables false
namespace Go.Proofs.Ytjmkkidlaebpmab
open Go.Conc Go.RowKit

set_option maxRecDepth 100000 in
set_option maxHeartbeats 1600000 in
theorem rput_full_nil (room x : Int) (L : List Value) (w : World) (h : SlAt w (.slice none 0 0) 1 0 L) (hr : room ≤ (0 : Int)) :
    Calls Try.prog 8 #[.agg #[.slice none 0 0, .int .i64 room], .int .i64 x] w fun e w' => e = .returned (.tuple #[.agg #[.slice none 0 0, .int .i64 room], .bool false]) ∧ Below w.heap.size w w' := by
  have d0 : decide (room ≤ (0 : Int)) = true := by simpa using hr
  clear h hr
  go_enter Try.func8, Try.ntmps8
  go_wp2
  refine bodyPost_ret (v := .tuple #[.agg #[.slice none 0 0, .int .i64 room], .bool false]) (by simp [results, Try.results8, go_sem, *]) rfl ⟨rfl, ?_⟩
  repeat' (first | (with_reducible exact Below.refl _ _) | (with_reducible refine Below.setCell ?_ ?_ _) | (with_reducible refine Below.alloc ?_ ?_ _) | (simp; done) | (simp; omega))

set_option maxRecDepth 100000 in
set_option maxHeartbeats 1600000 in
theorem rput_full_some (a : Addr) (n cp : Nat) (room x : Int) (L : List Value) (w : World) (h : SlAt w (.slice (some a) n cp) 1 n L) (hr : room ≤ (n : Int)) :
    Calls Try.prog 8 #[.agg #[.slice (some a) n cp, .int .i64 room], .int .i64 x] w fun e w' => e = .returned (.tuple #[.agg #[.slice (some a) n cp, .int .i64 room], .bool false]) ∧ Below w.heap.size w w' := by
  have d0 : decide (room ≤ (n : Int)) = true := by simpa using hr
  clear h hr
  go_enter Try.func8, Try.ntmps8
  go_wp2
  refine bodyPost_ret (v := .tuple #[.agg #[.slice (some a) n cp, .int .i64 room], .bool false]) (by simp [results, Try.results8, go_sem, *]) rfl ⟨rfl, ?_⟩
  repeat' (first | (with_reducible exact Below.refl _ _) | (with_reducible refine Below.setCell ?_ ?_ _) | (with_reducible refine Below.alloc ?_ ?_ _) | (simp; done) | (simp; omega))

set_option maxRecDepth 100000 in
set_option maxHeartbeats 1600000 in
theorem rput_room_nil (room x : Int) (L : List Value) (w : World) (h : SlAt w (.slice none 0 0) 1 0 L) (hv : ∀ u ∈ L, u.oneCell' = true) (hr : (0 : Int) < room) :
    Calls Try.prog 8 #[.agg #[.slice none 0 0, .int .i64 room], .int .i64 x] w fun e w' => ∃ v, e = .returned (.tuple #[.agg #[v, .int .i64 room], .bool true]) ∧ Below w.heap.size w w' ∧ SlAt w' v 1 (0 + 1) (L ++ [.int .i64 x]) ∧ ∀ b, b < w.heap.size → NB v b := by
  obtain ⟨i0, hi, hz0, hz1, hz2⟩ := info_parts ibytes
  have d0 : decide (room ≤ (0 : Int)) = false := by simpa using hr
  have HL := Lib.hid (show L.length = 0 * 1 from h.len)
  have HV := Lib.hid hv
  clear hr hv
  go_enter Try.func8, Try.ntmps8
  go_upto_region 1 with fail
  refine to_cls ?_
  intro W hW z
  have rb : ∀ z : Wb W, Row z.at w.heap.size [.slice none 0 0, .int .i64 room] 30 := Row.next ((Row.new w [.slice none 0 0, .int .i64 room] _).old _) hW
  have rr : ∀ z : Wb W, Row z.at (w.heap.size + 1) [.slice none 0 0, .int .i64 0] 30 := Row.next (Row.new' _ [.slice none 0 0, .int .i64 0] _ _ (by simp)) hW
  have KK := KB.next (KB.alloc (KB.alloc (Below.refl _ _) _) _) hW
  have HS := Lib.hid (h.below (KK z))
  clear h hW
  have c0 : ∀ z : Wb W, z.at.cell? ⟨w.heap.size, 0, none⟩ = some (.slice none 0 0) := fun z => (rb z).cell 0
  have c1 : ∀ z : Wb W, z.at.cell? ⟨w.heap.size, 1, none⟩ = some (.int .i64 room) := fun z => (rb z).cell 1
  have e0 : (z.at.alloc (.cells #[] 3)).cell? ⟨w.heap.size, 0, none⟩ = some (.slice none 0 0) := ((rb z).old _).cell 0
  have e1 : (z.at.alloc (.cells #[] 3)).cell? ⟨w.heap.size, 1, none⟩ = some (.int .i64 room) := ((rb z).old _).cell 1
  have OW0 := Lib.hid (show (z.at.alloc (.cells #[] 3)).ownsRow (w.heap.size + 2) 3 1 (.slice (some ⟨z.at.heap.size, 0, none⟩) 0 0) 0 [] from World.ownsRow_made z.at #[] 0 (by have := (rr z).lt; omega) (by unfold maxLen; omega) rfl)
  obtain rfl : L = [] := List.eq_nil_of_length_eq_zero (by simpa using HL.out)
  go_wp2_with (at_builtin; refine wpList_append_own_none rfl (.tmp 14) (.tmp 16) 28 rfl (w.heap.size + 2) 3 i0 1 Try.underlying28 hi _ _ _ rfl OW0.out rfl ?_)
  have HO := OW0
  have KW := Lib.hid (show Below w.heap.size w (z.at.alloc (.cells #[] 3)) from KB.alloc (KK z) _)
  have RB := Lib.hid (show Row (z.at.alloc (.cells #[] 3)) w.heap.size [.slice none 0 0, .int .i64 room] 30 from (rb z).old _)
  have RR := Lib.hid (show Row (z.at.alloc (.cells #[] 3)) (w.heap.size + 1) [.slice none 0 0, .int .i64 0] 30 from (rr z).old _)
  obtain ⟨W1, hW1⟩ : ∃ W1, W1 = z.at.alloc (.cells #[] 3) := ⟨_, rfl⟩
  rw [← hW1] at HO KW RB RR ⊢
  obtain ⟨v1, hv1⟩ : ∃ v1, v1 = Value.slice (some ⟨z.at.heap.size, 0, none⟩) 0 0 := ⟨_, rfl⟩
  rw [← hv1] at HO ⊢
  clear hW1 hv1 OW0 e0 e1 c0 c1
  have LW := Lib.hid (show w.heap.size + 1 < W1.heap.size from RR.out.lt)
  clear rb rr HS KK
  go_wp2_with fail
  have k3 := Lib.hid (show ∀ u ∈ [Value.int .i64 x], u.oneCell' = true by simp [Value.oneCell'])
  have KS := Lib.hid (show ∀ w', Below (w.heap.size + 2) W1 w' → w'.cell? ⟨w.heap.size, 1, none⟩ = some (.int .i64 room) from fun w' k => (RB.out.upto k (by omega)).cell 1)
  have k2 := Lib.hid (app_cell W1.drew (.int .i64 x))
  have k4 := Lib.hid (show 0 + 1 ≤ maxLen by unfold maxLen; omega)
  have k5 := Lib.hid (show (0 + 1) * 8 ≤ 140737488355328 by omega)
  have k6 := Lib.hid (show ∀ o : Obj, w.heap.size + 2 ≤ (W1.drew.alloc o).heap.size from fun o => by have := LW.out; simp; omega)
  have k7 := Lib.hid (fun o => World.ownsRow.alloc (w := W1.drew) HO.out o)
  have k8 := Lib.hid (fun (o : Obj) (w2 : World) (hg : (W1.drew.alloc o).grownBy w2 v1.ownBlock) => (((Below.refl (w.heap.size + 2) W1).drew.alloc (by have := LW.out; simp; omega) o).grown hg (by have := LW.out; simp; omega) (fun k hk => (HO.out.lt k hk).1) : Below (w.heap.size + 2) W1 w2))
  go_region_held3 (fun w' => w'.cell? ⟨w.heap.size, 1, none⟩ = some (.int .i64 room))
    (first | exact KS.out _ (Below.refl _ _).drew | exact KS.out _ ((Below.refl _ _).drew.alloc (by have := LW.out; simp; omega) _) | exact KS.out _ (GB.out) | exact ((((RB.out.upto GB.out (by omega)).oth (by omega) 0 _).oth (by omega) 1 _).cell 1))
    ((refine step_append_lies _ (by rfl) (.tmp 18) (.tmp 20) 28 (by rfl) (w.heap.size + 2) 3 i0 (.int .i64 0) 1 8 Try.underlying28 hi hz0 hz1 hz2 (by rfl) (by decide) v1 0 [] (by rfl) (k7.out _) ⟨W1.heap.size, 0, none⟩ 1 1 [.int .i64 x] (by rfl) (by rfl) (k2.out _) k3.out (by omega) k4.out k5.out (k6.out _) _ (by rfl) ?_; intro g cp2 w2 hown hgrow hat hlt; have GB := Lib.hid (k8.out _ _ hgrow); have OW2 := Lib.hid hown; have q0 := (RR.out.upto GB.out (by omega)).cell 0; have q1 := (RR.out.upto GB.out (by omega)).cell 1; have q2 := (RR.out.upto GB.out (by omega)).free 0; have q3 := (RR.out.upto GB.out (by omega)).free 1; simp only [List.getElem?_cons_zero, List.getElem?_cons_succ] at q0 q1; clear hown hgrow hat hlt))
  go_wp2
  refine bodyPost_ret (v := .tuple #[.agg #[.slice (some ⟨g, 0, none⟩) (0 + 1) cp2, .int .i64 room], .bool true]) (by simp [results, Try.results8, go_sem, *]) rfl ⟨_, rfl, KB.put (KB.put (KW.out.trans (GB.out.mono (by omega))) (by omega) 0 _) (by omega) 1 _, SlAt.own (own_set (own_set OW2.out (by omega) 0 _) (by omega) 1 _), fun b hb a' n' c' e => by injection e with e1; injection e1 with e1; subst e1; have := (OW2.out.lt g rfl).1; show g ≠ b; omega⟩

set_option maxRecDepth 100000 in
set_option maxHeartbeats 1600000 in
theorem rput_room_some (a : Addr) (n cp : Nat) (room x : Int) (L : List Value) (w : World) (h : SlAt w (.slice (some a) n cp) 1 n L) (hv : ∀ u ∈ L, u.oneCell' = true) (hn : n ≤ 20000) (hr : (n : Int) < room) :
    Calls Try.prog 8 #[.agg #[.slice (some a) n cp, .int .i64 room], .int .i64 x] w fun e w' => ∃ v, e = .returned (.tuple #[.agg #[v, .int .i64 room], .bool true]) ∧ Below w.heap.size w w' ∧ SlAt w' v 1 (n + 1) (L ++ [.int .i64 x]) ∧ ∀ b, b < w.heap.size → NB v b := by
  obtain ⟨i0, hi, hz0, hz1, hz2⟩ := info_parts ibytes
  have d0 : decide (room ≤ (n : Int)) = false := by simpa using hr
  have HL := Lib.hid (show L.length = n * 1 from h.len)
  have HV := Lib.hid hv
  have HN := Lib.hid hn
  clear hn
  clear hr hv
  go_enter Try.func8, Try.ntmps8
  go_upto_region 1 with fail
  refine to_cls ?_
  intro W hW z
  have rb : ∀ z : Wb W, Row z.at w.heap.size [.slice (some a) n cp, .int .i64 room] 30 := Row.next ((Row.new w [.slice (some a) n cp, .int .i64 room] _).old _) hW
  have rr : ∀ z : Wb W, Row z.at (w.heap.size + 1) [.slice none 0 0, .int .i64 0] 30 := Row.next (Row.new' _ [.slice none 0 0, .int .i64 0] _ _ (by simp)) hW
  have KK := KB.next (KB.alloc (KB.alloc (Below.refl _ _) _) _) hW
  have HS := Lib.hid (h.below (KK z))
  clear h hW
  have c0 : ∀ z : Wb W, z.at.cell? ⟨w.heap.size, 0, none⟩ = some (.slice (some a) n cp) := fun z => (rb z).cell 0
  have c1 : ∀ z : Wb W, z.at.cell? ⟨w.heap.size, 1, none⟩ = some (.int .i64 room) := fun z => (rb z).cell 1
  have e0 : (z.at.alloc (.cells #[] 3)).cell? ⟨w.heap.size, 0, none⟩ = some (.slice (some a) n cp) := ((rb z).old _).cell 0
  have e1 : (z.at.alloc (.cells #[] 3)).cell? ⟨w.heap.size, 1, none⟩ = some (.int .i64 room) := ((rb z).old _).cell 1
  have OW0 := Lib.hid (show (z.at.alloc (.cells #[] 3)).ownsRow (w.heap.size + 2) 3 1 (.slice (some ⟨z.at.heap.size, 0, none⟩) 0 0) 0 [] from World.ownsRow_made z.at #[] 0 (by have := (rr z).lt; omega) (by unfold maxLen; omega) rfl)
  have HX := Lib.hid (show ∀ j u, L[j]? = some u → (z.at.alloc (.cells #[] 3)).cell? (a.add j) = some u from by
    have := HS.out.below (KB.alloc (Below.refl _ _) (.cells #[] 3))
    obtain ⟨_, ⟨e, _⟩ | ⟨a', c', e, _, _, hx⟩⟩ := this
    · cases e
    · injection e with e1 e2 e3
      injection e1 with e1
      subst e1
      exact hx)
  go_wp2_with (at_builtin; refine wpList_append_own _ rfl (.tmp 14) (.tmp 16) 28 rfl (w.heap.size + 2) 3 i0 (.int .i64 0) 1 8 Try.underlying28 hi hz0 hz1 hz2 rfl (by decide) _ _ _ rfl OW0.out a n cp L rfl HL.out HX.out HV.out (by have := HN.out; unfold maxLen; omega) (by have := HN.out; omega) (by have := (rr z).lt; simp; omega) ?_)
  intro v1 W1 h1 hg1 _
  have HO := Lib.hid (show W1.ownsRow (w.heap.size + 2) 3 1 v1 n L by simpa using h1)
  have G1 := Lib.hid (show Below (w.heap.size + 2) z.at W1 from ((Below.refl _ _).alloc (by have := (rr z).lt; omega) _).grown hg1 (by have := (rr z).lt; simp; omega) (fun k hk => by cases hk; exact Nat.le_of_lt_succ (by have := (rr z).lt; show w.heap.size + 2 < z.at.heap.size + 1; omega)))
  have KW := Lib.hid (show Below w.heap.size w W1 from (KK z).trans (G1.out.mono (by omega)))
  have RB := Lib.hid (show Row W1 w.heap.size [.slice (some a) n cp, .int .i64 room] 30 from (rb z).upto G1.out (by omega))
  have RR := Lib.hid (show Row W1 (w.heap.size + 1) [.slice none 0 0, .int .i64 0] 30 from (rr z).upto G1.out (by omega))
  clear h1 hg1 e0 e1 c0 c1 OW0 HX
  have LW := Lib.hid (show w.heap.size + 1 < W1.heap.size from RR.out.lt)
  clear rb rr HS KK
  go_wp2_with fail
  have k3 := Lib.hid (show ∀ u ∈ [Value.int .i64 x], u.oneCell' = true by simp [Value.oneCell'])
  have KS := Lib.hid (show ∀ w', Below (w.heap.size + 2) W1 w' → w'.cell? ⟨w.heap.size, 1, none⟩ = some (.int .i64 room) from fun w' k => (RB.out.upto k (by omega)).cell 1)
  have k2 := Lib.hid (app_cell W1.drew (.int .i64 x))
  have k4 := Lib.hid (show n + 1 ≤ maxLen by have := HN.out; unfold maxLen; omega)
  have k5 := Lib.hid (show (n + 1) * 8 ≤ 140737488355328 by have := HN.out; omega)
  have k6 := Lib.hid (show ∀ o : Obj, w.heap.size + 2 ≤ (W1.drew.alloc o).heap.size from fun o => by have := LW.out; simp; omega)
  have k7 := Lib.hid (fun o => World.ownsRow.alloc (w := W1.drew) HO.out o)
  have k8 := Lib.hid (fun (o : Obj) (w2 : World) (hg : (W1.drew.alloc o).grownBy w2 v1.ownBlock) => (((Below.refl (w.heap.size + 2) W1).drew.alloc (by have := LW.out; simp; omega) o).grown hg (by have := LW.out; simp; omega) (fun k hk => (HO.out.lt k hk).1) : Below (w.heap.size + 2) W1 w2))
  go_region_held3 (fun w' => w'.cell? ⟨w.heap.size, 1, none⟩ = some (.int .i64 room))
    (first | exact KS.out _ (Below.refl _ _).drew | exact KS.out _ ((Below.refl _ _).drew.alloc (by have := LW.out; simp; omega) _) | exact KS.out _ (GB.out) | exact ((((RB.out.upto GB.out (by omega)).oth (by omega) 0 _).oth (by omega) 1 _).cell 1))
    ((refine step_append_lies _ (by rfl) (.tmp 18) (.tmp 20) 28 (by rfl) (w.heap.size + 2) 3 i0 (.int .i64 0) 1 8 Try.underlying28 hi hz0 hz1 hz2 (by rfl) (by decide) v1 n L (by rfl) (k7.out _) ⟨W1.heap.size, 0, none⟩ 1 1 [.int .i64 x] (by rfl) (by rfl) (k2.out _) k3.out (by omega) k4.out k5.out (k6.out _) _ (by rfl) ?_; intro g cp2 w2 hown hgrow hat hlt; have GB := Lib.hid (k8.out _ _ hgrow); have OW2 := Lib.hid hown; have q0 := (RR.out.upto GB.out (by omega)).cell 0; have q1 := (RR.out.upto GB.out (by omega)).cell 1; have q2 := (RR.out.upto GB.out (by omega)).free 0; have q3 := (RR.out.upto GB.out (by omega)).free 1; simp only [List.getElem?_cons_zero, List.getElem?_cons_succ] at q0 q1; clear hown hgrow hat hlt))
  go_wp2
  refine bodyPost_ret (v := .tuple #[.agg #[.slice (some ⟨g, 0, none⟩) (n + 1) cp2, .int .i64 room], .bool true]) (by simp [results, Try.results8, go_sem, *]) rfl ⟨_, rfl, KB.put (KB.put (KW.out.trans (GB.out.mono (by omega))) (by omega) 0 _) (by omega) 1 _, SlAt.own (own_set (own_set OW2.out (by omega) 0 _) (by omega) 1 _), fun b hb a' n' c' e => by injection e with e1; injection e1 with e1; subst e1; have := (OW2.out.lt g rfl).1; show g ≠ b; omega⟩

set_option maxRecDepth 100000 in
set_option maxHeartbeats 1600000 in
theorem rtake_nil (room : Int) (w : World) :
    Calls Try.prog 10 #[.agg #[.slice none 0 0, .int .i64 room]] w fun e w' => e = .returned (.tuple #[.agg #[.slice none 0 0, .int .i64 room], .int .i64 0, .bool false]) ∧ Below w.heap.size w w' := by
  go_enter Try.func10, Try.ntmps10
  go_wp2
  refine bodyPost_ret (v := .tuple #[.agg #[.slice none 0 0, .int .i64 room], .int .i64 0, .bool false]) (by simp [results, Try.results10, go_sem, *]) rfl ⟨rfl, ?_⟩
  repeat' (first | (with_reducible exact Below.refl _ _) | (with_reducible refine Below.setCell ?_ ?_ _) | (with_reducible refine Below.alloc ?_ ?_ _) | (simp; done) | (simp; omega))

set_option maxRecDepth 100000 in
set_option maxHeartbeats 1600000 in
theorem rtake_none (a : Addr) (cp : Nat) (room : Int) (w : World) :
    Calls Try.prog 10 #[.agg #[.slice (some a) 0 cp, .int .i64 room]] w fun e w' => e = .returned (.tuple #[.agg #[.slice (some a) 0 cp, .int .i64 room], .int .i64 0, .bool false]) ∧ Below w.heap.size w w' := by
  go_enter Try.func10, Try.ntmps10
  go_wp2
  refine bodyPost_ret (v := .tuple #[.agg #[.slice (some a) 0 cp, .int .i64 room], .int .i64 0, .bool false]) (by simp [results, Try.results10, go_sem, *]) rfl ⟨rfl, ?_⟩
  repeat' (first | (with_reducible exact Below.refl _ _) | (with_reducible refine Below.setCell ?_ ?_ _) | (with_reducible refine Below.alloc ?_ ?_ _) | (simp; done) | (simp; omega))

set_option maxRecDepth 100000 in
set_option maxHeartbeats 1600000 in
theorem rtake_some (a : Addr) (n cp : Nat) (room x : Int) (L : List Value) (w : World) (h : SlAt w (.slice (some a) (n + 1) cp) 1 (n + 1) (.int .i64 x :: L)) (hn : n ≤ 20000) :
    Calls Try.prog 10 #[.agg #[.slice (some a) (n + 1) cp, .int .i64 room]] w fun e w' => ∃ v, e = .returned (.tuple #[.agg #[v, .int .i64 room], .int .i64 x, .bool true]) ∧ Below w.heap.size w w' ∧ SlAt w' v 1 n L ∧ ∀ b, NB (.slice (some a) (n + 1) cp) b → NB v b := by
  have h0 : (1 : Int) ≤ ((n + 1 : Nat) : Int) := by omega
  have h1 : ((n + 1 : Nat) : Int) ≤ (cp : Int) := by
    obtain ⟨_, ⟨e, _⟩ | ⟨a', c', e, hc, _⟩⟩ := h
    · cases e
    · injection e with e1 e2 e3
      omega
  have h2 : (0 : Int) < ((n + 1 : Nat) : Int) := by omega
  have h3 : 0 < n + 1 := by omega
  have ha : a.block < w.heap.size := by
    obtain ⟨_, ⟨e, _⟩ | ⟨a', c', e, _, _, hx⟩⟩ := h
    · cases e
    · injection e with e1 e2 e3
      injection e1 with e1
      subst e1
      have := World.block_lt_of_cell? w _ (hx 0 _ rfl)
      rwa [add_block] at this
  have z0 : (((n + 1 : Nat) : Int) == 0) = false := by simp; omega
  obtain ⟨m, hm⟩ : ∃ m, m = n + 1 := ⟨_, rfl⟩
  rw [← hm] at h h0 h1 h2 h3 z0 ⊢
  have HM := Lib.hid hm
  clear hm
  go_enter Try.func10, Try.ntmps10
  go_upto_region 1 with fail
  refine to_cls ?_
  intro W hW z
  have rb : ∀ z : Wb W, Row z.at w.heap.size [.slice (some a) m cp, .int .i64 room] 30 := Row.next ((Row.new w [.slice (some a) m cp, .int .i64 room] _).old _) hW
  have rr : ∀ z : Wb W, Row z.at (w.heap.size + 1) [.slice none 0 0, .int .i64 0] 30 := Row.next (Row.new' _ [.slice none 0 0, .int .i64 0] _ _ (by simp)) hW
  have KK := Lib.hid (KB.next (KB.alloc (KB.alloc (Below.refl _ _) _) _) hW)
  have HX := Lib.hid (show ∀ z : Wb W, ∀ j u, (Value.int .i64 x :: L)[j]? = some u → z.at.cell? (a.add j) = some u from fun z => by
    obtain ⟨_, ⟨e, _⟩ | ⟨a', c', e, _, _, hx⟩⟩ := h.below (KK.out z)
    · cases e
    · injection e with e1 e2 e3
      injection e1 with e1
      subst e1
      exact hx)
  have HLn := Lib.hid (show L.length = n by have := h.len; have := HM.out; simp at *; omega)
  have cap1 := Lib.hid (show cp ≤ maxLen by
    obtain ⟨_, ⟨e, _⟩ | ⟨a', c', e, _, hm, _⟩⟩ := h
    · cases e
    · injection e with e1 e2 e3
      omega)
  clear h hW
  have c0 : ∀ z : Wb W, z.at.cell? ⟨w.heap.size, 0, none⟩ = some (.slice (some a) m cp) := fun z => (rb z).cell 0
  have c1 : ∀ z : Wb W, z.at.cell? ⟨w.heap.size, 1, none⟩ = some (.int .i64 room) := fun z => (rb z).cell 1
  have d0 : ∀ z : Wb W, z.at.cell? ⟨w.heap.size + 1, 0, none⟩ = some (.slice none 0 0) := fun z => (rr z).cell 0
  have d1 : ∀ z : Wb W, z.at.cell? ⟨w.heap.size + 1, 1, none⟩ = some (.int .i64 0) := fun z => (rr z).cell 1
  have f0 : ∀ (z : Wb W) (i : Nat), z.at.frozen? ⟨w.heap.size + 1, i, none⟩ = false := fun z i => (rr z).free i
  have x0 : ∀ z : Wb W, z.at.cell? (a.add 0) = some (.int .i64 x) := fun z => HX.out z 0 _ rfl
  have x1 : ∀ z : Wb W, z.at.cell? a = some (.int .i64 x) := fun z => by have := HX.out z 0 _ rfl; rwa [show a.add 0 = a by simp [Addr.add]] at this
  have ab := Lib.hid ha
  have FIN := Lib.hid (show ∀ u v, ((z.at.setCell ⟨w.heap.size + 1, 0, none⟩ u).setCell ⟨w.heap.size + 1, 1, none⟩ v).cell? ⟨w.heap.size, 0, none⟩ = some (.slice (some a) m cp) ∧ ((z.at.setCell ⟨w.heap.size + 1, 0, none⟩ u).setCell ⟨w.heap.size + 1, 1, none⟩ v).cell? ⟨w.heap.size, 1, none⟩ = some (.int .i64 room) ∧ ((z.at.setCell ⟨w.heap.size + 1, 0, none⟩ u).setCell ⟨w.heap.size + 1, 1, none⟩ v).cell? a = some (.int .i64 x) from fun u v =>
    ⟨(((rb z).oth (by omega) 0 _).oth (by omega) 1 _).cell 0, (((rb z).oth (by omega) 0 _).oth (by omega) 1 _).cell 1, by
      rw [World.cell?_setCell_other _ _ _ _ (fun e => by have := ab.out; rw [← e] at this; simp at this; omega), World.cell?_setCell_other _ _ _ _ (fun e => by have := ab.out; rw [← e] at this; simp at this; omega)]
      exact x1 z⟩)
  go_wp2_with fail
  go_region_held3 (fun w' => w'.cell? ⟨w.heap.size, 0, none⟩ = some (.slice (some a) m cp) ∧ w'.cell? ⟨w.heap.size, 1, none⟩ = some (.int .i64 room) ∧ w'.cell? a = some (.int .i64 x)) (first | exact ⟨c0 z, c1 z, x1 z⟩ | exact FIN.out _ _) (fail)
  obtain ⟨pv, hpv⟩ : ∃ pv, pv = (if cp = 1 then some a else some (⟨a.block, a.off + 1, none⟩ : Addr)) := ⟨_, rfl⟩
  rw [← hpv]
  have PV := Lib.hid hpv
  clear hpv
  go_wp2
  refine bodyPost_ret (v := .tuple #[.agg #[.slice pv (m - 1) (cp - 1), .int .i64 room], .int .i64 x, .bool true]) (by simp [results, Try.results10, go_sem, *]) rfl ⟨_, rfl, (KB.put (KB.put (KK.out z) (by omega) 0 _) (by omega) 1 _).drew, ?_, fun b hb a' n' c' e => by
    injection e with e1
    rw [PV.out] at e1
    have : a'.block = a.block := by split at e1 <;> (injection e1 with e1; rw [← e1])
    rw [this]
    exact hb a _ _ rfl⟩
  have e1 : m - 1 = n := by have := HM.out; omega
  rw [e1, PV.out]
  refine ⟨by rw [HLn.out]; omega, .inr ?_⟩
  by_cases c : cp = 1
  · rw [if_pos c]
    have n0 : n = 0 := by have := HM.out; omega
    have L0 : L = [] := List.eq_nil_of_length_eq_zero (by rw [HLn.out, n0])
    subst L0
    exact ⟨a, _, rfl, by omega, by have := cap1.out; omega, fun j u hj => by simp at hj⟩
  · rw [if_neg c]
    refine ⟨_, _, rfl, by have := HM.out; omega, by have := cap1.out; omega, fun j u hj => ?_⟩
    have e2 : (⟨a.block, a.off + 1, none⟩ : Addr).add j = a.add (1 + j) := by
      rw [← add_add]
      congr 1
    rw [e2]
    have h5 := HX.out z (1 + j) u (by rw [Nat.add_comm]; exact hj)
    have no : ∀ i, (⟨w.heap.size + 1, i, none⟩ : Addr) ≠ a.add (1 + j) := fun i e => by
      have := congrArg Addr.block e
      rw [add_block] at this
      have := ab.out
      simp at *
      omega
    refine (World.cell?_setCell_other _ _ _ _ (no 1)).trans ((World.cell?_setCell_other _ _ _ _ (no 0)).trans h5)

set_option maxRecDepth 100000 in
set_option maxHeartbeats 1600000 in
theorem is_nil (q c r : Nat) (L : List Value) (w : World) (h : Row w q [.chan (some c)] 57) (k : Ch w c r L) (hl : L.length = 0) :
    Calls Try.prog 16 #[.pointer (some ⟨q, 0, none⟩), .agg #[.slice none 0 0, .int .i64 (r : Int)]] w fun e w' => e = .returned (.bool true) ∧ Below w.heap.size w w' := by
  have LE := Lib.hid (fun (U : World) (b : Below w.heap.size w U) => Calls.same_below (ilen_any q c r L U (h.below b) (k.below b)) (Below.refl _ _))
  have RM := Lib.hid (fun (U : World) (b : Below w.heap.size w U) => Calls.same_below (iroom_any q c r L U (h.below b) (k.below b)) (Below.refl _ _))
  rw [hl] at LE
  clear h k hl
  go_enter Try.func16, Try.ntmps16
  go_upto_region 1 with fail
  refine to_cls ?_
  intro W hW z
  have rb : ∀ z : Wb W, Row z.at w.heap.size [.slice none 0 0, .int .i64 (r : Int)] 30 := Row.next (Row.new w [.slice none 0 0, .int .i64 (r : Int)] _) hW
  have KK := Lib.hid (KB.next (KB.alloc (Below.refl _ _) _) hW)
  have LZ := Lib.hid (fun (y : Wb z.at) => LE.out y.at ((KK.out z).trans (y.bel.mono (KK.out z).size)))
  have RZ := Lib.hid (fun (y : Wb z.at) => RM.out y.at ((KK.out z).trans (y.bel.mono (KK.out z).size)))
  have c0 : ∀ y : Wb z.at, y.at.cell? ⟨w.heap.size, 0, none⟩ = some (.slice none 0 0) := fun y => ((rb z).below y.bel).cell 0
  have c1 : ∀ y : Wb z.at, y.at.cell? ⟨w.heap.size, 1, none⟩ = some (.int .i64 (r : Int)) := fun y => ((rb z).below y.bel).cell 1
  clear hW rb LE RM
  go_wp2_with fail
  refine wp_region_wb (by kernel_rfl) (by kernel_rfl) ?_
  repeat (go_big_quiet_step (first | (go_at_call 15; exact Calls.wb (LZ.out _)) | (go_at_call 23; exact Calls.wb (RZ.out _))))
  refine wpQuiet_nil ?_
  rintro _ ⟨y, rfl⟩
  go_wp2
  go_ret
  exact ⟨by first | rfl | simp, (KK.out z).trans (y.bel.mono (KK.out z).size)⟩

set_option maxRecDepth 100000 in
set_option maxHeartbeats 1600000 in
theorem is_some (q c r : Nat) (a : Addr) (n cp : Nat) (L : List Value) (w : World) (h : Row w q [.chan (some c)] 57) (k : Ch w c r L) (hl : L.length = n) :
    Calls Try.prog 16 #[.pointer (some ⟨q, 0, none⟩), .agg #[.slice (some a) n cp, .int .i64 (r : Int)]] w fun e w' => e = .returned (.bool true) ∧ Below w.heap.size w w' := by
  have LE := Lib.hid (fun (U : World) (b : Below w.heap.size w U) => Calls.same_below (ilen_any q c r L U (h.below b) (k.below b)) (Below.refl _ _))
  have RM := Lib.hid (fun (U : World) (b : Below w.heap.size w U) => Calls.same_below (iroom_any q c r L U (h.below b) (k.below b)) (Below.refl _ _))
  rw [hl] at LE
  clear h k hl
  go_enter Try.func16, Try.ntmps16
  go_upto_region 1 with fail
  refine to_cls ?_
  intro W hW z
  have rb : ∀ z : Wb W, Row z.at w.heap.size [.slice (some a) n cp, .int .i64 (r : Int)] 30 := Row.next (Row.new w [.slice (some a) n cp, .int .i64 (r : Int)] _) hW
  have KK := Lib.hid (KB.next (KB.alloc (Below.refl _ _) _) hW)
  have LZ := Lib.hid (fun (y : Wb z.at) => LE.out y.at ((KK.out z).trans (y.bel.mono (KK.out z).size)))
  have RZ := Lib.hid (fun (y : Wb z.at) => RM.out y.at ((KK.out z).trans (y.bel.mono (KK.out z).size)))
  have c0 : ∀ y : Wb z.at, y.at.cell? ⟨w.heap.size, 0, none⟩ = some (.slice (some a) n cp) := fun y => ((rb z).below y.bel).cell 0
  have c1 : ∀ y : Wb z.at, y.at.cell? ⟨w.heap.size, 1, none⟩ = some (.int .i64 (r : Int)) := fun y => ((rb z).below y.bel).cell 1
  clear hW rb LE RM
  go_wp2_with fail
  refine wp_region_wb (by kernel_rfl) (by kernel_rfl) ?_
  repeat (go_big_quiet_step (first | (go_at_call 15; exact Calls.wb (LZ.out _)) | (go_at_call 23; exact Calls.wb (RZ.out _))))
  refine wpQuiet_nil ?_
  rintro _ ⟨y, rfl⟩
  go_wp2
  go_ret
  exact ⟨by first | rfl | simp, (KK.out z).trans (y.bel.mono (KK.out z).size)⟩
end Go.Proofs.Ytjmkkidlaebpmab
