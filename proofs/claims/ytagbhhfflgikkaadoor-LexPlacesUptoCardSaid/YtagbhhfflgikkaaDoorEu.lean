/-
  Layer 10: the law LexRows, walked.
-/
import Derived.Test.YtagbhhfflgikkaaDoorEt
set_option linter.unusedSimpArgs false
set_option linter.unusedVariables false
namespace GrL
open Go GrP
theorem rowCells_length : ∀ L : List (Tx × Nat), (rowCells L).length = L.length * 2
  | [] => rfl
  | x :: L => by
    have := rowCells_length L
    unfold rowCells at this ⊢
    simp only [List.flatMap_cons, List.length_append, List.length_cons, List.length_nil, this]
    omega
theorem rowCells_get : ∀ (L : List (Tx × Nat)) (k : Nat) (h : k < L.length), (rowCells L)[k * 2]? = some (.string (strL L[k].1)) ∧ (rowCells L)[k * 2 + 1]? = some (.int .i64 (L[k].2 : Int))
  | x :: L, 0, _ => ⟨rfl, rfl⟩
  | x :: L, k + 1, h => by
    have := rowCells_get L k (by simpa using h)
    have e : rowCells (x :: L) = [.string (strL x.1), .int .i64 (x.2 : Int)] ++ rowCells L := rfl
    rw [e, show (k + 1) * 2 = k * 2 + 2 by omega]
    simpa using this
theorem rowsL_len (s : Tx) : (rowsL s).length ≤ s.length + 1 := by
  have key : ∀ k f, f ≤ s.length + 1 → (rows s k f).length ≤ s.length + 1 - f := by
    intro k
    induction k with
    | zero => intro f _; simp [rows]
    | succ k ih =>
      intro f hf
      rw [rows_at]
      split
      · next h =>
        have h1 := rowAt_len s f
        have h2 := lineN_le s f h
        have h3 := ih (f + lineN s f + 1) (by omega)
        rw [List.length_append]
        omega
      · simp
  have := key (s.length + 1) 0 (by omega)
  unfold rowsL
  omega
theorem row_fits (s : Tx) : ∀ x ∈ rowsL s, x.2 + x.1.length ≤ s.length := by
  have key : ∀ k f, ∀ x ∈ rows s k f, x.2 + x.1.length ≤ s.length := by
    intro k
    induction k with
    | zero => intro f x hx; simp [rows] at hx
    | succ k ih =>
      intro f x hx
      rw [rows_at] at hx
      split at hx
      · next h =>
        rcases List.mem_append.1 hx with hx | hx
        · obtain ⟨tw, rl, P⟩ := parts_of s f h
          rw [P.row] at hx
          split at hx
          · simp at hx
          · have := P.fm; have := P.em; have := P.te
            simp only [List.mem_singleton] at hx
            subst hx
            simp only [List.length_take, List.length_drop]
            omega
        · exact ih _ x hx
      · simp at hx
  exact key _ _
end GrL
namespace Go.Proofs.YtagbhhfflgikkaaDoor
open Go.RowKit GrP GrL Go.Shelf

def SlR (W : World) (v : Value) (L : List (Tx × Nat)) : Prop := SlAt W v 2 L.length (rowCells L)
theorem SlR.below {W U : World} {v : Value} {L : List (Tx × Nat)} (h : SlR W v L) (k : Below W.heap.size W U) : SlR U v L := SlAt.below h k
theorem SlR.at {W : World} {b : Addr} {n c : Nat} {L : List (Tx × Nat)} (h : SlR W (.slice (some b) n c) L) (k : Nat) (hk : k < L.length) : W.cell? (b.add (k * 2)) = some (.string (strL L[k].1)) ∧ W.cell? ⟨(b.add (k * 2)).block, (b.add (k * 2)).off + 1, none⟩ = some (.int .i64 (L[k].2 : Int)) := by
  obtain ⟨_, ⟨e, _⟩ | ⟨d, cap, e, _, _, hx⟩⟩ := h
  · cases e
  · injection e with e1 e2 e3
    injection e1 with e1
    subst e1
    obtain ⟨g0, g1⟩ := rowCells_get L k hk
    exact ⟨hx _ _ g0, by rw [add_rest _ _ 1 (by omega)]; exact hx _ _ g1⟩
theorem SlR.len {W : World} {b : Option Addr} {n c : Nat} {L : List (Tx × Nat)} (h : SlR W (.slice b n c) L) : n = L.length := by
  obtain ⟨_, ⟨e, h0⟩ | ⟨d, cap, e, _⟩⟩ := h
  · injection e with e1 e2 e3; omega
  · injection e with e1 e2 e3
theorem SlR.addr {W : World} {p : Option Addr} {n c : Nat} {L : List (Tx × Nat)} (h : SlR W (.slice p n c) L) (hn : 0 < n) : ∃ b, p = some b := by
  obtain ⟨_, ⟨e, h0⟩ | ⟨b, cp, e, _⟩⟩ := h
  · injection e with e1 e2 e3
    omega
  · injection e with e1 e2 e3
    exact ⟨b, e1⟩

set_option maxRecDepth 100000 in
set_option maxHeartbeats 6400000 in
theorem lexRows_walk (s : Tx) (m : Int) (w : World) (hs : s.length ≤ 4194304) (hm : w.cell? ⟨0, 0, none⟩ = some (.int .i64 m)) : Calls Tryd.prog 4 #[.string (strL s)] w fun e w' => e = .returned (.bool true) ∧ Below w.heap.size w w' := by
  have AW := Lib.hid (awake_any m w hm)
  have LR := Lib.hid (fun (x : Wb w) => lrows_any s m x.at hs ((x.bel.cell (p := ⟨0, 0, none⟩) (World.block_lt_of_cell? w _ hm)).trans hm))
  have RR := Lib.hid (fun w => rrows_any s w hs)
  have LL := Lib.hid (show (rowsL s).length ≤ 4194305 by have := rowsL_len s; omega)
  have FT0 : ∀ x ∈ rowsL s, x.1.length ≤ 4194304 := fun x hx => by have := row_fits s x hx; omega
  obtain ⟨L, hL⟩ : ∃ L, L = rowsL s := ⟨_, rfl⟩
  rw [← hL] at LR RR LL FT0
  have FT := Lib.hid (fun k (h : k < L.length) => FT0 _ (List.getElem_mem h))
  clear FT0
  clear hm hs hL
  go_enter Tryd.func4, Tryd.ntmps4
  go_upto_region 4 with (first | (go_at_call 7; refine AW.out.mono ?_; rintro e w1 ⟨rfl, d⟩; obtain ⟨x1, rfl⟩ := Wb.start d; clear d) | (go_at_call 10; refine (LR.out x1).mono ?_; rintro e w2 ⟨v1, rfl, o1, d⟩; obtain ⟨x2, rfl⟩ := Wb.next d; have S1 := Lib.hid (SlAt.own o1); clear d o1) | (go_at_call 11; refine (RR.out _).mono ?_; rintro e w3 ⟨v2, rfl, o2, d⟩; have S1 := Lib.hid (SlAt.below S1.out d); obtain ⟨x3, rfl⟩ := Wb.next d; have S2 := Lib.hid (SlAt.own o2); clear d o2))
  obtain ⟨p1, n1, c1, rfl⟩ := SlAt.form S1.out
  obtain ⟨p2, n2, c2, rfl⟩ := SlAt.form S2.out
  have H1 := Lib.hid (show SlR x3.at (.slice p1 n1 c1) L from S1.out)
  have H2 := Lib.hid (show SlR x3.at (.slice p2 n2 c2) L from S2.out)
  have E1 := Lib.hid H1.out.len
  obtain rfl : n1 = n2 := by have := E1.out; have := H2.out.len; omega
  have KX := Lib.hid x3.bel
  obtain ⟨V, hV⟩ : ∃ V, V = x3.at := ⟨_, rfl⟩
  rw [← hV] at H1 H2 KX ⊢
  clear hV S1 S2
  have q9 : (n1 : Int) ≤ 4194305 := by have := E1.out; have := LL.out; omega
  go_wp2_with fail
  go_loopw [5] (fun i wr => ∃ k : Nat, k ≤ n1 ∧ i = .int .i64 (k : Int) ∧ Below V.heap.size V wr) (fun i _ => n1 - (intOf i).toNat)
  case atStart => exact ⟨0, by omega, rfl, Below.refl _ _⟩
  case round =>
    obtain ⟨k, hk, rfl, hb⟩ := hrel
    have BB := Lib.hid hb
    clear hb
    by_cases ck : k < n1
    · have l1 : k < L.length := by have := E1.out; omega
      obtain ⟨b1, rfl⟩ := SlR.addr H1.out (by omega)
      obtain ⟨b2, rfl⟩ := SlR.addr H2.out (by omega)
      have z1 := Lib.hid (fun y : Wb wr => (H1.out.below (BB.out.trans (y.bel.mono BB.out.size))).at k l1)
      have z2 := Lib.hid (fun y : Wb wr => (H2.out.below (BB.out.trans (y.bel.mono BB.out.size))).at k l1)
      have FL := Lib.hid (fun (y : Wb wr) => lfirst_any (L[k]'l1).1 ((L[k]'l1).2 : Int) y.at (by have := FT.out k l1; omega))
      have FR := Lib.hid (fun (y : Wb wr) => rfirst_any (L[k]'l1).1 y.at (by have := FT.out k l1; omega))
      obtain ⟨x0, hx0⟩ : ∃ x, x = strL (L[k]'l1).1 := ⟨_, rfl⟩
      obtain ⟨x1, hx1⟩ : ∃ x : Int, x = ((L[k]'l1).2 : Int) := ⟨_, rfl⟩
      obtain ⟨x2, hx2⟩ : ∃ x, x = strL ((L[k]'l1).1.take (run (L[k]'l1).1)) := ⟨_, rfl⟩
      rw [← hx0, ← hx1] at z1 z2
      rw [← hx0, ← hx1, ← hx2] at FL
      rw [← hx0, ← hx2] at FR
      have y0 := fun y : Wb wr => (z1.out y).1
      have y1 := fun y : Wb wr => (z1.out y).2
      have y2 := fun y : Wb wr => (z2.out y).1
      have y3 := fun y : Wb wr => (z2.out y).2
      have HI := Lib.hid (show k + 1 ≤ n1 by omega)
      clear z1 z2 hx0 hx1 hx2 l1 hk
      have i0 : (0 : Int) ≤ (k : Int) := by omega
      have i1 : (k : Int) < (n1 : Int) := by omega
      clear ck
      go_wp2_with fail
      refine wp_region_wb (by kernel_rfl) (by kernel_rfl) ?_
      repeat (go_big_quiet_step (first | (go_at_call 12; exact Calls.wb (FL.out _)) | (go_at_call 13; exact Calls.wb (Calls.same_below (FR.out _) (Below.refl _ _)))))
      refine wpQuiet_nil ?_
      rintro _ ⟨y, rfl⟩
      go_wp2
      go_roundw
      case rel => exact ⟨k + 1, HI.out, by go_num, BB.out.trans (y.bel.mono BB.out.size)⟩
      case measure => have := HI.out; simp [intOf]; omega
    · obtain rfl : k = n1 := by omega
      have i2 : ¬ (k : Int) < (k : Int) := by omega
      clear ck hk
      go_wp2
      go_ret
      exact ⟨rfl, KX.out.trans (BB.out.mono KX.out.size)⟩
theorem lexRows_call (s : ByteArray) (w : World) (h : w.ShapedOpen Tryd.prog) (hs : s.data.toList.length ≤ 4194304) : Calls Tryd.prog 4 #[.string s] w fun e w' => e = .returned (.bool true) ∧ Below w.heap.size w w' := by
  obtain ⟨m, hm⟩ := max_of_shape w h
  rw [string_strL s]
  exact lexRows_walk _ m w hs hm
end Go.Proofs.YtagbhhfflgikkaaDoor
