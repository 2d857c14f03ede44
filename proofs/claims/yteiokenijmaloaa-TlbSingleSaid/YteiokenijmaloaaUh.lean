/-
  Layer 9, the walks: the page's Before, With, Without, Drop, Serving, Same.
-/
import Derived.Test.YteiokenijmaloaaUg
set_option linter.unusedSimpArgs false
set_option linter.unusedVariables false
namespace Go.Proofs.Yteiokenijmaloaa
open Go.RowKit GrT

theorem run_eql_ev (x0 x1 x2 x3 y0 y1 y2 y3 : Int) (w : World) : (binOp .eql 25 (.agg #[.int .i64 x0, .int .u64 x1, .int .u64 x2, .int .u64 x3]) (.agg #[.int .i64 y0, .int .u64 y1, .int .u64 y2, .int .u64 y3])).run Try.prog w = .ok (.bool (decide ((⟨x0, x1, x2, x3⟩ : E) = ⟨y0, y1, y2, y3⟩))) w := by
  have e : decide ((⟨x0, x1, x2, x3⟩ : E) = ⟨y0, y1, y2, y3⟩) = (x0 == y0 && (x1 == y1 && (x2 == y2 && x3 == y3))) := by rw [Bool.eq_iff_iff]; simp
  rw [e]
  cases c0 : (x0 == y0) <;> cases c1 : (x1 == y1) <;> cases c2 : (x2 == y2) <;> cases c3 : (x3 == y3) <;> simp [go_sem, *]
theorem run_neq_ev (x0 x1 x2 x3 y0 y1 y2 y3 : Int) (w : World) : (binOp .neq 25 (.agg #[.int .i64 x0, .int .u64 x1, .int .u64 x2, .int .u64 x3]) (.agg #[.int .i64 y0, .int .u64 y1, .int .u64 y2, .int .u64 y3])).run Try.prog w = .ok (.bool (decide ((⟨x0, x1, x2, x3⟩ : E) ≠ ⟨y0, y1, y2, y3⟩))) w := by
  have e : decide ((⟨x0, x1, x2, x3⟩ : E) ≠ ⟨y0, y1, y2, y3⟩) = !(x0 == y0 && (x1 == y1 && (x2 == y2 && x3 == y3))) := by rw [Bool.eq_iff_iff]; simp
  rw [e]
  cases c0 : (x0 == y0) <;> cases c1 : (x1 == y1) <;> cases c2 : (x2 == y2) <;> cases c3 : (x3 == y3) <;> simp [go_sem, *]
theorem Row.grownR {V U : World} {B : Nat} {L : List Value} {TT : TypeId} {row : Option Nat} (h : Row V B L TT) (hg : V.grownBy U row) (hne : some B ≠ row) : Row U B L TT := (hg.block B h.lt hne).trans h

set_option maxRecDepth 100000 in
set_option maxHeartbeats 6400000 in
theorem rwithout_any (v : Value) (L : List E) (e0 e1 e2 e3 : Int) (w : World) (h : SlE w v L) (hn : L.length ≤ 500) :
    Calls Try.prog 24 #[v, .agg #[.int .i64 e0, .int .u64 e1, .int .u64 e2, .int .u64 e3]] w fun e w' => ∃ v2, e = .returned v2 ∧ w'.ownsRow w.heap.size 25 4 v2 (L.filter (fun x => decide (x ≠ (⟨e0, e1, e2, e3⟩ : E)))).length (entsC (L.filter (fun x => decide (x ≠ (⟨e0, e1, e2, e3⟩ : E))))) ∧ Below w.heap.size w w' := by
  obtain ⟨i0, hi, hz0, hz1, hz2⟩ := info_parts ebytes
  obtain ⟨p, n, c, rfl⟩ := SlAt.form h
  have HN := Lib.hid h.len
  have HS := Lib.hid h
  have q9 : (n : Int) ≤ 500 := by have := h.len; omega
  obtain ⟨pr, hpr⟩ : ∃ pr : E → Bool, pr = (fun x => decide (x ≠ (⟨e0, e1, e2, e3⟩ : E))) := ⟨_, rfl⟩
  rw [← hpr]
  have PR := Lib.hid hpr
  clear h hn hpr 
  go_enter Try.func24, Try.ntmps24
  go_wp2_with fail
  have RE0 := Lib.hid (Row.new w [.int .i64 e0, .int .u64 e1, .int .u64 e2, .int .u64 e3] 25)
  go_loopw [5, 6] (fun ov i wr => ∃ j : Nat, j ≤ n ∧ i = .int .i64 (j : Int) ∧ wr.ownsRow (w.heap.size + 1) 25 4 ov ((L.take j).filter pr).length (entsC ((L.take j).filter pr)) ∧ Below w.heap.size w wr ∧ Row wr w.heap.size [.int .i64 e0, .int .u64 e1, .int .u64 e2, .int .u64 e3] 25) (fun _ i _ => n - (intOf i).toNat)
  case atStart => exact ⟨0, by omega, rfl, World.ownsRow_nil _ _ _ _, KB.alloc (Below.refl _ _) _, RE0.out⟩
  case round =>
    obtain ⟨j, hj, rfl, hown, hb, hre⟩ := hrel
    have HO := Lib.hid hown
    have HB := Lib.hid hb
    have BSZ := Lib.hid (show w.heap.size + 1 ≤ wr.heap.size from hre.lt)
    clear hown hb
    have RE := Lib.hid hre
    clear hre
    by_cases cj : j < n
    · have lj : j < L.length := by have := HN.out; omega
      obtain ⟨a, rfl⟩ := SlE.addr HS.out (by omega)
      have AT := Lib.hid (fun (U : World) (k : Below w.heap.size w U) => (HS.out.below k).at j lj)
      have TK := Lib.hid (show (L.take (j + 1)).filter pr = (L.take j).filter pr ++ [L[j]].filter pr by rw [List.take_succ_eq_append_getElem lj, List.filter_append])
      have WL := Lib.hid (show ((L.take j).filter pr).length ≤ j from Nat.le_trans (List.length_filter_le _ _) (List.length_take_le _ _))
      obtain ⟨⟨x0, x1, x2, x3⟩, hx⟩ : ∃ x, x = L[j] := ⟨_, rfl⟩
      rw [← hx] at AT TK
      simp only at AT
      obtain ⟨b, hb⟩ : ∃ b, b = pr ⟨x0, x1, x2, x3⟩ := ⟨_, rfl⟩
      have BE := Lib.hid hb
      clear hx lj hb
      have j0 : (0 : Int) ≤ (j : Int) := by omega
      have j1 : (j : Int) < (n : Int) := by omega
      have EQ : ∀ w, (binOp .neq 25 (.agg #[.int .i64 x0, .int .u64 x1, .int .u64 x2, .int .u64 x3]) (.agg #[.int .i64 e0, .int .u64 e1, .int .u64 e2, .int .u64 e3])).run Try.prog w = .ok (.bool b) w := fun w => by rw [run_neq_ev, BE.out, PR.out]
      have x0' : ∀ y : Wb wr, y.at.cell? (a.add (j * 4)) = some (.int .i64 x0) := fun y => (AT.out _ (KB.at HB.out y)).1
      have x1' : ∀ y : Wb wr, y.at.cell? ⟨(a.add (j * 4)).block, (a.add (j * 4)).off + 1, none⟩ = some (.int .u64 x1) := fun y => (AT.out _ (KB.at HB.out y)).2.1
      have x2' : ∀ y : Wb wr, y.at.cell? ⟨(a.add (j * 4)).block, (a.add (j * 4)).off + 2, none⟩ = some (.int .u64 x2) := fun y => (AT.out _ (KB.at HB.out y)).2.2.1
      have x3' : ∀ y : Wb wr, y.at.cell? ⟨(a.add (j * 4)).block, (a.add (j * 4)).off + 3, none⟩ = some (.int .u64 x3) := fun y => (AT.out _ (KB.at HB.out y)).2.2.2
      have c0 : ∀ y : Wb wr, y.at.cell? ⟨w.heap.size, 0, none⟩ = some (.int .i64 e0) := fun y => (RE.out.below y.bel).cell 0
      have c1 : ∀ y : Wb wr, y.at.cell? ⟨w.heap.size, 1, none⟩ = some (.int .u64 e1) := fun y => (RE.out.below y.bel).cell 1
      have c2 : ∀ y : Wb wr, y.at.cell? ⟨w.heap.size, 2, none⟩ = some (.int .u64 e2) := fun y => (RE.out.below y.bel).cell 2
      have c3 : ∀ y : Wb wr, y.at.cell? ⟨w.heap.size, 3, none⟩ = some (.int .u64 e3) := fun y => (RE.out.below y.bel).cell 3
      go_wp2_with fail
      refine wp_region_wb (by kernel_rfl) (by kernel_rfl) ?_
      repeat (go_big_quiet_step (fail))
      refine wpQuiet_nil ?_
      rintro _ ⟨z1, rfl⟩
      clear x0' x1' x2' x3' c0 c1 c2 c3 EQ
      have HB1 := Lib.hid (HB.out.trans (z1.bel.mono HB.out.size))
      have HO1 := Lib.hid (own_below HO.out z1.bel)
      obtain ⟨a0, a1, a2, a3⟩ := AT.out _ HB1.out
      cases b with
      | false =>
        have E := Lib.hid (show (L.take (j + 1)).filter pr = (L.take j).filter pr by rw [TK.out]; simp [← BE.out])
        go_wp2
        go_roundw
        case rel => exact ⟨j + 1, by omega, by go_num, by rw [E.out]; exact HO1.out, HB1.out, RE.out.below z1.bel⟩
        case measure => simp [intOf]; omega
      | true =>
        have E := Lib.hid (show (L.take (j + 1)).filter pr = (L.take j).filter pr ++ [⟨x0, x1, x2, x3⟩] by rw [TK.out]; simp [← BE.out])
        obtain ⟨q, hq⟩ : ∃ q, q = ((L.take j).filter pr).length := ⟨_, rfl⟩
        have QL := Lib.hid hq
        rw [← hq] at HO1 WL
        have wl : q ≤ j := WL.out
        clear hq
        have NW := Lib.hid (fun T => app_four z1.at (.int .i64 x0) (.int .u64 x1) (.int .u64 x2) (.int .u64 x3) T)
        have N1 := Lib.hid (show ∀ u ∈ [Value.int .i64 x0, .int .u64 x1, .int .u64 x2, .int .u64 x3], u.oneCell' = true by simp [Value.oneCell'])
        have S5 := Lib.hid (show ∀ o : Obj, (w.heap.size + 1) ≤ (z1.at.alloc o).heap.size from fun o => by have := HB1.out.size; have := BSZ.out; have := z1.bel.size; simp only [World.size_alloc]; omega)
        go_wp2_with (at_builtin; refine wpList_append_own _ rfl _ _ 27 rfl (w.heap.size + 1) 25 i0 (.agg #[.int .i64 0, .int .u64 0, .int .u64 0, .int .u64 0]) 4 32 Try.underlying27 hi hz0 hz1 hz2 rfl (by decide) _ _ _ rfl (HO1.out.alloc _) ⟨z1.at.heap.size, 0, none⟩ 1 1 [.int .i64 x0, .int .u64 x1, .int .u64 x2, .int .u64 x3] rfl rfl (NW.out _) N1.out (by unfold maxLen; omega) (by omega) (S5.out _) ?_)
        intro v2 w5 h2 hg2 _
        have O5 := Lib.hid (show w5.ownsRow (w.heap.size + 1) 25 4 v2 ((L.take (j + 1)).filter pr).length (entsC ((L.take (j + 1)).filter pr)) by rw [E.out, entsC_app, List.length_append, ← QL.out]; exact h2)
        have B5 := Lib.hid (show Below w.heap.size w w5 from (KB.alloc HB1.out _).grown hg2 (Nat.le_trans (show w.heap.size ≤ (w.heap.size + 1) by omega) (S5.out _)) (fun k hk => by have := (HO1.out.lt k hk).1; omega))
        have R5 := Lib.hid (show Row w5 w.heap.size [.int .i64 e0, .int .u64 e1, .int .u64 e2, .int .u64 e3] 25 from (RE.out.below z1.bel).old _ |>.grownR hg2 (fun e => by have := HO1.out.lt _ e.symm; omega))
        clear h2 hg2 NW N1 S5 a0 a1 a2 a3
        go_wp2
        go_roundw
        case rel => exact ⟨j + 1, by omega, by go_num, O5.out, B5.out, R5.out⟩
        case measure => simp [intOf]; omega
    · obtain rfl : n = j := by omega
      have E := Lib.hid (show L.take n = L by rw [HN.out, List.take_length])
      go_wp2
      go_ret
      exact ⟨_, rfl, own_base (by have := HO.out; rw [E.out] at this; exact this) (show w.heap.size ≤ (w.heap.size + 1) by omega), HB.out⟩

set_option maxRecDepth 100000 in
set_option maxHeartbeats 6400000 in
theorem rdrop_any (v : Value) (L : List E) (k p2 n2 : Int) (w : World) (h : SlE w v L) (hn : L.length ≤ 500) (hlb : LB L) (hp0 : 0 ≤ p2) (hp1 : p2 < 18446744073709551616) :
    Calls Try.prog 25 #[v, .agg #[.int .i64 k, .int .u64 p2, .int .i64 n2]] w fun e w' => ∃ v2, e = .returned v2 ∧ w'.ownsRow w.heap.size 25 4 v2 (L.filter (fun x => !takes k p2 n2 x)).length (entsC (L.filter (fun x => !takes k p2 n2 x))) ∧ Below w.heap.size w w' := by
  obtain ⟨i0, hi, hz0, hz1, hz2⟩ := info_parts ebytes
  obtain ⟨p, n, c, rfl⟩ := SlAt.form h
  have HN := Lib.hid h.len
  have HS := Lib.hid h
  have q9 : (n : Int) ≤ 500 := by have := h.len; omega
  have TA := Lib.hid (fun (x : E) (hx : x ∈ L) (U : World) => rtakes_any k p2 n2 x.space x.page x.first x.last (hlb x hx).2.1.1 (hlb x hx).2.1.2 (hlb x hx).2.2.1 (hlb x hx).2.2.2 hp0 hp1 U)
  obtain ⟨pr, hpr⟩ : ∃ pr : E → Bool, pr = (fun x => !takes k p2 n2 x) := ⟨_, rfl⟩
  rw [← hpr]
  have PR := Lib.hid hpr
  clear h hn hpr hp0 hp1 hlb
  go_enter Try.func25, Try.ntmps25
  go_wp2_with fail
  have RE0 := Lib.hid (Row.new w [.int .i64 k, .int .u64 p2, .int .i64 n2] 38)
  go_loopw [5, 6] (fun ov i wr => ∃ j : Nat, j ≤ n ∧ i = .int .i64 (j : Int) ∧ wr.ownsRow (w.heap.size + 1) 25 4 ov ((L.take j).filter pr).length (entsC ((L.take j).filter pr)) ∧ Below w.heap.size w wr ∧ Row wr w.heap.size [.int .i64 k, .int .u64 p2, .int .i64 n2] 38) (fun _ i _ => n - (intOf i).toNat)
  case atStart => exact ⟨0, by omega, rfl, World.ownsRow_nil _ _ _ _, KB.alloc (Below.refl _ _) _, RE0.out⟩
  case round =>
    obtain ⟨j, hj, rfl, hown, hb, hre⟩ := hrel
    have HO := Lib.hid hown
    have HB := Lib.hid hb
    have BSZ := Lib.hid (show w.heap.size + 1 ≤ wr.heap.size from hre.lt)
    clear hown hb
    have RE := Lib.hid hre
    clear hre
    by_cases cj : j < n
    · have lj : j < L.length := by have := HN.out; omega
      obtain ⟨a, rfl⟩ := SlE.addr HS.out (by omega)
      have AT := Lib.hid (fun (U : World) (k : Below w.heap.size w U) => (HS.out.below k).at j lj)
      have TK := Lib.hid (show (L.take (j + 1)).filter pr = (L.take j).filter pr ++ [L[j]].filter pr by rw [List.take_succ_eq_append_getElem lj, List.filter_append])
      have WL := Lib.hid (show ((L.take j).filter pr).length ≤ j from Nat.le_trans (List.length_filter_le _ _) (List.length_take_le _ _))
      have TX := Lib.hid (TA.out L[j] (List.getElem_mem lj))
      obtain ⟨⟨x0, x1, x2, x3⟩, hx⟩ : ∃ x, x = L[j] := ⟨_, rfl⟩
      rw [← hx] at AT TK TX
      simp only at AT
      obtain ⟨b, hb⟩ : ∃ b, b = pr ⟨x0, x1, x2, x3⟩ := ⟨_, rfl⟩
      have BE := Lib.hid hb
      clear hx lj hb
      have j0 : (0 : Int) ≤ (j : Int) := by omega
      have j1 : (j : Int) < (n : Int) := by omega
      have BT := Lib.hid (show takes k p2 n2 ⟨x0, x1, x2, x3⟩ = !b by rw [BE.out, PR.out]; simp)
      have TX := Lib.hid (show ∀ U, Calls Try.prog 42 #[.agg #[.int .i64 k, .int .u64 p2, .int .i64 n2], .agg #[.int .i64 x0, .int .u64 x1, .int .u64 x2, .int .u64 x3]] U fun e w' => e = .returned (.bool (!b)) ∧ Below U.heap.size U w' from fun U => by rw [← BT.out]; exact TX.out U)
      have x0' : ∀ y : Wb wr, y.at.cell? (a.add (j * 4)) = some (.int .i64 x0) := fun y => (AT.out _ (KB.at HB.out y)).1
      have x1' : ∀ y : Wb wr, y.at.cell? ⟨(a.add (j * 4)).block, (a.add (j * 4)).off + 1, none⟩ = some (.int .u64 x1) := fun y => (AT.out _ (KB.at HB.out y)).2.1
      have x2' : ∀ y : Wb wr, y.at.cell? ⟨(a.add (j * 4)).block, (a.add (j * 4)).off + 2, none⟩ = some (.int .u64 x2) := fun y => (AT.out _ (KB.at HB.out y)).2.2.1
      have x3' : ∀ y : Wb wr, y.at.cell? ⟨(a.add (j * 4)).block, (a.add (j * 4)).off + 3, none⟩ = some (.int .u64 x3) := fun y => (AT.out _ (KB.at HB.out y)).2.2.2
      have c0 : ∀ y : Wb wr, y.at.cell? ⟨w.heap.size, 0, none⟩ = some (.int .i64 k) := fun y => (RE.out.below y.bel).cell 0
      have c1 : ∀ y : Wb wr, y.at.cell? ⟨w.heap.size, 1, none⟩ = some (.int .u64 p2) := fun y => (RE.out.below y.bel).cell 1
      have c2 : ∀ y : Wb wr, y.at.cell? ⟨w.heap.size, 2, none⟩ = some (.int .i64 n2) := fun y => (RE.out.below y.bel).cell 2
      go_wp2_with fail
      refine wp_region_wb (by kernel_rfl) (by kernel_rfl) ?_
      repeat (go_big_quiet_step ((go_at_call 42; exact Calls.wb (TX.out _))))
      refine wpQuiet_nil ?_
      rintro _ ⟨z1, rfl⟩
      clear x0' x1' x2' x3' c0 c1 c2 TX
      have HB1 := Lib.hid (HB.out.trans (z1.bel.mono HB.out.size))
      have HO1 := Lib.hid (own_below HO.out z1.bel)
      obtain ⟨a0, a1, a2, a3⟩ := AT.out _ HB1.out
      cases b with
      | false =>
        have E := Lib.hid (show (L.take (j + 1)).filter pr = (L.take j).filter pr by rw [TK.out]; simp [← BE.out])
        go_wp2
        go_roundw
        case rel => exact ⟨j + 1, by omega, by go_num, by rw [E.out]; exact HO1.out, HB1.out, RE.out.below z1.bel⟩
        case measure => simp [intOf]; omega
      | true =>
        have E := Lib.hid (show (L.take (j + 1)).filter pr = (L.take j).filter pr ++ [⟨x0, x1, x2, x3⟩] by rw [TK.out]; simp [← BE.out])
        obtain ⟨q, hq⟩ : ∃ q, q = ((L.take j).filter pr).length := ⟨_, rfl⟩
        have QL := Lib.hid hq
        rw [← hq] at HO1 WL
        have wl : q ≤ j := WL.out
        clear hq
        have NW := Lib.hid (fun T => app_four z1.at (.int .i64 x0) (.int .u64 x1) (.int .u64 x2) (.int .u64 x3) T)
        have N1 := Lib.hid (show ∀ u ∈ [Value.int .i64 x0, .int .u64 x1, .int .u64 x2, .int .u64 x3], u.oneCell' = true by simp [Value.oneCell'])
        have S5 := Lib.hid (show ∀ o : Obj, (w.heap.size + 1) ≤ (z1.at.alloc o).heap.size from fun o => by have := HB1.out.size; have := BSZ.out; have := z1.bel.size; simp only [World.size_alloc]; omega)
        go_wp2_with (at_builtin; refine wpList_append_own _ rfl _ _ 27 rfl (w.heap.size + 1) 25 i0 (.agg #[.int .i64 0, .int .u64 0, .int .u64 0, .int .u64 0]) 4 32 Try.underlying27 hi hz0 hz1 hz2 rfl (by decide) _ _ _ rfl (HO1.out.alloc _) ⟨z1.at.heap.size, 0, none⟩ 1 1 [.int .i64 x0, .int .u64 x1, .int .u64 x2, .int .u64 x3] rfl rfl (NW.out _) N1.out (by unfold maxLen; omega) (by omega) (S5.out _) ?_)
        intro v2 w5 h2 hg2 _
        have O5 := Lib.hid (show w5.ownsRow (w.heap.size + 1) 25 4 v2 ((L.take (j + 1)).filter pr).length (entsC ((L.take (j + 1)).filter pr)) by rw [E.out, entsC_app, List.length_append, ← QL.out]; exact h2)
        have B5 := Lib.hid (show Below w.heap.size w w5 from (KB.alloc HB1.out _).grown hg2 (Nat.le_trans (show w.heap.size ≤ (w.heap.size + 1) by omega) (S5.out _)) (fun k hk => by have := (HO1.out.lt k hk).1; omega))
        have R5 := Lib.hid (show Row w5 w.heap.size [.int .i64 k, .int .u64 p2, .int .i64 n2] 38 from (RE.out.below z1.bel).old _ |>.grownR hg2 (fun e => by have := HO1.out.lt _ e.symm; omega))
        clear h2 hg2 NW N1 S5 a0 a1 a2 a3
        go_wp2
        go_roundw
        case rel => exact ⟨j + 1, by omega, by go_num, O5.out, B5.out, R5.out⟩
        case measure => simp [intOf]; omega
    · obtain rfl : n = j := by omega
      have E := Lib.hid (show L.take n = L by rw [HN.out, List.take_length])
      go_wp2
      go_ret
      exact ⟨_, rfl, own_base (by have := HO.out; rw [E.out] at this; exact this) (show w.heap.size ≤ (w.heap.size + 1) by omega), HB.out⟩

set_option maxRecDepth 100000 in
set_option maxHeartbeats 6400000 in
theorem rserving_any (v : Value) (L : List E) (n2 p2 : Int) (w : World) (h : SlE w v L) (hn : L.length ≤ 500) (hlb : LB L) (hp0 : 0 ≤ p2) (hp1 : p2 < 18446744073709551616) :
    Calls Try.prog 19 #[v, .int .i64 n2, .int .u64 p2] w fun e w' => ∃ v2, e = .returned v2 ∧ w'.ownsRow w.heap.size 25 4 v2 (L.filter (fun x => serves x n2 p2)).length (entsC (L.filter (fun x => serves x n2 p2))) ∧ Below w.heap.size w w' := by
  obtain ⟨i0, hi, hz0, hz1, hz2⟩ := info_parts ebytes
  obtain ⟨p, n, c, rfl⟩ := SlAt.form h
  have HN := Lib.hid h.len
  have HS := Lib.hid h
  have q9 : (n : Int) ≤ 500 := by have := h.len; omega
  have TA := Lib.hid (fun (x : E) (hx : x ∈ L) (U : World) => rserves_any x.space x.page x.first x.last n2 p2 (hlb x hx).2.1.1 (hlb x hx).2.1.2 (hlb x hx).2.2.1 (hlb x hx).2.2.2 hp0 hp1 U)
  obtain ⟨pr, hpr⟩ : ∃ pr : E → Bool, pr = (fun x => serves x n2 p2) := ⟨_, rfl⟩
  rw [← hpr]
  have PR := Lib.hid hpr
  clear h hn hpr hp0 hp1 hlb
  go_enter Try.func19, Try.ntmps19
  go_wp2_with fail
  go_loopw [7, 8] (fun ov i wr => ∃ j : Nat, j ≤ n ∧ i = .int .i64 (j : Int) ∧ wr.ownsRow w.heap.size 25 4 ov ((L.take j).filter pr).length (entsC ((L.take j).filter pr)) ∧ Below w.heap.size w wr) (fun _ i _ => n - (intOf i).toNat)
  case atStart => exact ⟨0, by omega, rfl, World.ownsRow_nil _ _ _ _, Below.refl _ _⟩
  case round =>
    obtain ⟨j, hj, rfl, hown, hb⟩ := hrel
    have HO := Lib.hid hown
    have HB := Lib.hid hb
    have BSZ := Lib.hid hb.size
    clear hown hb
    by_cases cj : j < n
    · have lj : j < L.length := by have := HN.out; omega
      obtain ⟨a, rfl⟩ := SlE.addr HS.out (by omega)
      have AT := Lib.hid (fun (U : World) (k : Below w.heap.size w U) => (HS.out.below k).at j lj)
      have TK := Lib.hid (show (L.take (j + 1)).filter pr = (L.take j).filter pr ++ [L[j]].filter pr by rw [List.take_succ_eq_append_getElem lj, List.filter_append])
      have WL := Lib.hid (show ((L.take j).filter pr).length ≤ j from Nat.le_trans (List.length_filter_le _ _) (List.length_take_le _ _))
      have TX := Lib.hid (TA.out L[j] (List.getElem_mem lj))
      obtain ⟨⟨x0, x1, x2, x3⟩, hx⟩ : ∃ x, x = L[j] := ⟨_, rfl⟩
      rw [← hx] at AT TK TX
      simp only at AT
      obtain ⟨b, hb⟩ : ∃ b, b = pr ⟨x0, x1, x2, x3⟩ := ⟨_, rfl⟩
      have BE := Lib.hid hb
      clear hx lj hb
      have j0 : (0 : Int) ≤ (j : Int) := by omega
      have j1 : (j : Int) < (n : Int) := by omega
      have BT := Lib.hid (show serves ⟨x0, x1, x2, x3⟩ n2 p2 = b by rw [BE.out, PR.out])
      have TX := Lib.hid (show ∀ U, Calls Try.prog 35 #[.agg #[.int .i64 x0, .int .u64 x1, .int .u64 x2, .int .u64 x3], .int .i64 n2, .int .u64 p2] U fun e w' => e = .returned (.bool b) ∧ Below U.heap.size U w' from fun U => by rw [← BT.out]; exact TX.out U)
      obtain ⟨y0, y1, y2, y3⟩ := AT.out _ HB.out
      go_wp2_with fail
      refine (TX.out _).mono ?_
      rintro e w1 ⟨rfl, g1⟩
      obtain ⟨z1, rfl⟩ := Wb.start g1
      clear g1 y0 y1 y2 y3 TX
      have HB1 := Lib.hid (HB.out.trans (z1.bel.mono HB.out.size))
      have HO1 := Lib.hid (own_below HO.out z1.bel)
      obtain ⟨a0, a1, a2, a3⟩ := AT.out _ HB1.out
      cases b with
      | false =>
        have E := Lib.hid (show (L.take (j + 1)).filter pr = (L.take j).filter pr by rw [TK.out]; simp [← BE.out])
        go_wp2
        go_roundw
        case rel => exact ⟨j + 1, by omega, by go_num, by rw [E.out]; exact HO1.out, HB1.out⟩
        case measure => simp [intOf]; omega
      | true =>
        have E := Lib.hid (show (L.take (j + 1)).filter pr = (L.take j).filter pr ++ [⟨x0, x1, x2, x3⟩] by rw [TK.out]; simp [← BE.out])
        obtain ⟨q, hq⟩ : ∃ q, q = ((L.take j).filter pr).length := ⟨_, rfl⟩
        have QL := Lib.hid hq
        rw [← hq] at HO1 WL
        have wl : q ≤ j := WL.out
        clear hq
        have NW := Lib.hid (fun T => app_four z1.at (.int .i64 x0) (.int .u64 x1) (.int .u64 x2) (.int .u64 x3) T)
        have N1 := Lib.hid (show ∀ u ∈ [Value.int .i64 x0, .int .u64 x1, .int .u64 x2, .int .u64 x3], u.oneCell' = true by simp [Value.oneCell'])
        have S5 := Lib.hid (show ∀ o : Obj, w.heap.size ≤ (z1.at.alloc o).heap.size from fun o => by have := HB1.out.size; have := BSZ.out; have := z1.bel.size; simp only [World.size_alloc]; omega)
        go_wp2_with (at_builtin; refine wpList_append_own _ rfl _ _ 27 rfl w.heap.size 25 i0 (.agg #[.int .i64 0, .int .u64 0, .int .u64 0, .int .u64 0]) 4 32 Try.underlying27 hi hz0 hz1 hz2 rfl (by decide) _ _ _ rfl (HO1.out.alloc _) ⟨z1.at.heap.size, 0, none⟩ 1 1 [.int .i64 x0, .int .u64 x1, .int .u64 x2, .int .u64 x3] rfl rfl (NW.out _) N1.out (by unfold maxLen; omega) (by omega) (S5.out _) ?_)
        intro v2 w5 h2 hg2 _
        have O5 := Lib.hid (show w5.ownsRow w.heap.size 25 4 v2 ((L.take (j + 1)).filter pr).length (entsC ((L.take (j + 1)).filter pr)) by rw [E.out, entsC_app, List.length_append, ← QL.out]; exact h2)
        have B5 := Lib.hid (show Below w.heap.size w w5 from (KB.alloc HB1.out _).grown hg2 (Nat.le_trans (show w.heap.size ≤ w.heap.size by omega) (S5.out _)) (fun k hk => by have := (HO1.out.lt k hk).1; omega))
        clear h2 hg2 NW N1 S5 a0 a1 a2 a3
        go_wp2
        go_roundw
        case rel => exact ⟨j + 1, by omega, by go_num, O5.out, B5.out⟩
        case measure => simp [intOf]; omega
    · obtain rfl : n = j := by omega
      have E := Lib.hid (show L.take n = L by rw [HN.out, List.take_length])
      go_wp2
      go_ret
      exact ⟨_, rfl, own_base (by have := HO.out; rw [E.out] at this; exact this) (show w.heap.size ≤ w.heap.size by omega), HB.out⟩
end Go.Proofs.Yteiokenijmaloaa
