/-
  Layer 9, the walks: only, Drop, Serving.
-/
import Derived.Test.YteiokenijmaloaaUf
import Derived.Test.YteiokenijmaloaaTe
import Derived.Shelf.Abstract
set_option linter.unusedSimpArgs false
set_option linter.unusedVariables false
namespace Go.Proofs.Yteiokenijmaloaa
open Go.RowKit GrT

theorem app_four (w : World) (u0 u1 u2 u3 : Value) (T : TypeId) : ∀ j u, ([u0, u1, u2, u3] : List Value)[j]? = some u → (w.alloc (.cells #[u0, u1, u2, u3] T)).cell? ((⟨w.heap.size, 0, none⟩ : Addr).add j) = some u := by
  intro j u h
  match j, h with
  | 0, h => simp at h; subst h; simp [Addr.add, World.cell?_alloc_new]
  | 1, h => simp at h; subst h; simp [Addr.add, World.cell?_alloc_new]
  | 2, h => simp at h; subst h; simp [Addr.add, World.cell?_alloc_new]
  | 3, h => simp at h; subst h; simp [Addr.add, World.cell?_alloc_new]
  | j + 4, h => simp at h

set_option maxRecDepth 100000 in
set_option maxHeartbeats 6400000 in
theorem only1_any (v : Value) (L : List E) (g : Nat) (b0 : Value) (pr : E → Bool) (w : World) (h : SlE w v L) (hn : L.length ≤ 500) (he : ∀ args w, (callFunc g args).run Try.prog w = .ok (.enter g args) w) (hg : ∀ x ∈ L, ∀ U, Below w.heap.size w U → Calls Try.prog g #[ev x, b0] U fun e w' => e = .returned (.bool (pr x)) ∧ Below U.heap.size U w') :
    Calls Try.prog 29 #[.agg #[v], .func (.func g) #[] #[b0]] w fun e w' => ∃ v2, e = .returned v2 ∧ w'.ownsRow w.heap.size 25 4 v2 (L.filter pr).length (entsC (L.filter pr)) ∧ Below w.heap.size w w' := by
  obtain ⟨i0, hi, hz0, hz1, hz2⟩ := info_parts ebytes
  obtain ⟨p, n, c, rfl⟩ := SlAt.form h
  have HN := Lib.hid h.len
  have HS := Lib.hid h
  have HG := Lib.hid hg
  have q9 : (n : Int) ≤ 500 := by have := h.len; omega
  clear h hn hg
  go_enter Try.func29, Try.ntmps29
  go_wp2_with fail
  go_loopw [5, 11] (fun ov i wr => ∃ j : Nat, j ≤ n ∧ i = .int .i64 (j : Int) ∧ wr.ownsRow w.heap.size 25 4 ov ((L.take j).filter pr).length (entsC ((L.take j).filter pr)) ∧ Below w.heap.size w wr) (fun _ i _ => n - (intOf i).toNat)
  case atStart => exact ⟨0, by omega, rfl, World.ownsRow_nil _ _ _ _, KB.alloc (Below.refl _ _) _⟩
  case round =>
    obtain ⟨j, hj, rfl, hown, hb⟩ := hrel
    have HO := Lib.hid hown
    have HB := Lib.hid hb
    clear hown hb
    by_cases cj : j < n
    · have lj : j < L.length := by have := HN.out; omega
      obtain ⟨a, rfl⟩ := SlE.addr HS.out (by omega)
      obtain ⟨y0, y1, y2, y3⟩ := (HS.out.below HB.out).at j lj
      have TK := Lib.hid (show (L.take (j + 1)).filter pr = (L.take j).filter pr ++ [L[j]].filter pr by rw [List.take_succ_eq_append_getElem lj, List.filter_append])
      have WL := Lib.hid (show ((L.take j).filter pr).length ≤ j from Nat.le_trans (List.length_filter_le _ _) (List.length_take_le _ _))
      have CG := Lib.hid (fun U k => HG.out L[j] (List.getElem_mem lj) U k)
      obtain ⟨⟨x0, x1, x2, x3⟩, hx⟩ : ∃ x, x = L[j] := ⟨_, rfl⟩
      rw [← hx] at y0 y1 y2 y3 TK CG
      simp only at y0 y1 y2 y3
      unfold ev at CG
      simp only at CG
      obtain ⟨b, hb⟩ : ∃ b, b = pr ⟨x0, x1, x2, x3⟩ := ⟨_, rfl⟩
      rw [← hb] at CG
      clear hx lj
      have j0 : (0 : Int) ≤ (j : Int) := by omega
      have j1 : (j : Int) < (n : Int) := by omega
      go_upto_region 5 with fail
      refine to_cls ?_
      intro U hU z
      have r_x : ∀ z : Wb U, Row z.at wr.heap.size [.int .i64 x0, .int .u64 x1, .int .u64 x2, .int .u64 x3] 25 := Row.next (Row.new _ [.int .i64 x0, .int .u64 x1, .int .u64 x2, .int .u64 x3] _) hU
      have KU := Lib.hid (fun z : Wb U => (show Below wr.heap.size wr z.at from (KB.alloc (Below.refl _ _) _ : Below wr.heap.size wr _).trans ((hU.trans (z.bel.mono hU.size)).mono (by simp))))
      have c0 : ∀ z : Wb U, z.at.cell? ⟨wr.heap.size, 0, none⟩ = some (.int .i64 x0) := fun z => (r_x z).cell 0
      have c1 : ∀ z : Wb U, z.at.cell? ⟨wr.heap.size, 1, none⟩ = some (.int .u64 x1) := fun z => (r_x z).cell 1
      have c2 : ∀ z : Wb U, z.at.cell? ⟨wr.heap.size, 2, none⟩ = some (.int .u64 x2) := fun z => (r_x z).cell 2
      have c3 : ∀ z : Wb U, z.at.cell? ⟨wr.heap.size, 3, none⟩ = some (.int .u64 x3) := fun z => (r_x z).cell 3
      clear hU r_x y0 y1 y2 y3
      go_wp2_with fail
      refine (CG.out _ (HB.out.trans ((KU.out z).mono HB.out.size))).mono ?_
      rintro e w1 ⟨rfl, g1⟩
      obtain ⟨z1, rfl⟩ := Wb.next (x := z) g1
      clear g1
      have HB1 := Lib.hid (HB.out.trans ((KU.out z1).mono HB.out.size))
      have HO1 := Lib.hid (own_below HO.out (KU.out z1))
      cases b with
      | false =>
        have E := Lib.hid (show (L.take (j + 1)).filter pr = (L.take j).filter pr by rw [TK.out]; simp [← hb])
        clear hb
        go_wp2
        go_roundw
        case rel => exact ⟨j + 1, by omega, by go_num, by rw [E.out]; exact HO1.out, HB1.out⟩
        case measure => simp [intOf]; omega
      | true =>
        have E := Lib.hid (show (L.take (j + 1)).filter pr = (L.take j).filter pr ++ [⟨x0, x1, x2, x3⟩] by rw [TK.out]; simp [← hb])
        clear hb
        obtain ⟨q, hq⟩ : ∃ q, q = ((L.take j).filter pr).length := ⟨_, rfl⟩
        have QL := Lib.hid hq
        rw [← hq] at HO1 WL
        have wl : q ≤ j := WL.out
        clear hq
        have NW := Lib.hid (fun T => app_four z1.at (.int .i64 x0) (.int .u64 x1) (.int .u64 x2) (.int .u64 x3) T)
        have N1 := Lib.hid (show ∀ u ∈ [Value.int .i64 x0, .int .u64 x1, .int .u64 x2, .int .u64 x3], u.oneCell' = true by simp [Value.oneCell'])
        have S5 := Lib.hid (show ∀ o : Obj, w.heap.size ≤ (z1.at.alloc o).heap.size from fun o => by have := HB1.out.size; simp only [World.size_alloc]; omega)
        go_wp2_with (at_builtin; refine wpList_append_own _ rfl _ _ 27 rfl w.heap.size 25 i0 (.agg #[.int .i64 0, .int .u64 0, .int .u64 0, .int .u64 0]) 4 32 Try.underlying27 hi hz0 hz1 hz2 rfl (by decide) _ _ _ rfl (HO1.out.alloc _) ⟨z1.at.heap.size, 0, none⟩ 1 1 [.int .i64 x0, .int .u64 x1, .int .u64 x2, .int .u64 x3] rfl rfl (NW.out _) N1.out (by unfold maxLen; omega) (by omega) (S5.out _) ?_)
        intro v2 w5 h2 hg2 _
        have O5 := Lib.hid (show w5.ownsRow w.heap.size 25 4 v2 ((L.take (j + 1)).filter pr).length (entsC ((L.take (j + 1)).filter pr)) by rw [E.out, entsC_app, List.length_append, ← QL.out]; exact h2)
        have B5 := Lib.hid (show Below w.heap.size w w5 from (KB.alloc HB1.out _).grown hg2 (S5.out _) (fun k hk => (HO1.out.lt k hk).1))
        clear h2 hg2 NW N1 S5
        go_wp2
        go_roundw
        case rel => exact ⟨j + 1, by omega, by go_num, O5.out, B5.out⟩
        case measure => simp [intOf]; omega
    · obtain rfl : n = j := by omega
      have E := Lib.hid (show L.take n = L by rw [HN.out, List.take_length])
      go_wp2
      go_ret
      exact ⟨_, rfl, by have := HO.out; rw [E.out] at this; exact this, HB.out⟩

set_option maxRecDepth 100000 in
set_option maxHeartbeats 6400000 in
theorem only2_any (v : Value) (L : List E) (g : Nat) (b0 b1 : Value) (pr : E → Bool) (w : World) (h : SlE w v L) (hn : L.length ≤ 500) (he : ∀ args w, (callFunc g args).run Try.prog w = .ok (.enter g args) w) (hg : ∀ x ∈ L, ∀ U, Below w.heap.size w U → Calls Try.prog g #[ev x, b0, b1] U fun e w' => e = .returned (.bool (pr x)) ∧ Below U.heap.size U w') :
    Calls Try.prog 29 #[.agg #[v], .func (.func g) #[] #[b0, b1]] w fun e w' => ∃ v2, e = .returned v2 ∧ w'.ownsRow w.heap.size 25 4 v2 (L.filter pr).length (entsC (L.filter pr)) ∧ Below w.heap.size w w' := by
  obtain ⟨i0, hi, hz0, hz1, hz2⟩ := info_parts ebytes
  obtain ⟨p, n, c, rfl⟩ := SlAt.form h
  have HN := Lib.hid h.len
  have HS := Lib.hid h
  have HG := Lib.hid hg
  have q9 : (n : Int) ≤ 500 := by have := h.len; omega
  clear h hn hg
  go_enter Try.func29, Try.ntmps29
  go_wp2_with fail
  go_loopw [5, 11] (fun ov i wr => ∃ j : Nat, j ≤ n ∧ i = .int .i64 (j : Int) ∧ wr.ownsRow w.heap.size 25 4 ov ((L.take j).filter pr).length (entsC ((L.take j).filter pr)) ∧ Below w.heap.size w wr) (fun _ i _ => n - (intOf i).toNat)
  case atStart => exact ⟨0, by omega, rfl, World.ownsRow_nil _ _ _ _, KB.alloc (Below.refl _ _) _⟩
  case round =>
    obtain ⟨j, hj, rfl, hown, hb⟩ := hrel
    have HO := Lib.hid hown
    have HB := Lib.hid hb
    clear hown hb
    by_cases cj : j < n
    · have lj : j < L.length := by have := HN.out; omega
      obtain ⟨a, rfl⟩ := SlE.addr HS.out (by omega)
      obtain ⟨y0, y1, y2, y3⟩ := (HS.out.below HB.out).at j lj
      have TK := Lib.hid (show (L.take (j + 1)).filter pr = (L.take j).filter pr ++ [L[j]].filter pr by rw [List.take_succ_eq_append_getElem lj, List.filter_append])
      have WL := Lib.hid (show ((L.take j).filter pr).length ≤ j from Nat.le_trans (List.length_filter_le _ _) (List.length_take_le _ _))
      have CG := Lib.hid (fun U k => HG.out L[j] (List.getElem_mem lj) U k)
      obtain ⟨⟨x0, x1, x2, x3⟩, hx⟩ : ∃ x, x = L[j] := ⟨_, rfl⟩
      rw [← hx] at y0 y1 y2 y3 TK CG
      simp only at y0 y1 y2 y3
      unfold ev at CG
      simp only at CG
      obtain ⟨b, hb⟩ : ∃ b, b = pr ⟨x0, x1, x2, x3⟩ := ⟨_, rfl⟩
      rw [← hb] at CG
      clear hx lj
      have j0 : (0 : Int) ≤ (j : Int) := by omega
      have j1 : (j : Int) < (n : Int) := by omega
      go_upto_region 5 with fail
      refine to_cls ?_
      intro U hU z
      have r_x : ∀ z : Wb U, Row z.at wr.heap.size [.int .i64 x0, .int .u64 x1, .int .u64 x2, .int .u64 x3] 25 := Row.next (Row.new _ [.int .i64 x0, .int .u64 x1, .int .u64 x2, .int .u64 x3] _) hU
      have KU := Lib.hid (fun z : Wb U => (show Below wr.heap.size wr z.at from (KB.alloc (Below.refl _ _) _ : Below wr.heap.size wr _).trans ((hU.trans (z.bel.mono hU.size)).mono (by simp))))
      have c0 : ∀ z : Wb U, z.at.cell? ⟨wr.heap.size, 0, none⟩ = some (.int .i64 x0) := fun z => (r_x z).cell 0
      have c1 : ∀ z : Wb U, z.at.cell? ⟨wr.heap.size, 1, none⟩ = some (.int .u64 x1) := fun z => (r_x z).cell 1
      have c2 : ∀ z : Wb U, z.at.cell? ⟨wr.heap.size, 2, none⟩ = some (.int .u64 x2) := fun z => (r_x z).cell 2
      have c3 : ∀ z : Wb U, z.at.cell? ⟨wr.heap.size, 3, none⟩ = some (.int .u64 x3) := fun z => (r_x z).cell 3
      clear hU r_x y0 y1 y2 y3
      go_wp2_with fail
      refine (CG.out _ (HB.out.trans ((KU.out z).mono HB.out.size))).mono ?_
      rintro e w1 ⟨rfl, g1⟩
      obtain ⟨z1, rfl⟩ := Wb.next (x := z) g1
      clear g1
      have HB1 := Lib.hid (HB.out.trans ((KU.out z1).mono HB.out.size))
      have HO1 := Lib.hid (own_below HO.out (KU.out z1))
      cases b with
      | false =>
        have E := Lib.hid (show (L.take (j + 1)).filter pr = (L.take j).filter pr by rw [TK.out]; simp [← hb])
        clear hb
        go_wp2
        go_roundw
        case rel => exact ⟨j + 1, by omega, by go_num, by rw [E.out]; exact HO1.out, HB1.out⟩
        case measure => simp [intOf]; omega
      | true =>
        have E := Lib.hid (show (L.take (j + 1)).filter pr = (L.take j).filter pr ++ [⟨x0, x1, x2, x3⟩] by rw [TK.out]; simp [← hb])
        clear hb
        obtain ⟨q, hq⟩ : ∃ q, q = ((L.take j).filter pr).length := ⟨_, rfl⟩
        have QL := Lib.hid hq
        rw [← hq] at HO1 WL
        have wl : q ≤ j := WL.out
        clear hq
        have NW := Lib.hid (fun T => app_four z1.at (.int .i64 x0) (.int .u64 x1) (.int .u64 x2) (.int .u64 x3) T)
        have N1 := Lib.hid (show ∀ u ∈ [Value.int .i64 x0, .int .u64 x1, .int .u64 x2, .int .u64 x3], u.oneCell' = true by simp [Value.oneCell'])
        have S5 := Lib.hid (show ∀ o : Obj, w.heap.size ≤ (z1.at.alloc o).heap.size from fun o => by have := HB1.out.size; simp only [World.size_alloc]; omega)
        go_wp2_with (at_builtin; refine wpList_append_own _ rfl _ _ 27 rfl w.heap.size 25 i0 (.agg #[.int .i64 0, .int .u64 0, .int .u64 0, .int .u64 0]) 4 32 Try.underlying27 hi hz0 hz1 hz2 rfl (by decide) _ _ _ rfl (HO1.out.alloc _) ⟨z1.at.heap.size, 0, none⟩ 1 1 [.int .i64 x0, .int .u64 x1, .int .u64 x2, .int .u64 x3] rfl rfl (NW.out _) N1.out (by unfold maxLen; omega) (by omega) (S5.out _) ?_)
        intro v2 w5 h2 hg2 _
        have O5 := Lib.hid (show w5.ownsRow w.heap.size 25 4 v2 ((L.take (j + 1)).filter pr).length (entsC ((L.take (j + 1)).filter pr)) by rw [E.out, entsC_app, List.length_append, ← QL.out]; exact h2)
        have B5 := Lib.hid (show Below w.heap.size w w5 from (KB.alloc HB1.out _).grown hg2 (S5.out _) (fun k hk => (HO1.out.lt k hk).1))
        clear h2 hg2 NW N1 S5
        go_wp2
        go_roundw
        case rel => exact ⟨j + 1, by omega, by go_num, O5.out, B5.out⟩
        case measure => simp [intOf]; omega
    · obtain rfl : n = j := by omega
      have E := Lib.hid (show L.take n = L by rw [HN.out, List.take_length])
      go_wp2
      go_ret
      exact ⟨_, rfl, by have := HO.out; rw [E.out] at this; exact this, HB.out⟩

set_option maxRecDepth 100000 in
set_option maxHeartbeats 4000000 in
theorem drop_any (v : Value) (L : List E) (k p n : Int) (w : World) (h : SlE w v L) (hn : L.length ≤ 500) (hb : LB L) (hp0 : 0 ≤ p) (hp1 : p < 18446744073709551616) :
    Calls Try.prog 16 #[.agg #[v], .agg #[.int .i64 k, .int .u64 p, .int .i64 n]] w fun e w' => ∃ v2, e = .returned (.agg #[v2]) ∧ SlE w' v2 (L.filter fun x => !takes k p n x) ∧ Below w.heap.size w w' := by
  obtain ⟨sp, sn, sc, rfl⟩ := SlAt.form h
  have OD := Lib.hid (fun (B : Nat) (U : World) (kU : Below w.heap.size w U) (r : Row U B [.int .i64 k, .int .u64 p, .int .i64 n] 38) => only1_any _ L 30 (.pointer (some ⟨B, 0, none⟩)) (fun x => !takes k p n x) U (h.below kU) hn (enters_of Try.func30 (by kernel_rfl) rfl) (by
    intro x hx V kV
    obtain ⟨x0, x1, x2, x3⟩ := x
    have RV := Lib.hid (r.below kV)
    have b := hb _ hx
    have TA := Lib.hid (fun w => takes_any k p n x0 x1 x2 x3 b.2.1.1 b.2.1.2 b.2.2.1 b.2.2.2 hp0 hp1 w)
    obtain ⟨t, ht⟩ : ∃ t, t = takes k p n ⟨x0, x1, x2, x3⟩ := ⟨_, rfl⟩
    rw [← ht] at TA ⊢
    unfold ev
    clear b ht
    go_enter Try.func30, Try.ntmps30
    go_upto_region 1 with fail
    refine to_cls ?_
    intro U1 hU1 z
    have r_f : ∀ z : Wb U1, Row z.at B [.int .i64 k, .int .u64 p, .int .i64 n] 38 := Row.next (RV.out.old _) hU1
    have r_x : ∀ z : Wb U1, Row z.at V.heap.size [.int .i64 x0, .int .u64 x1, .int .u64 x2, .int .u64 x3] 25 := Row.next (Row.new _ [.int .i64 x0, .int .u64 x1, .int .u64 x2, .int .u64 x3] _) hU1
    have KV := Lib.hid (KB.next (KB.alloc (Below.refl V.heap.size V) _) hU1)
    have f0 : ∀ z : Wb U1, z.at.cell? ⟨B, 0, none⟩ = some (.int .i64 k) := fun z => (r_f z).cell 0
    have f1 : ∀ z : Wb U1, z.at.cell? ⟨B, 1, none⟩ = some (.int .u64 p) := fun z => (r_f z).cell 1
    have f2 : ∀ z : Wb U1, z.at.cell? ⟨B, 2, none⟩ = some (.int .i64 n) := fun z => (r_f z).cell 2
    have c0 : ∀ z : Wb U1, z.at.cell? ⟨V.heap.size, 0, none⟩ = some (.int .i64 x0) := fun z => (r_x z).cell 0
    have c1 : ∀ z : Wb U1, z.at.cell? ⟨V.heap.size, 1, none⟩ = some (.int .u64 x1) := fun z => (r_x z).cell 1
    have c2 : ∀ z : Wb U1, z.at.cell? ⟨V.heap.size, 2, none⟩ = some (.int .u64 x2) := fun z => (r_x z).cell 2
    have c3 : ∀ z : Wb U1, z.at.cell? ⟨V.heap.size, 3, none⟩ = some (.int .u64 x3) := fun z => (r_x z).cell 3
    clear hU1 r_f r_x
    go_wp2_with fail
    refine (TA.out _).mono ?_
    rintro e w1 ⟨rfl, g1⟩
    obtain ⟨z1, rfl⟩ := Wb.next (x := z) g1
    clear g1
    go_wp2
    go_ret
    exact ⟨rfl, KV.out z1⟩))
  clear h hn hb hp0 hp1
  go_enter Try.func16, Try.ntmps16
  go_upto_region 1 with fail
  refine to_cls ?_
  intro U hU z
  have r_b : ∀ z : Wb U, Row z.at w.heap.size [.slice sp sn sc] 29 := Row.next (((Row.new _ [.slice sp sn sc] _).old _).old _) hU
  have r_f : ∀ z : Wb U, Row z.at (w.heap.size + 1) [.int .i64 k, .int .u64 p, .int .i64 n] 38 := Row.next ((Row.new' _ [.int .i64 k, .int .u64 p, .int .i64 n] _ _ (by simp)).old _) hU
  have r_r : ∀ z : Wb U, Row z.at (w.heap.size + 1 + 1) [.slice none 0 0] 29 := Row.next (Row.new' _ [.slice none 0 0] _ _ (by simp)) hU
  have KK := Lib.hid (KB.next (KB.alloc (KB.alloc (KB.alloc (Below.refl w.heap.size w) _) _) _) hU)
  have b0 : ∀ z : Wb U, z.at.cell? ⟨w.heap.size, 0, none⟩ = some (.slice sp sn sc) := fun z => (r_b z).cell 0
  have r0 : ∀ z : Wb U, z.at.cell? ⟨w.heap.size + 1 + 1, 0, none⟩ = some (.slice none 0 0) := fun z => (r_r z).cell 0
  have fr : ∀ z : Wb U, z.at.frozen? ⟨w.heap.size + 1 + 1, 0, none⟩ = false := fun z => (r_r z).free 0
  clear hU r_b
  go_wp2_with fail
  refine (OD.out (w.heap.size + 1) z.at (KK.out z) (r_f z)).mono ?_
  rintro e w1 ⟨v2, rfl, o1, g1⟩
  obtain ⟨z1, rfl⟩ := Wb.next (x := z) g1
  obtain ⟨p5, n5, c5, rfl⟩ := SlAt.form (SlAt.own o1)
  have O1 := Lib.hid o1
  have L1 := Lib.hid (r_r z).lt
  clear g1 o1 r_f r_r
  go_wp2
  refine bodyPost_ret (v := .agg #[.slice p5 n5 c5]) (by simp [results, Try.results16, go_sem, *]) rfl ⟨_, rfl, SlAt.own (own_set (C := w.heap.size + 1 + 1) O1.out L1.out 0 _), KB.put (KK.out z1) (by omega) 0 _⟩

set_option maxRecDepth 100000 in
set_option maxHeartbeats 4000000 in
theorem serving_any (v : Value) (L : List E) (n p : Int) (w : World) (h : SlE w v L) (hn : L.length ≤ 500) (hb : LB L) (hp0 : 0 ≤ p) (hp1 : p < 18446744073709551616) :
    Calls Try.prog 18 #[.agg #[v], .int .i64 n, .int .u64 p] w fun e w' => ∃ v2, e = .returned v2 ∧ w'.ownsRow w.heap.size 25 4 v2 (L.filter fun x => serves x n p).length (entsC (L.filter fun x => serves x n p)) ∧ Below w.heap.size w w' := by
  obtain ⟨sp, sn, sc, rfl⟩ := SlAt.form h
  have OD := Lib.hid (fun (B B2 : Nat) (U : World) (kU : Below w.heap.size w U) (r : Row U B [.int .i64 n] 3) (r2 : Row U B2 [.int .u64 p] 23) => only2_any _ L 34 (.pointer (some ⟨B, 0, none⟩)) (.pointer (some ⟨B2, 0, none⟩)) (fun x => serves x n p) U (h.below kU) hn (enters_of Try.func34 (by kernel_rfl) rfl) (by
    intro x hx V kV
    obtain ⟨x0, x1, x2, x3⟩ := x
    have RV := Lib.hid (r.below kV)
    have RV2 := Lib.hid (r2.below kV)
    have b := hb _ hx
    have TA := Lib.hid (fun w => serves_any x0 x1 x2 x3 n p b.2.1.1 b.2.1.2 b.2.2.1 b.2.2.2 hp0 hp1 w)
    obtain ⟨t, ht⟩ : ∃ t, t = serves ⟨x0, x1, x2, x3⟩ n p := ⟨_, rfl⟩
    rw [← ht] at TA ⊢
    unfold ev
    clear b ht
    go_enter Try.func34, Try.ntmps34
    go_upto_region 1 with fail
    refine to_cls ?_
    intro U1 hU1 z
    have r_f : ∀ z : Wb U1, Row z.at B [.int .i64 n] 3 := Row.next (RV.out.old _) hU1
    have r_g : ∀ z : Wb U1, Row z.at B2 [.int .u64 p] 23 := Row.next (RV2.out.old _) hU1
    have r_x : ∀ z : Wb U1, Row z.at V.heap.size [.int .i64 x0, .int .u64 x1, .int .u64 x2, .int .u64 x3] 25 := Row.next (Row.new _ [.int .i64 x0, .int .u64 x1, .int .u64 x2, .int .u64 x3] _) hU1
    have KV := Lib.hid (KB.next (KB.alloc (Below.refl V.heap.size V) _) hU1)
    have f0 : ∀ z : Wb U1, z.at.cell? ⟨B, 0, none⟩ = some (.int .i64 n) := fun z => (r_f z).cell 0
    have f1 : ∀ z : Wb U1, z.at.cell? ⟨B2, 0, none⟩ = some (.int .u64 p) := fun z => (r_g z).cell 0
    have c0 : ∀ z : Wb U1, z.at.cell? ⟨V.heap.size, 0, none⟩ = some (.int .i64 x0) := fun z => (r_x z).cell 0
    have c1 : ∀ z : Wb U1, z.at.cell? ⟨V.heap.size, 1, none⟩ = some (.int .u64 x1) := fun z => (r_x z).cell 1
    have c2 : ∀ z : Wb U1, z.at.cell? ⟨V.heap.size, 2, none⟩ = some (.int .u64 x2) := fun z => (r_x z).cell 2
    have c3 : ∀ z : Wb U1, z.at.cell? ⟨V.heap.size, 3, none⟩ = some (.int .u64 x3) := fun z => (r_x z).cell 3
    clear hU1 r_f r_g r_x
    go_wp2_with fail
    refine (TA.out _).mono ?_
    rintro e w1 ⟨rfl, g1⟩
    obtain ⟨z1, rfl⟩ := Wb.next (x := z) g1
    clear g1
    go_wp2
    go_ret
    exact ⟨rfl, KV.out z1⟩))
  clear h hn hb hp0 hp1
  go_enter Try.func18, Try.ntmps18
  go_upto_region 1 with fail
  refine to_cls ?_
  intro U hU z
  have r_b : ∀ z : Wb U, Row z.at w.heap.size [.slice sp sn sc] 29 := Row.next (((Row.new _ [.slice sp sn sc] _).old _).old _) hU
  have r_f : ∀ z : Wb U, Row z.at (w.heap.size + 1) [.int .i64 n] 3 := Row.next ((Row.new' _ [.int .i64 n] _ _ (by simp)).old _) hU
  have r_g : ∀ z : Wb U, Row z.at (w.heap.size + 1 + 1) [.int .u64 p] 23 := Row.next (Row.new' _ [.int .u64 p] _ _ (by simp)) hU
  have KK := Lib.hid (KB.next (KB.alloc (KB.alloc (KB.alloc (Below.refl w.heap.size w) _) _) _) hU)
  have b0 : ∀ z : Wb U, z.at.cell? ⟨w.heap.size, 0, none⟩ = some (.slice sp sn sc) := fun z => (r_b z).cell 0
  clear hU r_b
  go_wp2_with fail
  refine (OD.out (w.heap.size + 1) (w.heap.size + 1 + 1) z.at (KK.out z) (r_f z) (r_g z)).mono ?_
  rintro e w1 ⟨v2, rfl, o1, g1⟩
  obtain ⟨z1, rfl⟩ := Wb.next (x := z) g1
  have O1 := Lib.hid (own_base o1 (KK.out z).size)
  clear g1 o1 r_f r_g
  go_wp2
  go_ret
  exact ⟨_, rfl, O1.out, KK.out z1⟩
end Go.Proofs.Yteiokenijmaloaa
