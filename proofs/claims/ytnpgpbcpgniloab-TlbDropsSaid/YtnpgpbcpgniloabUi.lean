/-
  Layer 9, the walks: the page's Before, With, Same.
-/
import Derived.Test.YtnpgpbcpgniloabUh
set_option linter.unusedSimpArgs false
set_option linter.unusedVariables false
namespace Go.Proofs.Ytnpgpbcpgniloab
open Go.RowKit GrT

theorem SlE.cells {W : World} {a : Addr} {n c : Nat} {L : List E} (h : SlE W (.slice (some a) n c) L) (j : Nat) (u : Value) (hu : (entsC L)[j]? = some u) : W.cell? (a.add j) = some u := by
  obtain ⟨_, ⟨e, _⟩ | ⟨b, cap, e, _, _, hx⟩⟩ := h
  · cases e
  · injection e with e1 e2 e3
    injection e1 with e1
    subst e1
    exact hx j u hu

set_option maxRecDepth 100000 in
set_option maxHeartbeats 4000000 in
theorem before_any (x0 x1 x2 x3 e0 e1 e2 e3 : Int) (w : World) :
    Calls Try.prog 40 #[.agg #[.int .i64 x0, .int .u64 x1, .int .u64 x2, .int .u64 x3], .agg #[.int .i64 e0, .int .u64 e1, .int .u64 e2, .int .u64 e3]] w fun e w' => e = .returned (.bool (ltB ⟨x0, x1, x2, x3⟩ ⟨e0, e1, e2, e3⟩)) ∧ Below w.heap.size w w' := by
  by_cases c0 : x0 = e0
  · subst c0
    by_cases c1 : x1 = e1
    · subst c1
      by_cases c2 : x2 = e2
      · subst c2
        have b : ltB ⟨x0, x1, x2, x3⟩ ⟨x0, x1, x2, e3⟩ = decide (x3 < e3) := by unfold ltB ltP; simp 
        rw [b]
        go_enter Try.func40, Try.ntmps40
        go_wp2
        go_ret
        exact ⟨rfl, KB.alloc (KB.alloc (Below.refl _ _) _) _⟩
      · have b : ltB ⟨x0, x1, x2, x3⟩ ⟨x0, x1, e2, e3⟩ = decide (x2 < e2) := by unfold ltB ltP; simp [c2]
        have d : (x2 != e2) = true := by simpa using c2
        rw [b]
        go_enter Try.func40, Try.ntmps40
        go_wp2
        go_ret
        exact ⟨rfl, KB.alloc (KB.alloc (Below.refl _ _) _) _⟩
    · have b : ltB ⟨x0, x1, x2, x3⟩ ⟨x0, e1, e2, e3⟩ = decide (x1 < e1) := by unfold ltB ltP; simp [c1]
      have d : (x1 != e1) = true := by simpa using c1
      rw [b]
      go_enter Try.func40, Try.ntmps40
      go_wp2
      go_ret
      exact ⟨rfl, KB.alloc (KB.alloc (Below.refl _ _) _) _⟩
  · have b : ltB ⟨x0, x1, x2, x3⟩ ⟨e0, e1, e2, e3⟩ = decide (x0 < e0) := by unfold ltB ltP; simp [c0]
    have d : (x0 != e0) = true := by simpa using c0
    rw [b]
    go_enter Try.func40, Try.ntmps40
    go_wp2
    go_ret
    exact ⟨rfl, KB.alloc (KB.alloc (Below.refl _ _) _) _⟩

set_option maxRecDepth 100000 in
set_option maxHeartbeats 12800000 in
theorem rwith_any (v : Value) (L : List E) (e0 e1 e2 e3 : Int) (w : World) (h : SlE w v L) (hn : L.length ≤ 500) :
    Calls Try.prog 21 #[v, .agg #[.int .i64 e0, .int .u64 e1, .int .u64 e2, .int .u64 e3]] w fun x w' => ∃ v2, x = .returned v2 ∧ SlE w' v2 (insE L ⟨e0, e1, e2, e3⟩) ∧ Below w.heap.size w w' := by
  obtain ⟨i0, hi, hz0, hz1, hz2⟩ := info_parts ebytes
  obtain ⟨p, n, c, rfl⟩ := SlAt.form h
  have HN := Lib.hid h.len
  have HS := Lib.hid (fun (U : World) (k : Below w.heap.size w U) => (h.below k : SlE U (.slice p n c) L))
  have CN := Lib.hid (show n ≤ c from h.cap)
  have q9 : (n : Int) ≤ 500 := by have := h.len; omega
  clear h hn
  go_enter Try.func21, Try.ntmps21
  go_wp2_with fail
  have RE0 := Lib.hid (Row.new w [.int .i64 e0, .int .u64 e1, .int .u64 e2, .int .u64 e3] 25)
  go_loopw [5] (fun i wr => ∃ j : Nat, j ≤ n ∧ i = .int .i64 (j : Int) ∧ (∀ q (hq : q < L.length), q < j → ltP L[q] ⟨e0, e1, e2, e3⟩) ∧ Row wr w.heap.size [.int .i64 e0, .int .u64 e1, .int .u64 e2, .int .u64 e3] 25 ∧ Below w.heap.size w wr) (fun i _ => n - (intOf i).toNat)
  case atStart => exact ⟨0, by omega, rfl, fun q _ h => absurd h (by omega), RE0.out, KB.alloc (Below.refl _ _) _⟩
  case round =>
    obtain ⟨j, hjn, rfl, hlo, hre, hb⟩ := hrel
    have HB := Lib.hid hb
    have RE := Lib.hid hre
    have LO := Lib.hid hlo
    clear hb hre hlo
    have c0 : ∀ y : Wb wr, y.at.cell? ⟨w.heap.size, 0, none⟩ = some (.int .i64 e0) := fun y => (RE.out.below y.bel).cell 0
    have c1 : ∀ y : Wb wr, y.at.cell? ⟨w.heap.size, 1, none⟩ = some (.int .u64 e1) := fun y => (RE.out.below y.bel).cell 1
    have c2 : ∀ y : Wb wr, y.at.cell? ⟨w.heap.size, 2, none⟩ = some (.int .u64 e2) := fun y => (RE.out.below y.bel).cell 2
    have c3 : ∀ y : Wb wr, y.at.cell? ⟨w.heap.size, 3, none⟩ = some (.int .u64 e3) := fun y => (RE.out.below y.bel).cell 3
    have i0' : (0 : Int) ≤ (j : Int) := by omega
    by_cases cj : j < n
    · have lj : j < L.length := by have := HN.out; omega
      obtain ⟨a, rfl⟩ := SlE.addr (HS.out _ (Below.refl _ _)) (by omega)
      have AT := Lib.hid (fun (U : World) (k : Below w.heap.size w U) => (HS.out U k).at j lj)
      have UP := Lib.hid (fun (k : ltB L[j] ⟨e0, e1, e2, e3⟩ = true) => show ∀ q (hq : q < L.length), q < j + 1 → ltP L[q] ⟨e0, e1, e2, e3⟩ from fun q hq h => by
        by_cases d : q = j
        · subst d; exact of_decide_eq_true k
        · exact LO.out q hq (by omega))
      have PJ := Lib.hid (fun (k : ltB L[j] ⟨e0, e1, e2, e3⟩ = false) => show posE L ⟨e0, e1, e2, e3⟩ = j from posE_eq _ L j (by omega) (fun q hq => LO.out q (by omega) hq) (fun _ => of_decide_eq_false k))
      have GJ := Lib.hid (show L[j]? = some L[j] from List.getElem?_eq_getElem lj)
      obtain ⟨⟨x0, x1, x2, x3⟩, hx⟩ : ∃ x, x = L[j] := ⟨_, rfl⟩
      rw [← hx] at AT UP PJ GJ
      simp only at AT
      have BF := Lib.hid (fun w => before_any x0 x1 x2 x3 e0 e1 e2 e3 w)
      obtain ⟨b, hb⟩ : ∃ b, b = ltB ⟨x0, x1, x2, x3⟩ ⟨e0, e1, e2, e3⟩ := ⟨_, rfl⟩
      rw [← hb] at BF UP PJ
      clear hx lj hb
      have i1 : (j : Int) < (n : Int) := by omega
      have d1 : decide ((j : Int) < (n : Int)) = true := by simpa using i1
      have x0' : ∀ y : Wb wr, y.at.cell? (a.add (j * 4)) = some (.int .i64 x0) := fun y => (AT.out _ (KB.at HB.out y)).1
      have x1' : ∀ y : Wb wr, y.at.cell? ⟨(a.add (j * 4)).block, (a.add (j * 4)).off + 1, none⟩ = some (.int .u64 x1) := fun y => (AT.out _ (KB.at HB.out y)).2.1
      have x2' : ∀ y : Wb wr, y.at.cell? ⟨(a.add (j * 4)).block, (a.add (j * 4)).off + 2, none⟩ = some (.int .u64 x2) := fun y => (AT.out _ (KB.at HB.out y)).2.2.1
      have x3' : ∀ y : Wb wr, y.at.cell? ⟨(a.add (j * 4)).block, (a.add (j * 4)).off + 3, none⟩ = some (.int .u64 x3) := fun y => (AT.out _ (KB.at HB.out y)).2.2.2
      go_wp2_with fail
      refine wp_region_wb (by kernel_rfl) (by kernel_rfl) ?_
      repeat (go_big_quiet_step ((go_at_call 40; exact Calls.wb (BF.out _))))
      refine wpQuiet_nil ?_
      rintro _ ⟨z1, rfl⟩
      have B1 := Lib.hid (HB.out.trans (z1.bel.mono HB.out.size))
      cases b with
      | true =>
        go_wp2
        go_roundw
        case rel => exact ⟨j + 1, by omega, by go_num, UP.out (by first | rfl | trivial), RE.out.below z1.bel, B1.out⟩
        case measure => simp [intOf]; omega
      | false =>
        go_upto_region 4 with fail
        have PE := Lib.hid (PJ.out (by first | rfl | trivial))
        obtain ⟨f, hf⟩ : ∃ f, f = decide ((⟨x0, x1, x2, x3⟩ : E) = ⟨e0, e1, e2, e3⟩) := ⟨_, rfl⟩
        have EQ : ∀ w, (binOp .eql 25 (.agg #[.int .i64 x0, .int .u64 x1, .int .u64 x2, .int .u64 x3]) (.agg #[.int .i64 e0, .int .u64 e1, .int .u64 e2, .int .u64 e3])).run Try.prog w = .ok (.bool f) w := fun w => by rw [run_eql_ev, hf]
        have FSu := Lib.hid (fun (k : f = true) => show insE L ⟨e0, e1, e2, e3⟩ = L by rw [hf] at k; exact insE_same L _ (by rw [PE.out, GJ.out, of_decide_eq_true k]))
        have NF0 := Lib.hid (fun (k : f = false) => show insE L ⟨e0, e1, e2, e3⟩ = L.take j ++ [⟨e0, e1, e2, e3⟩] ++ L.drop j by
          rw [hf] at k
          unfold insE
          rw [if_neg (by rw [PE.out, GJ.out]; intro e; injection e with e; exact of_decide_eq_false k e), PE.out])
        clear hf x0' x1' x2' x3' c0 c1 c2 c3
        refine to_pt ?_
        intro U hU
        have BU := Lib.hid (B1.out.trans (hU.mono B1.out.size))
        have RU := Lib.hid ((RE.out.below z1.bel).below hU)
        have c0 : ∀ y : Wb U, y.at.cell? ⟨w.heap.size, 0, none⟩ = some (.int .i64 e0) := fun y => (RU.out.below y.bel).cell 0
        have c1 : ∀ y : Wb U, y.at.cell? ⟨w.heap.size, 1, none⟩ = some (.int .u64 e1) := fun y => (RU.out.below y.bel).cell 1
        have c2 : ∀ y : Wb U, y.at.cell? ⟨w.heap.size, 2, none⟩ = some (.int .u64 e2) := fun y => (RU.out.below y.bel).cell 2
        have c3 : ∀ y : Wb U, y.at.cell? ⟨w.heap.size, 3, none⟩ = some (.int .u64 e3) := fun y => (RU.out.below y.bel).cell 3
        have x0' : ∀ y : Wb U, y.at.cell? (a.add (j * 4)) = some (.int .i64 x0) := fun y => (AT.out _ (KB.at BU.out y)).1
        have x1' : ∀ y : Wb U, y.at.cell? ⟨(a.add (j * 4)).block, (a.add (j * 4)).off + 1, none⟩ = some (.int .u64 x1) := fun y => (AT.out _ (KB.at BU.out y)).2.1
        have x2' : ∀ y : Wb U, y.at.cell? ⟨(a.add (j * 4)).block, (a.add (j * 4)).off + 2, none⟩ = some (.int .u64 x2) := fun y => (AT.out _ (KB.at BU.out y)).2.2.1
        have x3' : ∀ y : Wb U, y.at.cell? ⟨(a.add (j * 4)).block, (a.add (j * 4)).off + 3, none⟩ = some (.int .u64 x3) := fun y => (AT.out _ (KB.at BU.out y)).2.2.2
        clear hU
        refine wp_region_wb (by kernel_rfl) (by kernel_rfl) ?_
        repeat (go_big_quiet_step (fail))
        refine wpQuiet_nil ?_
        rintro _ ⟨z2, rfl⟩
        have B2' := Lib.hid (KB.at BU.out z2)
        have R2' := Lib.hid (RU.out.below z2.bel)
        clear x0' x1' x2' x3' c0 c1 c2 c3 EQ
        cases f with
        | true =>
          go_wp2
          go_ret
          exact ⟨_, rfl, by rw [FSu.out (by first | rfl | trivial)]; exact HS.out _ B2'.out, B2'.out⟩
        | false =>
          go_upto_region 6 with fail
          have NF := Lib.hid (NF0.out (by first | rfl | trivial))
          obtain ⟨V, hV⟩ : ∃ V, V = z2.at := ⟨_, rfl⟩
          rw [← hV] at B2' R2' ⊢
          have BV := Lib.hid B2'.out
          have RV := Lib.hid R2'.out
          clear hV B2' R2' FSu NF0
          by_cases hcp : c = j
          · exfalso
            have := CN.out
            omega
          · skip
            have T1 := Lib.hid (HS.out V BV.out |>.take j hjn)
            have T3 := Lib.hid (fun (U : World) (k : Below w.heap.size w U) => show SlE U (.slice (some (a.add (j * 4))) (n - j) (c - j)) (L.drop j) by have := (HS.out U k).drop' j hjn; rw [if_neg hcp] at this; exact this)
            have sV := Lib.hid (show w.heap.size + 1 ≤ V.heap.size from RV.out.lt)
            have j0 : (0 : Int) ≤ (j : Int) := by omega
            have jc : (j : Int) ≤ (c : Int) := by have := CN.out; omega
            have jn : (j : Int) ≤ (n : Int) := by omega
            have HO := Lib.hid (show (V.alloc (.cells #[] 25)).ownsRow (w.heap.size + 1) 25 4 (.slice (some ⟨V.heap.size, 0, none⟩) 0 0) 0 [] from ⟨rfl, .inr ⟨V.heap.size, 0, #[], rfl, sV.out, heap_alloc_new V _, Nat.le_refl _, Nat.zero_le _, rfl, rfl⟩⟩)
            have KV := Lib.hid (show Below w.heap.size w (V.alloc (.cells #[] 25)) from KB.alloc BV.out _)
            have RV1 := Lib.hid (show Row (V.alloc (.cells #[] 25)) w.heap.size [.int .i64 e0, .int .u64 e1, .int .u64 e2, .int .u64 e3] 25 from RV.out.old _)
            have TX := Lib.hid (fun i u (hu : (entsC (L.take j))[i]? = some u) => (T1.out.below (KB.alloc (Below.refl V.heap.size V) (.cells #[] 25))).cells i u hu)
            have TL := Lib.hid (show (entsC (L.take j)).length = j * 4 by rw [entsC_len, List.length_take]; have := HN.out; omega)
            have N1 := Lib.hid (entsC_one (L.take j))
            go_wp2_with (at_builtin; refine wpList_append_own _ rfl _ _ 27 rfl (w.heap.size + 1) 25 i0 (.agg #[.int .i64 0, .int .u64 0, .int .u64 0, .int .u64 0]) 4 32 Try.underlying27 hi hz0 hz1 hz2 rfl (by decide) _ 0 [] rfl HO.out a j c (entsC (L.take j)) rfl TL.out TX.out N1.out (by unfold maxLen; omega) (by omega) (by have := sV.out; simp only [World.size_alloc]; omega) ?_)
            intro ov V2 h2 hg2 _
            have O2 := Lib.hid (show V2.ownsRow (w.heap.size + 1) 25 4 ov (L.take j).length (entsC (L.take j)) by rw [List.length_take, show min j L.length = j by have := HN.out; omega]; exact h2)
            have B2 := Lib.hid (show Below w.heap.size w V2 from KV.out.grown hg2 KV.out.size (fun k hk => by have := (HO.out.lt k hk).1; omega))
            have R2 := Lib.hid (show Row V2 w.heap.size [.int .i64 e0, .int .u64 e1, .int .u64 e2, .int .u64 e3] 25 from RV1.out.grownR hg2 (fun e => by have := HO.out.lt _ e.symm; omega))
            clear h2 hg2 TX TL N1 HO
            obtain ⟨q, hq⟩ : ∃ q, q = (L.take j).length := ⟨_, rfl⟩
            have QL := Lib.hid hq
            rw [← hq] at O2
            have q9 : q ≤ 500 := by have := List.length_take_le j L; have := HN.out; omega
            clear hq
            have c0 := R2.out.cell 0
            have c1 := R2.out.cell 1
            have c2 := R2.out.cell 2
            have c3 := R2.out.cell 3
            simp only [List.getElem?_cons_zero, List.getElem?_cons_succ] at c0 c1 c2 c3
            have NW := Lib.hid (fun T => app_four V2 (.int .i64 e0) (.int .u64 e1) (.int .u64 e2) (.int .u64 e3) T)
            have N1 := Lib.hid (show ∀ u ∈ [Value.int .i64 e0, .int .u64 e1, .int .u64 e2, .int .u64 e3], u.oneCell' = true by simp [Value.oneCell'])
            have S5 := Lib.hid (show ∀ o : Obj, w.heap.size + 1 ≤ (V2.alloc o).heap.size from fun o => by have := R2.out.lt; simp only [World.size_alloc]; omega)
            go_wp2_with (at_builtin; refine wpList_append_own _ rfl _ _ 27 rfl (w.heap.size + 1) 25 i0 (.agg #[.int .i64 0, .int .u64 0, .int .u64 0, .int .u64 0]) 4 32 Try.underlying27 hi hz0 hz1 hz2 rfl (by decide) _ _ _ rfl (O2.out.alloc _) ⟨V2.heap.size, 0, none⟩ 1 1 [.int .i64 e0, .int .u64 e1, .int .u64 e2, .int .u64 e3] rfl rfl (NW.out _) N1.out (by unfold maxLen; omega) (by omega) (S5.out _) ?_)
            intro ov3 V3 h3 hg3 _
            have O3 := Lib.hid (show V3.ownsRow (w.heap.size + 1) 25 4 ov3 (q + 1) (entsC (L.take j ++ [⟨e0, e1, e2, e3⟩])) by rw [entsC_app]; exact h3)
            have B3 := Lib.hid (show Below w.heap.size w V3 from (KB.alloc B2.out _).grown hg3 (Nat.le_trans (show w.heap.size ≤ w.heap.size + 1 by omega) (S5.out _)) (fun k hk => by have := (O2.out.lt k hk).1; omega))
            have gz := Lib.hid (show (V2.alloc (.cells #[.int .i64 e0, .int .u64 e1, .int .u64 e2, .int .u64 e3] 25)).heap.size ≤ V3.heap.size from hg3.size)
            clear h3 hg3 NW N1 S5 c0 c1 c2 c3
            have SB3 := Lib.hid (show w.heap.size + 1 ≤ V3.heap.size from Nat.le_trans R2.out.lt (Nat.le_trans (by simp) gz.out))
            have TX := Lib.hid (fun (i : Nat) (u : Value) (hu : (entsC (L.drop j))[i]? = some u) => (T3.out V3 B3.out).cells i u hu)
            have TL := Lib.hid (show (entsC (L.drop j)).length = (n - j) * 4 by rw [entsC_len, List.length_drop]; have := HN.out; omega)
            have N1 := Lib.hid (entsC_one (L.drop j))
            have nj := Lib.hid (show n - j ≤ 500 by omega)
            go_wp2_with (at_builtin; refine wpList_append_own _ rfl _ _ 27 rfl (w.heap.size + 1) 25 i0 (.agg #[.int .i64 0, .int .u64 0, .int .u64 0, .int .u64 0]) 4 32 Try.underlying27 hi hz0 hz1 hz2 rfl (by decide) _ _ _ rfl O3.out (a.add (j * 4)) (n - j) (c - j) (entsC (L.drop j)) rfl TL.out TX.out N1.out (by unfold maxLen; omega) (by omega) SB3.out ?_)
            intro ov4 V4 h4 hg4 _
            have B4 := Lib.hid (show Below w.heap.size w V4 from B3.out.grown hg4 B3.out.size (fun k hk => by have := (O3.out.lt k hk).1; omega))
            have O4 := Lib.hid (show SlE V4 ov4 (insE L ⟨e0, e1, e2, e3⟩) by
              have e5 : insE L ⟨e0, e1, e2, e3⟩ = L.take j ++ [⟨e0, e1, e2, e3⟩] ++ (L.drop j) := by rw [NF.out]
              have := SlAt.own h4
              rw [← entsC_app, ← e5] at this
              have e6 : (insE L ⟨e0, e1, e2, e3⟩).length = q + 1 + (n - j) := by rw [e5, List.length_append, List.length_append, ← QL.out]; rw [List.length_drop]; have := HN.out; simp; omega
              unfold SlE
              rw [e6]
              exact this)
            clear h4 hg4 TX TL N1
            go_wp2
            go_ret
            exact ⟨_, rfl, O4.out, B4.out⟩
    · have PE := Lib.hid (show posE L ⟨e0, e1, e2, e3⟩ = j from posE_eq _ L j (by have := HN.out; omega) (fun q hq => LO.out q (by have := HN.out; omega) hq) (fun hl => absurd hl (by have := HN.out; omega)))
      have NF := Lib.hid (show insE L ⟨e0, e1, e2, e3⟩ = L.take j ++ [⟨e0, e1, e2, e3⟩] ++ L.drop j by
        unfold insE
        rw [if_neg (by rw [PE.out, List.getElem?_eq_none (by have := HN.out; omega)]; simp), PE.out])
      have d1 : decide ((j : Int) < (n : Int)) = false := by simp; omega
      go_wp2_with fail
      refine wp_region_wb (by kernel_rfl) (by kernel_rfl) ?_
      repeat (go_big_quiet_step (fail))
      refine wpQuiet_nil ?_
      rintro _ ⟨z1, rfl⟩
      go_upto_region 4 with fail
      refine to_pt ?_
      intro U hU
      have BU := Lib.hid ((KB.at HB.out z1).trans (hU.mono (KB.at HB.out z1).size))
      have RU := Lib.hid ((RE.out.below z1.bel).below hU)
      have c0 : ∀ y : Wb U, y.at.cell? ⟨w.heap.size, 0, none⟩ = some (.int .i64 e0) := fun y => (RU.out.below y.bel).cell 0
      clear hU
      refine wp_region_wb (by kernel_rfl) (by kernel_rfl) ?_
      repeat (go_big_quiet_step (fail))
      refine wpQuiet_nil ?_
      rintro _ ⟨z2, rfl⟩
      have B2' := Lib.hid (KB.at BU.out z2)
      have R2' := Lib.hid (RU.out.below z2.bel)
      clear c0 c1 c2 c3
      go_upto_region 6 with fail
      obtain ⟨V, hV⟩ : ∃ V, V = z2.at := ⟨_, rfl⟩
      rw [← hV] at B2' R2' ⊢
      have BV := Lib.hid B2'.out
      have RV := Lib.hid R2'.out
      clear hV B2' R2'
      cases p with
      | none =>
        obtain ⟨rfl, rfl, hL0⟩ := (HS.out _ (Below.refl _ _)).nil
        have T1 := Lib.hid (show L.take j = [] by rw [hL0]; simp)
        have T3 := Lib.hid (show L.drop j = [] by rw [hL0]; simp)
        obtain rfl : j = 0 := by omega
        have sV := Lib.hid (show w.heap.size + 1 ≤ V.heap.size from RV.out.lt)
        have HO := Lib.hid (show (V.alloc (.cells #[] 25)).ownsRow (w.heap.size + 1) 25 4 (.slice (some ⟨V.heap.size, 0, none⟩) 0 0) 0 [] from ⟨rfl, .inr ⟨V.heap.size, 0, #[], rfl, sV.out, heap_alloc_new V _, Nat.le_refl _, Nat.zero_le _, rfl, rfl⟩⟩)
        have KV := Lib.hid (show Below w.heap.size w (V.alloc (.cells #[] 25)) from KB.alloc BV.out _)
        have RV1 := Lib.hid (show Row (V.alloc (.cells #[] 25)) w.heap.size [.int .i64 e0, .int .u64 e1, .int .u64 e2, .int .u64 e3] 25 from RV.out.old _)
        go_upto_region 7 with (at_builtin; refine wpList_append_own_none rfl _ _ 27 rfl (w.heap.size + 1) 25 i0 4 Try.underlying27 hi _ _ _ rfl HO.out rfl ?_)
        obtain ⟨V2, hV2⟩ : ∃ V2, V2 = V.alloc (.cells #[] 25) := ⟨_, rfl⟩
        rw [← hV2] at HO KV RV1 ⊢
        have O2 := Lib.hid (show V2.ownsRow (w.heap.size + 1) 25 4 (.slice (some ⟨V.heap.size, 0, none⟩) 0 0) (L.take 0).length (entsC (L.take 0)) by rw [T1.out]; exact HO.out)
        obtain ⟨ov, hov⟩ : ∃ ov, ov = (.slice (some ⟨V.heap.size, 0, none⟩) 0 0 : Value) := ⟨_, rfl⟩
        rw [← hov] at O2 ⊢
        have B2 := Lib.hid KV.out
        have R2 := Lib.hid RV1.out
        clear hov hV2 HO
        obtain ⟨q, hq⟩ : ∃ q, q = (L.take 0).length := ⟨_, rfl⟩
        have QL := Lib.hid hq
        rw [← hq] at O2
        have q9 : q ≤ 500 := by have := List.length_take_le 0 L; have := HN.out; omega
        clear hq
        have c0 := R2.out.cell 0
        have c1 := R2.out.cell 1
        have c2 := R2.out.cell 2
        have c3 := R2.out.cell 3
        simp only [List.getElem?_cons_zero, List.getElem?_cons_succ] at c0 c1 c2 c3
        have NW := Lib.hid (fun T => app_four V2 (.int .i64 e0) (.int .u64 e1) (.int .u64 e2) (.int .u64 e3) T)
        have N1 := Lib.hid (show ∀ u ∈ [Value.int .i64 e0, .int .u64 e1, .int .u64 e2, .int .u64 e3], u.oneCell' = true by simp [Value.oneCell'])
        have S5 := Lib.hid (show ∀ o : Obj, w.heap.size + 1 ≤ (V2.alloc o).heap.size from fun o => by have := R2.out.lt; simp only [World.size_alloc]; omega)
        go_wp2_with (at_builtin; refine wpList_append_own _ rfl _ _ 27 rfl (w.heap.size + 1) 25 i0 (.agg #[.int .i64 0, .int .u64 0, .int .u64 0, .int .u64 0]) 4 32 Try.underlying27 hi hz0 hz1 hz2 rfl (by decide) _ _ _ rfl (O2.out.alloc _) ⟨V2.heap.size, 0, none⟩ 1 1 [.int .i64 e0, .int .u64 e1, .int .u64 e2, .int .u64 e3] rfl rfl (NW.out _) N1.out (by unfold maxLen; omega) (by omega) (S5.out _) ?_)
        intro ov3 V3 h3 hg3 _
        have O3 := Lib.hid (show V3.ownsRow (w.heap.size + 1) 25 4 ov3 (q + 1) (entsC (L.take 0 ++ [⟨e0, e1, e2, e3⟩])) by rw [entsC_app]; exact h3)
        have B3 := Lib.hid (show Below w.heap.size w V3 from (KB.alloc B2.out _).grown hg3 (Nat.le_trans (show w.heap.size ≤ w.heap.size + 1 by omega) (S5.out _)) (fun k hk => by have := (O2.out.lt k hk).1; omega))
        have gz := Lib.hid (show (V2.alloc (.cells #[.int .i64 e0, .int .u64 e1, .int .u64 e2, .int .u64 e3] 25)).heap.size ≤ V3.heap.size from hg3.size)
        clear h3 hg3 NW N1 S5 c0 c1 c2 c3
        go_wp2_with (at_builtin; refine wpList_append_own_none rfl _ _ 27 rfl (w.heap.size + 1) 25 i0 4 Try.underlying27 hi _ _ _ rfl O3.out rfl ?_)
        go_wp2
        go_ret
        refine ⟨_, rfl, ?_, B3.out⟩
        rw [NF.out, T3.out, List.append_nil]
        have := SlAt.own O3.out
        rw [QL.out] at this
        exact (by rw [List.length_append]; exact this : SlAt V3 ov3 4 (L.take 0 ++ [(⟨e0, e1, e2, e3⟩ : E)]).length _)
      | some a =>
        by_cases hcp : c = j
        · by_cases hc0 : c = 0
          · skip
            obtain rfl : j = 0 := by omega
            obtain rfl : c = 0 := by omega
            obtain rfl : n = 0 := by have := CN.out; omega
            have hL0 : L = [] := List.eq_nil_of_length_eq_zero HN.out.symm
            have T1 := Lib.hid (show L.take 0 = [] by rw [hL0]; simp)
            have T3 := Lib.hid (show L.drop 0 = [] by rw [hL0]; simp)
            have NX := Lib.hid (fun (W : World) (j : Nat) (u : Value) (h : ([] : List Value)[j]? = some u) => show W.cell? (a.add j) = some u by simp at h)
            have N0 := Lib.hid (show ∀ u ∈ ([] : List Value), u.oneCell' = true by simp)
            have sV := Lib.hid (show w.heap.size + 1 ≤ V.heap.size from RV.out.lt)
            have HO := Lib.hid (show (V.alloc (.cells #[] 25)).ownsRow (w.heap.size + 1) 25 4 (.slice (some ⟨V.heap.size, 0, none⟩) 0 0) 0 [] from ⟨rfl, .inr ⟨V.heap.size, 0, #[], rfl, sV.out, heap_alloc_new V _, Nat.le_refl _, Nat.zero_le _, rfl, rfl⟩⟩)
            have KV := Lib.hid (show Below w.heap.size w (V.alloc (.cells #[] 25)) from KB.alloc BV.out _)
            have RV1 := Lib.hid (show Row (V.alloc (.cells #[] 25)) w.heap.size [.int .i64 e0, .int .u64 e1, .int .u64 e2, .int .u64 e3] 25 from RV.out.old _)
            go_wp2_with (at_builtin; refine wpList_append_own _ rfl _ _ 27 rfl (w.heap.size + 1) 25 i0 (.agg #[.int .i64 0, .int .u64 0, .int .u64 0, .int .u64 0]) 4 32 Try.underlying27 hi hz0 hz1 hz2 rfl (by decide) _ 0 [] rfl HO.out a 0 0 [] rfl rfl (NX.out _) N0.out (by unfold maxLen; omega) (by omega) (by have := sV.out; simp only [World.size_alloc]; omega) ?_)
            intro ov V2 h2 hg2 _
            have O2 := Lib.hid (show V2.ownsRow (w.heap.size + 1) 25 4 ov (L.take 0).length (entsC (L.take 0)) by rw [T1.out]; exact h2)
            have B2 := Lib.hid (show Below w.heap.size w V2 from KV.out.grown hg2 KV.out.size (fun k hk => by have := (HO.out.lt k hk).1; omega))
            have R2 := Lib.hid (show Row V2 w.heap.size [.int .i64 e0, .int .u64 e1, .int .u64 e2, .int .u64 e3] 25 from RV1.out.grownR hg2 (fun e => by have := HO.out.lt _ e.symm; omega))
            clear h2 hg2 HO
            obtain ⟨q, hq⟩ : ∃ q, q = (L.take 0).length := ⟨_, rfl⟩
            have QL := Lib.hid hq
            rw [← hq] at O2
            have q9 : q ≤ 500 := by have := List.length_take_le 0 L; have := HN.out; omega
            clear hq
            have c0 := R2.out.cell 0
            have c1 := R2.out.cell 1
            have c2 := R2.out.cell 2
            have c3 := R2.out.cell 3
            simp only [List.getElem?_cons_zero, List.getElem?_cons_succ] at c0 c1 c2 c3
            have NW := Lib.hid (fun T => app_four V2 (.int .i64 e0) (.int .u64 e1) (.int .u64 e2) (.int .u64 e3) T)
            have N1 := Lib.hid (show ∀ u ∈ [Value.int .i64 e0, .int .u64 e1, .int .u64 e2, .int .u64 e3], u.oneCell' = true by simp [Value.oneCell'])
            have S5 := Lib.hid (show ∀ o : Obj, w.heap.size + 1 ≤ (V2.alloc o).heap.size from fun o => by have := R2.out.lt; simp only [World.size_alloc]; omega)
            go_wp2_with (at_builtin; refine wpList_append_own _ rfl _ _ 27 rfl (w.heap.size + 1) 25 i0 (.agg #[.int .i64 0, .int .u64 0, .int .u64 0, .int .u64 0]) 4 32 Try.underlying27 hi hz0 hz1 hz2 rfl (by decide) _ _ _ rfl (O2.out.alloc _) ⟨V2.heap.size, 0, none⟩ 1 1 [.int .i64 e0, .int .u64 e1, .int .u64 e2, .int .u64 e3] rfl rfl (NW.out _) N1.out (by unfold maxLen; omega) (by omega) (S5.out _) ?_)
            intro ov3 V3 h3 hg3 _
            have O3 := Lib.hid (show V3.ownsRow (w.heap.size + 1) 25 4 ov3 (q + 1) (entsC (L.take 0 ++ [⟨e0, e1, e2, e3⟩])) by rw [entsC_app]; exact h3)
            have B3 := Lib.hid (show Below w.heap.size w V3 from (KB.alloc B2.out _).grown hg3 (Nat.le_trans (show w.heap.size ≤ w.heap.size + 1 by omega) (S5.out _)) (fun k hk => by have := (O2.out.lt k hk).1; omega))
            have gz := Lib.hid (show (V2.alloc (.cells #[.int .i64 e0, .int .u64 e1, .int .u64 e2, .int .u64 e3] 25)).heap.size ≤ V3.heap.size from hg3.size)
            clear h3 hg3 NW N1 S5 c0 c1 c2 c3
            have SB3 := Lib.hid (show w.heap.size + 1 ≤ V3.heap.size from Nat.le_trans R2.out.lt (Nat.le_trans (by simp) gz.out))
            go_wp2_with (at_builtin; refine wpList_append_own _ rfl _ _ 27 rfl (w.heap.size + 1) 25 i0 (.agg #[.int .i64 0, .int .u64 0, .int .u64 0, .int .u64 0]) 4 32 Try.underlying27 hi hz0 hz1 hz2 rfl (by decide) _ _ _ rfl O3.out a 0 0 [] rfl rfl (NX.out _) N0.out (by unfold maxLen; omega) (by omega) SB3.out ?_)
            intro ov4 V4 h4 hg4 _
            have B4 := Lib.hid (show Below w.heap.size w V4 from B3.out.grown hg4 B3.out.size (fun k hk => by have := (O3.out.lt k hk).1; omega))
            have O4 := Lib.hid (show SlE V4 ov4 (insE L ⟨e0, e1, e2, e3⟩) by
              have e5 : insE L ⟨e0, e1, e2, e3⟩ = L.take 0 ++ [⟨e0, e1, e2, e3⟩] := by rw [NF.out, T3.out, List.append_nil]
              have := SlAt.own h4
              first | rw [List.append_nil, ← e5] at this | rw [show ([(⟨e0, e1, e2, e3⟩ : E)]) = insE L ⟨e0, e1, e2, e3⟩ by rw [e5, T1.out]; rfl] at this
              have e6 : (insE L ⟨e0, e1, e2, e3⟩).length = q + 1 := by rw [e5, List.length_append, ← QL.out]; rfl
              unfold SlE
              rw [e6]
              exact this)
            clear h4 hg4
            go_wp2
            go_ret
            exact ⟨_, rfl, O4.out, B4.out⟩
          · skip
            obtain rfl : j = c := hcp.symm
            obtain rfl : j = n := by have := CN.out; omega
            have T1 := Lib.hid (HS.out V BV.out |>.take j hjn)
            have T3 := Lib.hid (show L.drop j = [] by rw [List.drop_eq_nil_iff]; have := HN.out; have := CN.out; omega)
            have sV := Lib.hid (show w.heap.size + 1 ≤ V.heap.size from RV.out.lt)
            have j0 : (0 : Int) ≤ (j : Int) := by omega
            have jc : (j : Int) ≤ (j : Int) := by have := CN.out; omega
            have jn : (j : Int) ≤ (j : Int) := by omega
            have HO := Lib.hid (show (V.alloc (.cells #[] 25)).ownsRow (w.heap.size + 1) 25 4 (.slice (some ⟨V.heap.size, 0, none⟩) 0 0) 0 [] from ⟨rfl, .inr ⟨V.heap.size, 0, #[], rfl, sV.out, heap_alloc_new V _, Nat.le_refl _, Nat.zero_le _, rfl, rfl⟩⟩)
            have KV := Lib.hid (show Below w.heap.size w (V.alloc (.cells #[] 25)) from KB.alloc BV.out _)
            have RV1 := Lib.hid (show Row (V.alloc (.cells #[] 25)) w.heap.size [.int .i64 e0, .int .u64 e1, .int .u64 e2, .int .u64 e3] 25 from RV.out.old _)
            have TX := Lib.hid (fun i u (hu : (entsC (L.take j))[i]? = some u) => (T1.out.below (KB.alloc (Below.refl V.heap.size V) (.cells #[] 25))).cells i u hu)
            have TL := Lib.hid (show (entsC (L.take j)).length = j * 4 by rw [entsC_len, List.length_take]; have := HN.out; omega)
            have N1 := Lib.hid (entsC_one (L.take j))
            go_wp2_with (at_builtin; refine wpList_append_own _ rfl _ _ 27 rfl (w.heap.size + 1) 25 i0 (.agg #[.int .i64 0, .int .u64 0, .int .u64 0, .int .u64 0]) 4 32 Try.underlying27 hi hz0 hz1 hz2 rfl (by decide) _ 0 [] rfl HO.out a j j (entsC (L.take j)) rfl TL.out TX.out N1.out (by unfold maxLen; omega) (by omega) (by have := sV.out; simp only [World.size_alloc]; omega) ?_)
            intro ov V2 h2 hg2 _
            have O2 := Lib.hid (show V2.ownsRow (w.heap.size + 1) 25 4 ov (L.take j).length (entsC (L.take j)) by rw [List.length_take, show min j L.length = j by have := HN.out; omega]; exact h2)
            have B2 := Lib.hid (show Below w.heap.size w V2 from KV.out.grown hg2 KV.out.size (fun k hk => by have := (HO.out.lt k hk).1; omega))
            have R2 := Lib.hid (show Row V2 w.heap.size [.int .i64 e0, .int .u64 e1, .int .u64 e2, .int .u64 e3] 25 from RV1.out.grownR hg2 (fun e => by have := HO.out.lt _ e.symm; omega))
            clear h2 hg2 TX TL N1 HO
            obtain ⟨q, hq⟩ : ∃ q, q = (L.take j).length := ⟨_, rfl⟩
            have QL := Lib.hid hq
            rw [← hq] at O2
            have q9 : q ≤ 500 := by have := List.length_take_le j L; have := HN.out; omega
            clear hq
            have c0 := R2.out.cell 0
            have c1 := R2.out.cell 1
            have c2 := R2.out.cell 2
            have c3 := R2.out.cell 3
            simp only [List.getElem?_cons_zero, List.getElem?_cons_succ] at c0 c1 c2 c3
            have NW := Lib.hid (fun T => app_four V2 (.int .i64 e0) (.int .u64 e1) (.int .u64 e2) (.int .u64 e3) T)
            have N1 := Lib.hid (show ∀ u ∈ [Value.int .i64 e0, .int .u64 e1, .int .u64 e2, .int .u64 e3], u.oneCell' = true by simp [Value.oneCell'])
            have S5 := Lib.hid (show ∀ o : Obj, w.heap.size + 1 ≤ (V2.alloc o).heap.size from fun o => by have := R2.out.lt; simp only [World.size_alloc]; omega)
            go_wp2_with (at_builtin; refine wpList_append_own _ rfl _ _ 27 rfl (w.heap.size + 1) 25 i0 (.agg #[.int .i64 0, .int .u64 0, .int .u64 0, .int .u64 0]) 4 32 Try.underlying27 hi hz0 hz1 hz2 rfl (by decide) _ _ _ rfl (O2.out.alloc _) ⟨V2.heap.size, 0, none⟩ 1 1 [.int .i64 e0, .int .u64 e1, .int .u64 e2, .int .u64 e3] rfl rfl (NW.out _) N1.out (by unfold maxLen; omega) (by omega) (S5.out _) ?_)
            intro ov3 V3 h3 hg3 _
            have O3 := Lib.hid (show V3.ownsRow (w.heap.size + 1) 25 4 ov3 (q + 1) (entsC (L.take j ++ [⟨e0, e1, e2, e3⟩])) by rw [entsC_app]; exact h3)
            have B3 := Lib.hid (show Below w.heap.size w V3 from (KB.alloc B2.out _).grown hg3 (Nat.le_trans (show w.heap.size ≤ w.heap.size + 1 by omega) (S5.out _)) (fun k hk => by have := (O2.out.lt k hk).1; omega))
            have gz := Lib.hid (show (V2.alloc (.cells #[.int .i64 e0, .int .u64 e1, .int .u64 e2, .int .u64 e3] 25)).heap.size ≤ V3.heap.size from hg3.size)
            clear h3 hg3 NW N1 S5 c0 c1 c2 c3
            have SB3 := Lib.hid (show w.heap.size + 1 ≤ V3.heap.size from Nat.le_trans R2.out.lt (Nat.le_trans (by simp) gz.out))
            have TX := Lib.hid (fun (i : Nat) (u : Value) (hu : (entsC ([] : List E))[i]? = some u) => show V3.cell? (a.add i) = some u by simp [entsC] at hu)
            have TL := Lib.hid (show (entsC ([] : List E)).length = 0 * 4 by rfl)
            have N1 := Lib.hid (entsC_one ([] : List E))
            have nj := Lib.hid (show j - j ≤ 500 by omega)
            go_wp2_with (at_builtin; refine wpList_append_own _ rfl _ _ 27 rfl (w.heap.size + 1) 25 i0 (.agg #[.int .i64 0, .int .u64 0, .int .u64 0, .int .u64 0]) 4 32 Try.underlying27 hi hz0 hz1 hz2 rfl (by decide) _ _ _ rfl O3.out a 0 0 (entsC ([] : List E)) rfl TL.out TX.out N1.out (by unfold maxLen; omega) (by omega) SB3.out ?_)
            intro ov4 V4 h4 hg4 _
            have B4 := Lib.hid (show Below w.heap.size w V4 from B3.out.grown hg4 B3.out.size (fun k hk => by have := (O3.out.lt k hk).1; omega))
            have O4 := Lib.hid (show SlE V4 ov4 (insE L ⟨e0, e1, e2, e3⟩) by
              have e5 : insE L ⟨e0, e1, e2, e3⟩ = L.take j ++ [⟨e0, e1, e2, e3⟩] ++ ([] : List E) := by rw [NF.out, T3.out]
              have := SlAt.own h4
              rw [← entsC_app, ← e5] at this
              have e6 : (insE L ⟨e0, e1, e2, e3⟩).length = q + 1 + 0 := by rw [e5, List.length_append, List.length_append, ← QL.out]; rfl
              unfold SlE
              rw [e6]
              exact this)
            clear h4 hg4 TX TL N1
            go_wp2
            go_ret
            exact ⟨_, rfl, O4.out, B4.out⟩
        · skip
          have T1 := Lib.hid (HS.out V BV.out |>.take j hjn)
          have T3 := Lib.hid (fun (U : World) (k : Below w.heap.size w U) => show SlE U (.slice (some (a.add (j * 4))) (n - j) (c - j)) (L.drop j) by have := (HS.out U k).drop' j hjn; rw [if_neg hcp] at this; exact this)
          have sV := Lib.hid (show w.heap.size + 1 ≤ V.heap.size from RV.out.lt)
          have j0 : (0 : Int) ≤ (j : Int) := by omega
          have jc : (j : Int) ≤ (c : Int) := by have := CN.out; omega
          have jn : (j : Int) ≤ (n : Int) := by omega
          have HO := Lib.hid (show (V.alloc (.cells #[] 25)).ownsRow (w.heap.size + 1) 25 4 (.slice (some ⟨V.heap.size, 0, none⟩) 0 0) 0 [] from ⟨rfl, .inr ⟨V.heap.size, 0, #[], rfl, sV.out, heap_alloc_new V _, Nat.le_refl _, Nat.zero_le _, rfl, rfl⟩⟩)
          have KV := Lib.hid (show Below w.heap.size w (V.alloc (.cells #[] 25)) from KB.alloc BV.out _)
          have RV1 := Lib.hid (show Row (V.alloc (.cells #[] 25)) w.heap.size [.int .i64 e0, .int .u64 e1, .int .u64 e2, .int .u64 e3] 25 from RV.out.old _)
          have TX := Lib.hid (fun i u (hu : (entsC (L.take j))[i]? = some u) => (T1.out.below (KB.alloc (Below.refl V.heap.size V) (.cells #[] 25))).cells i u hu)
          have TL := Lib.hid (show (entsC (L.take j)).length = j * 4 by rw [entsC_len, List.length_take]; have := HN.out; omega)
          have N1 := Lib.hid (entsC_one (L.take j))
          go_wp2_with (at_builtin; refine wpList_append_own _ rfl _ _ 27 rfl (w.heap.size + 1) 25 i0 (.agg #[.int .i64 0, .int .u64 0, .int .u64 0, .int .u64 0]) 4 32 Try.underlying27 hi hz0 hz1 hz2 rfl (by decide) _ 0 [] rfl HO.out a j c (entsC (L.take j)) rfl TL.out TX.out N1.out (by unfold maxLen; omega) (by omega) (by have := sV.out; simp only [World.size_alloc]; omega) ?_)
          intro ov V2 h2 hg2 _
          have O2 := Lib.hid (show V2.ownsRow (w.heap.size + 1) 25 4 ov (L.take j).length (entsC (L.take j)) by rw [List.length_take, show min j L.length = j by have := HN.out; omega]; exact h2)
          have B2 := Lib.hid (show Below w.heap.size w V2 from KV.out.grown hg2 KV.out.size (fun k hk => by have := (HO.out.lt k hk).1; omega))
          have R2 := Lib.hid (show Row V2 w.heap.size [.int .i64 e0, .int .u64 e1, .int .u64 e2, .int .u64 e3] 25 from RV1.out.grownR hg2 (fun e => by have := HO.out.lt _ e.symm; omega))
          clear h2 hg2 TX TL N1 HO
          obtain ⟨q, hq⟩ : ∃ q, q = (L.take j).length := ⟨_, rfl⟩
          have QL := Lib.hid hq
          rw [← hq] at O2
          have q9 : q ≤ 500 := by have := List.length_take_le j L; have := HN.out; omega
          clear hq
          have c0 := R2.out.cell 0
          have c1 := R2.out.cell 1
          have c2 := R2.out.cell 2
          have c3 := R2.out.cell 3
          simp only [List.getElem?_cons_zero, List.getElem?_cons_succ] at c0 c1 c2 c3
          have NW := Lib.hid (fun T => app_four V2 (.int .i64 e0) (.int .u64 e1) (.int .u64 e2) (.int .u64 e3) T)
          have N1 := Lib.hid (show ∀ u ∈ [Value.int .i64 e0, .int .u64 e1, .int .u64 e2, .int .u64 e3], u.oneCell' = true by simp [Value.oneCell'])
          have S5 := Lib.hid (show ∀ o : Obj, w.heap.size + 1 ≤ (V2.alloc o).heap.size from fun o => by have := R2.out.lt; simp only [World.size_alloc]; omega)
          go_wp2_with (at_builtin; refine wpList_append_own _ rfl _ _ 27 rfl (w.heap.size + 1) 25 i0 (.agg #[.int .i64 0, .int .u64 0, .int .u64 0, .int .u64 0]) 4 32 Try.underlying27 hi hz0 hz1 hz2 rfl (by decide) _ _ _ rfl (O2.out.alloc _) ⟨V2.heap.size, 0, none⟩ 1 1 [.int .i64 e0, .int .u64 e1, .int .u64 e2, .int .u64 e3] rfl rfl (NW.out _) N1.out (by unfold maxLen; omega) (by omega) (S5.out _) ?_)
          intro ov3 V3 h3 hg3 _
          have O3 := Lib.hid (show V3.ownsRow (w.heap.size + 1) 25 4 ov3 (q + 1) (entsC (L.take j ++ [⟨e0, e1, e2, e3⟩])) by rw [entsC_app]; exact h3)
          have B3 := Lib.hid (show Below w.heap.size w V3 from (KB.alloc B2.out _).grown hg3 (Nat.le_trans (show w.heap.size ≤ w.heap.size + 1 by omega) (S5.out _)) (fun k hk => by have := (O2.out.lt k hk).1; omega))
          have gz := Lib.hid (show (V2.alloc (.cells #[.int .i64 e0, .int .u64 e1, .int .u64 e2, .int .u64 e3] 25)).heap.size ≤ V3.heap.size from hg3.size)
          clear h3 hg3 NW N1 S5 c0 c1 c2 c3
          have SB3 := Lib.hid (show w.heap.size + 1 ≤ V3.heap.size from Nat.le_trans R2.out.lt (Nat.le_trans (by simp) gz.out))
          have TX := Lib.hid (fun (i : Nat) (u : Value) (hu : (entsC (L.drop j))[i]? = some u) => (T3.out V3 B3.out).cells i u hu)
          have TL := Lib.hid (show (entsC (L.drop j)).length = (n - j) * 4 by rw [entsC_len, List.length_drop]; have := HN.out; omega)
          have N1 := Lib.hid (entsC_one (L.drop j))
          have nj := Lib.hid (show n - j ≤ 500 by omega)
          go_wp2_with (at_builtin; refine wpList_append_own _ rfl _ _ 27 rfl (w.heap.size + 1) 25 i0 (.agg #[.int .i64 0, .int .u64 0, .int .u64 0, .int .u64 0]) 4 32 Try.underlying27 hi hz0 hz1 hz2 rfl (by decide) _ _ _ rfl O3.out (a.add (j * 4)) (n - j) (c - j) (entsC (L.drop j)) rfl TL.out TX.out N1.out (by unfold maxLen; omega) (by omega) SB3.out ?_)
          intro ov4 V4 h4 hg4 _
          have B4 := Lib.hid (show Below w.heap.size w V4 from B3.out.grown hg4 B3.out.size (fun k hk => by have := (O3.out.lt k hk).1; omega))
          have O4 := Lib.hid (show SlE V4 ov4 (insE L ⟨e0, e1, e2, e3⟩) by
            have e5 : insE L ⟨e0, e1, e2, e3⟩ = L.take j ++ [⟨e0, e1, e2, e3⟩] ++ (L.drop j) := by rw [NF.out]
            have := SlAt.own h4
            rw [← entsC_app, ← e5] at this
            have e6 : (insE L ⟨e0, e1, e2, e3⟩).length = q + 1 + (n - j) := by rw [e5, List.length_append, List.length_append, ← QL.out]; rw [List.length_drop]; have := HN.out; simp; omega
            unfold SlE
            rw [e6]
            exact this)
          clear h4 hg4 TX TL N1
          go_wp2
          go_ret
          exact ⟨_, rfl, O4.out, B4.out⟩
end Go.Proofs.Ytnpgpbcpgniloab
