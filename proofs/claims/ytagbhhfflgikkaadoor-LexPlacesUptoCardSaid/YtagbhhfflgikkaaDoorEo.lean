/-
  Layer 10, the walks: the code's Rows.
-/
import Derived.Test.YtagbhhfflgikkaaDoorEn
set_option linter.unusedSimpArgs false
set_option linter.unusedVariables false
namespace GrL
open Go GrP
def rowCells (L : List (Tx × Nat)) : List Value := L.flatMap fun r => [.string (strL r.1), .int .i64 (r.2 : Int)]
theorem rowCells_snoc (L : List (Tx × Nat)) (r : Tx × Nat) : rowCells (L ++ [r]) = rowCells L ++ [.string (strL r.1), .int .i64 (r.2 : Int)] := by simp [rowCells]
theorem rows_short {s : Tx} {L : List (Tx × Nat)} {f : Nat} (h : Rws s L f) : L.length ≤ s.length + 1 := by have := h.1; have := h.2.1; omega
end GrL
namespace Go.Proofs.YtagbhhfflgikkaaDoor
open Go.RowKit GrP GrL Go.Shelf
attribute [local go_sem] Oper.semAt_some

theorem Tryd.infoRow : (Tryd.prog.info? 35).map (fun i => (i.zero, i.size, i.bytes)) = some (some (.agg #[.string ⟨#[]⟩, .int .i64 0]), 2, 24) := by kernel_rfl
theorem app_two (w : World) (u0 u1 : Value) (T : TypeId) : ∀ j u, ([u0, u1] : List Value)[j]? = some u → (w.alloc (.cells #[u0, u1] T)).cell? ((⟨w.heap.size, 0, none⟩ : Addr).add j) = some u := by
  intro j u h
  match j, h with
  | 0, h => simp at h; subst h; simp [Addr.add, World.cell?_alloc_new]
  | 1, h => simp at h; subst h; simp [Addr.add, World.cell?_alloc_new]
  | j + 2, h => simp at h

/-- what a round does to the world: what is no cells lies as it lay, the iterator's blocks too, and all below m -/
structure Rnd (m B b : Nat) (U W : World) : Prop where
  size : U.heap.size ≤ W.heap.size
  others : KeepsOthers U W
  kp : KpS b U W
  bel : Below m U W
theorem Rnd.refl (m B b : Nat) (U : World) : Rnd m B b U U := ⟨Nat.le_refl _, KeepsOthers.refl U, ⟨Nat.le_refl _, fun _ _ _ => rfl⟩, Below.refl _ _⟩
theorem Rnd.trans {m B b : Nat} {U V W : World} (h : Rnd m B b U V) (k : Rnd m B b V W) : Rnd m B b U W :=
  ⟨Nat.le_trans h.size k.size, h.others.trans k.others, ⟨Nat.le_trans h.size k.size, fun i hi h2 => (k.kp.2 i hi h2).trans (h.kp.2 i hi h2)⟩, h.bel.trans k.bel⟩
theorem Rnd.below {m B b : Nat} {U V W : World} (h : Rnd m B b U V) (hm : m ≤ U.heap.size) (hb : b + 3 ≤ U.heap.size) (k : Below V.heap.size V W) : Rnd m B b U W :=
  h.trans ⟨k.size, ⟨k.size, fun i o hi _ => (k.block i (Array.getElem?_eq_some_iff.1 hi).1).trans hi⟩, ⟨k.size, fun i _ h2 => k.block i (by have := h.size; omega)⟩, k.mono (by have := h.size; omega)⟩
theorem Rnd.set {m B b : Nat} {U V : World} (h : Rnd m B b U V) {C : Nat} (hm : m ≤ C) (hb : C < b ∨ b + 3 ≤ C) (v : Value) : Rnd m B b U (V.setCell ⟨C, 0, none⟩ v) :=
  h.trans ⟨(KeepsOthers.setCell V _ v).size, KeepsOthers.setCell V _ v, ⟨(KeepsOthers.setCell V _ v).size, fun i h1 h2 => heap_setCell_other V _ i v (by show i ≠ C; omega)⟩, (Below.refl m V).setCell (p := ⟨C, 0, none⟩) hm v⟩
theorem Rnd.grown {m B b : Nat} {U V W : World} {v : Value} {e K n : Nat} {xs : List Value} {o : Obj} (h : Rnd m B b U V) (hm : m ≤ U.heap.size) (hmB : m ≤ B) (hb : b + 3 ≤ B) (hbU : b + 3 ≤ U.heap.size) (ho : V.ownsRow B e K v n xs) (g : (V.alloc o).grownBy W v.ownBlock) : Rnd m B b U W := by
  have hs : V.heap.size ≤ W.heap.size := by have := g.size; simp at this; omega
  refine h.trans ⟨hs, (KeepsOthers.alloc V o).trans (KeepsOthers.of_grownBy g fun j o' e hj => ?_), ⟨hs, fun i h1 h2 => ?_⟩, ((Below.refl m V).alloc (by have := h.size; omega) o).grown g (by have := h.size; simp; omega) (fun k hk => Nat.le_trans hmB (ho.lt k hk).1)⟩
  · have hl := (ho.lt j e).2
    obtain ⟨_, ⟨rfl, _⟩ | ⟨q, cap, cur, rfl, hq, hg, _⟩⟩ := ho
    · cases e
    · obtain rfl : q = j := by simpa [Value.ownBlock] using e
      rw [Below.heap_alloc V o q hl, hg] at hj
      cases hj
      rfl
  · have h3 : i < V.heap.size := by have := h.size; omega
    exact (g.block i (by simp; omega) (fun e => by have := (ho.lt i e.symm).1; omega)).trans (Below.heap_alloc V o i h3)

/-- between two rounds -/
def RI (s : Tx) (w : World) (B bL bA : Nat) (pre : List Tx) (W : World) : Prop := ∃ f L v, Lns s pre f ∧ Rws s L f ∧ Row W bL [v] 30 ∧ W.ownsRow B 35 2 v L.length (rowCells L) ∧ Row W bA [.int .i64 (f : Int)] 3 ∧ Below w.heap.size w W ∧ B ≤ W.heap.size
theorem Row.grownC {V V' : World} {row : Option Nat} {C : Nat} {L : List Value} {T : TypeId} (h : Row V C L T) (g : V.grownBy V' row) (hr : ∀ r, row = some r → ∃ o : Obj, V.heap[r]? = some o ∧ o.isCells = false) : Row V' C L T := by
  refine (g.block C h.lt fun e => ?_).trans h
  obtain ⟨o, ho, hc⟩ := hr C e.symm
  rw [show V.heap[C]? = _ from h] at ho
  cases ho
  cases hc
theorem own_grownC {V V' : World} {row : Option Nat} {base e K n : Nat} {v : Value} {xs : List Value} (h : V.ownsRow base e K v n xs) (g : V.grownBy V' row) (hr : ∀ r, row = some r → ∃ o : Obj, V.heap[r]? = some o ∧ o.isCells = false) : V'.ownsRow base e K v n xs := by
  refine h.kept g ?_
  rcases h.2 with ⟨rfl, _⟩ | ⟨q, cap, cur, rfl, _, hg, _⟩
  · exact .inl rfl
  · refine .inr fun e' => ?_
    obtain ⟨o, ho, hc⟩ := hr q (by simpa [Value.ownBlock] using e'.symm)
    rw [hg] at ho
    cases ho
    cases hc
theorem RI.own (s : Tx) (w : World) (B bL bA : Nat) (hB : w.heap.size ≤ B) : OwnFrom B (RI s w B bL bA) := by
  rintro pre U W row ⟨f, L, v, h1, h2, h3, h4, h5, h6, h7⟩ g hr
  exact ⟨f, L, v, h1, h2, h3.grownC g fun r e => (hr r e).2, own_grownC h4 g fun r e => (hr r e).2, h5.grownC g fun r e => (hr r e).2, h6.grown g h6.size (fun k e => Nat.le_trans hB (hr k e).1), Nat.le_trans h7 g.size⟩
theorem RI.set {s : Tx} {w : World} {B bL bA b : Nat} {pre : List Tx} {W : World} (h : RI s w B bL bA pre W) (h1 : bL ≠ b) (h2 : bA ≠ b) (h3 : b < B) (h4 : w.heap.size ≤ b) (u : Value) : RI s w B bL bA pre (W.setCell ⟨b, 0, none⟩ u) := by
  obtain ⟨f, L, v, a1, a2, a3, a4, a5, a6, a7⟩ := h
  exact ⟨f, L, v, a1, a2, a3.oth h1 0 u, own_set a4 h3 0 u, a5.oth h2 0 u, a6.setCell (p := ⟨b, 0, none⟩) h4 u, Nat.le_trans a7 (KeepsOthers.setCell W _ u).size⟩

set_option maxRecDepth 100000 in
set_option maxHeartbeats 6400000 in
theorem lrows_any (s : Tx) (m : Int) (w : World) (hs : s.length ≤ 4194304) (hm : w.cell? ⟨0, 0, none⟩ = some (.int .i64 m)) :
    Calls Tryd.prog 10 #[.string (strL s)] w fun e w' => ∃ v, e = .returned v ∧ w'.ownsRow w.heap.size 35 2 v (rowsL s).length (rowCells (rowsL s)) ∧ Below w.heap.size w w' := by
  obtain ⟨i0, hi, hz0, hz1, hz2⟩ := info_parts Tryd.infoRow
  have HS := Lib.hid hs
  have HM := Lib.hid hm
  clear hs hm
  refine callsIn_wide (n := 6).1 ?_
  refine callsIn_of_wp_marks Tryd.func10 rfl trivial ?_ rfl
  simp only [Tryd.ntmps10, List.size_toArray, List.length_cons, List.length_nil, Nat.reduceAdd, Nat.reduceSub, Array.replicate_succ, Array.replicate_zero, List.push_toArray, List.append_toArray, List.nil_append, List.cons_append]
  refine wpIn_wide.2 ?_
  go_wp2_with (go_at_call 19; refine (splitseq_any s _).mono ?_; rintro e w9 ⟨rfl, rfl⟩)
  simp only [Nat.add_assoc, Nat.reduceAdd]
  obtain ⟨W0, hW0⟩ : ∃ W0, W0 = (((((w.alloc (.cells #[.slice none 0 0] 30)).alloc (.cells #[.int .i64 0] 3)).alloc (.cells #[.string (strL s)] 9)).alloc (.cells #[.string ⟨#[10]⟩] 9)).alloc (.cells #[.int .i64 0] 3)) := ⟨_, rfl⟩
  have SZ := Lib.hid (show W0.heap.size = w.heap.size + 5 by rw [hW0]; simp)
  have RL := Lib.hid (show Row W0 w.heap.size [.slice none 0 0] 30 by rw [hW0]; exact ((((Row.new _ [.slice none 0 0] _).old _).old _).old _).old _)
  have RA := Lib.hid (show Row W0 (w.heap.size + 1) [.int .i64 0] 3 by rw [hW0]; exact ((((Row.new' _ [.int .i64 0] _ _ (by simp)).old _).old _).old _))
  have SP := Lib.hid (show SplitAt W0 (w.heap.size + 2) s by
    rw [hW0]
    exact ⟨((Row.new' _ [.string (strL s)] _ _ (by simp)).old _).old _, (Row.new' _ [.string ⟨#[10]⟩] _ _ (by simp)).old _, Row.new' _ [.int .i64 0] _ _ (by simp)⟩)
  have BW := Lib.hid (show Below w.heap.size w W0 by rw [hW0]; exact KB.alloc (KB.alloc (KB.alloc (KB.alloc (KB.alloc (Below.refl _ _) _) _) _) _) _)
  rw [← hW0]
  clear hW0
  obtain ⟨pL, hpL⟩ : ∃ b, b = w.heap.size := ⟨_, rfl⟩
  have PL := Lib.hid hpL
  rw [← hpL] at SZ RL RA SP
  simp only [← hpL]
  clear hpL
  obtain ⟨B, hB⟩ : ∃ B, B = W0.heap.size := ⟨_, rfl⟩
  have BS := Lib.hid (show B = pL + 5 by rw [hB]; exact SZ.out)
  refine wpIn_wide (n := 6).1 ?_
  refine wpIn_rangeFunc_box (F := Fence.wide) rfl (by omega) (gf := 42) (lb := #[.pointer (some ⟨pL + 3, 0, none⟩), .pointer (some ⟨pL + 2, 0, none⟩), .pointer (some ⟨pL + 4, 0, none⟩)]) rfl trivial (enters_of Tryd.func42 (by kernel_rfl) rfl)
    (split_in (6 - 1) (by omega) s HS.out (pL + 2) W0 (by rw [SZ.out]; omega) SP.out) (fun h k => ⟨Nat.le_trans h.1 k.1, fun i h1 h2 => (k.2 i h1 h2).trans (h.2 i h1 h2)⟩)
    (fun W l o hl => ⟨by simp, fun i h1 h2 => World.putObj_heap_other (by have := SZ.out; omega)⟩) (Below.refl _ _) (fun _ => rfl)
    (RI s w W0.heap.size pL (pL + 1)) (RI.own s w _ _ _ (by have := PL.out; have := SZ.out; omega)) (fun pre W v h => h.set (by omega) (by omega) (by have := SZ.out; omega) (by have := PL.out; omega) v)
    ⟨0, [], _, Lns.start s, Rws.start s, RL.out, World.ownsRow_nil _ _ _ _, RA.out, BW.out, Nat.le_refl _⟩
    (fun x => { tmps := #[.string (strL s), undef, .slice none 0 0, .pointer (some ⟨pL, 0, none⟩), .pointer (some ⟨pL + 1, 0, none⟩), .string (strL x), undef, undef, undef, undef, undef, .string (strL s), .func (.func 42) #[] #[.pointer (some ⟨pL + 3, 0, none⟩), .pointer (some ⟨pL + 2, 0, none⟩), .pointer (some ⟨pL + 4, 0, none⟩)], .string (strL x), undef, undef, undef, undef, undef, undef, undef, undef, undef, undef, undef, undef, undef, undef, undef, undef, undef, undef, undef, undef, undef, undef, undef, undef, undef, undef, undef, undef, undef, undef], defers := [] }) ?assign ?body ?done
  case assign =>
    intro l x W K hK
    gi_wp2
    exact hK
  case body =>
    rintro l pre x rest W hx ⟨f, L, v, h1, h2, h3, h4, h5, h6, h7⟩
    have hf : f ≤ s.length := by
      refine Decidable.byContradiction fun c => ?_
      rw [h1.done (by omega)] at hx
      have := congrArg List.length hx
      simp at this
    have ex : x = (s.drop f).take (lineN s f) := by
      have := h1.split hf
      rw [hx] at this
      exact (List.cons.inj (List.append_cancel_left this)).1
    have LN := Lib.hid (lineN_le s f hf)
    obtain ⟨n, hn⟩ : ∃ n, n = lineN s f := ⟨_, rfl⟩
    have XL := Lib.hid (show x.length = n by rw [ex, List.length_take, List.length_drop, hn]; have := LN.out; omega)
    have xsz : (strL x).size = n := by rw [strL_size, XL.out]
    have HX := Lib.hid ex
    have HN := Lib.hid hn
    have H1 := Lib.hid (h1.next hf)
    have H2 := Lib.hid (h2.next hf)
    have LS := Lib.hid (rows_short h2)
    have HF := Lib.hid hf
    have H3 := Lib.hid h3
    have H4 := Lib.hid h4
    have H5 := Lib.hid h5
    have H6 := Lib.hid h6
    have WS := Lib.hid (show B ≤ W.heap.size by rw [hB]; exact h7)
    clear h7 hx h1 h2 hf ex hn
    obtain ⟨t, ht⟩ : ∃ t, t = x.take (remark x 0) := ⟨_, rfl⟩
    obtain ⟨r0, hr0⟩ : ∃ r0, r0 = t.dropWhile blankB := ⟨_, rfl⟩
    obtain ⟨r, hr⟩ : ∃ r, r = trimR r0 := ⟨_, rfl⟩
    have CU := Lib.hid (cut_any x m W (by rw [XL.out]; have := LN.out; have := HS.out; have := HN.out; omega) ((h6.cell (p := ⟨0, 0, none⟩) (World.block_lt_of_cell? w _ HM.out)).trans HM.out))
    have TL := Lib.hid (fun w => tl_any t w)
    have TLL := Lib.hid (show t.length ≤ n by rw [ht, List.length_take, XL.out]; omega)
    have RLL := Lib.hid (show r0.length ≤ t.length by rw [hr0]; exact List.Sublist.length_le (List.dropWhile_sublist _))
    have TR := Lib.hid (fun w => tr_any r0 w (by have := RLL.out; have := TLL.out; have := LN.out; have := HS.out; have := HN.out; omega))
    rw [← ht] at CU
    rw [← hr0] at TL
    rw [← hr] at TR
    have RA := Lib.hid (show GrL.rowAt s f = if r = [] then [] else [(r, f + (t.takeWhile blankB).length)] by rw [hr, hr0, ht, HX.out]; rfl)
    obtain ⟨k, hk⟩ : ∃ k, k = (t.takeWhile blankB).length := ⟨_, rfl⟩
    have KL := Lib.hid (show t.length = k + r0.length by rw [hk, hr0, ← List.length_append, List.takeWhile_append_dropWhile])
    rw [← hk] at RA
    obtain ⟨tn, htn⟩ : ∃ tn, tn = t.length := ⟨_, rfl⟩
    obtain ⟨rn, hrn⟩ : ∃ rn, rn = r0.length := ⟨_, rfl⟩
    have tsz : (strL t).size = tn := by rw [strL_size, htn]
    have rsz : (strL r0).size = rn := by rw [strL_size, hrn]
    rw [← htn] at TLL KL
    rw [← hrn] at KL
    clear RLL ht hr0 hr hk htn hrn
    have fn1 : Fence.wide.fn 20 := trivial
    have fn2 : Fence.wide.fn 21 := trivial
    have fn3 : Fence.wide.fn 22 := trivial
    have l0 := fun z : Wb W => (h3.at z).cell 0
    have a0 := fun z : Wb W => (h5.at z).cell 0
    have lf := fun z : Wb W => (h3.at z).free 0
    have af := fun z : Wb W => (h5.at z).free 0
    simp only [List.getElem?_cons_zero] at l0 a0
    clear h3 h4 h5 h6
    have f0 : (0 : Int) ≤ (f : Int) := by omega
    have f9 : (f : Int) ≤ 4194304 := by have := HF.out; have := HS.out; omega
    have n9 : (n : Int) ≤ 4194304 := by have := LN.out; have := HN.out; have := HS.out; omega
    have t9 : (tn : Int) ≤ 4194304 := by have := TLL.out; omega
    have wr : wrap64 ((f : Int) + (tn : Int) - (rn : Int)) = (f : Int) + (tn : Int) - (rn : Int) := wrap64_small _ (by have := KL.out; omega) (by have := KL.out; omega)
    have TKK := Lib.hid (show (f : Int) + (tn : Int) - (rn : Int) = ((f + k : Nat) : Int) by have := KL.out; omega)
    by_cases c : r = []
    · subst c
      rw [if_pos rfl] at RA
      have e1 : (strL ([] : Tx)).toList.isEmpty = true := by simp [strL]
      gi_wp2_with (first | (gi_at_call 20; refine (CallsIn.inRound l (callsIn_wide.2 CU.out)).mono ?_; rintro e w9 ⟨⟨cx, cb, rfl⟩, d⟩; obtain ⟨x1, rfl⟩ := Wb.start d; clear d) | (gi_at_call 21; refine (CallsIn.inRound l (callsIn_wide.2 (TL.out _))).mono ?_; rintro e w9 ⟨rfl, d⟩; obtain ⟨x2, rfl⟩ := Wb.next d; clear d) | (gi_at_call 22; refine (CallsIn.inRound l (callsIn_wide.2 (TR.out _))).mono ?_; rintro e w9 ⟨rfl, d⟩; obtain ⟨x3, rfl⟩ := Wb.next d; clear d))
      have R3 := (Rnd.refl w.heap.size B (pL + 2) W).below (by have := H6.out.size; omega) (by have := WS.out; have := BS.out; omega) x3.bel
      have R4 := R3.set (C := pL + 1) (by have := PL.out; omega) (.inl (by omega)) (.int .i64 ((f : Int) + ((n : Int) + 1)))
      refine ⟨R4.others.from _, R4.kp, f + n + 1, L, v, by rw [HX.out, HN.out]; exact H1.out, ?_, (H3.out.below x3.bel).oth (by omega) 0 _, own_set (own_below H4.out x3.bel) (by have := SZ.out; omega) 0 _, ?_, H6.out.trans R4.bel, ?_⟩
      · have h := H2.out
        rw [RA.out, List.append_nil, ← HN.out] at h
        exact h
      · rw [show ((f + n + 1 : Nat) : Int) = (f : Int) + ((n : Int) + 1) by omega]
        exact (H5.out.below x3.bel).set 0 _
      · rw [← hB]; exact Nat.le_trans WS.out R4.size
    · have e1 : (strL r).toList.isEmpty = false := by
        rw [List.isEmpty_eq_false_iff]; intro e; exact c (by simpa [strL, ByteArray.toList_eq] using e)
      rw [if_neg c] at RA
      have N1 := Lib.hid (show ∀ u ∈ [Value.string (strL r), .int .i64 ((f : Int) + (tn : Int) - (rn : Int))], u.oneCell' = true by simp [Value.oneCell'])
      have M0 := Lib.hid (show w.heap.size ≤ W.heap.size from H6.out.size)
      have M1 := Lib.hid (show pL + 2 + 3 ≤ W.heap.size by have := WS.out; have := BS.out; omega)
      have M2 := Lib.hid (show L.length + 1 ≤ maxLen by have := LS.out; have := HS.out; unfold maxLen; omega)
      have M3 := Lib.hid (show (L.length + 1) * 24 ≤ 140737488355328 by have := LS.out; have := HS.out; omega)
      have MB := Lib.hid (show w.heap.size ≤ B by have := BS.out; have := PL.out; omega)
      have PB := Lib.hid (show pL < B by have := BS.out; omega)
      have PB1 := Lib.hid (show pL + 1 < B by have := BS.out; omega)
      have PB3 := Lib.hid (show pL + 2 + 3 ≤ B by have := BS.out; omega)
      have H4 := Lib.hid (show W.ownsRow B 35 2 v L.length (rowCells L) by rw [hB]; exact H4.out)
      clear c
      gi_wp2_with (first | (gi_at_call 20; refine (CallsIn.inRound l (callsIn_wide.2 CU.out)).mono ?_; rintro e w9 ⟨⟨cx, cb, rfl⟩, d⟩; obtain ⟨x1, rfl⟩ := Wb.start d; clear d) | (gi_at_call 21; refine (CallsIn.inRound l (callsIn_wide.2 (TL.out _))).mono ?_; rintro e w9 ⟨rfl, d⟩; obtain ⟨x2, rfl⟩ := Wb.next d; clear d) | (gi_at_call 22; refine (CallsIn.inRound l (callsIn_wide.2 (TR.out _))).mono ?_; rintro e w9 ⟨rfl, d⟩; obtain ⟨x3, rfl⟩ := Wb.next d; clear d; have HO := Lib.hid (own_below H4.out x3.bel); have R3 := Lib.hid ((Rnd.refl w.heap.size B (pL + 2) W).below M0.out M1.out x3.bel); have NW := Lib.hid (fun T => app_two x3.at (.string (strL r)) (.int .i64 ((f : Int) + (tn : Int) - (rn : Int))) T); have S5 := Lib.hid (show ∀ o : Obj, B ≤ (x3.at.alloc o).heap.size from fun o => by have := R3.out.size; have := WS.out; simp only [World.size_alloc]; omega)) | (gi_at_builtin; refine wpListIn_append_own _ rfl _ _ 30 rfl B 35 i0 (.agg #[.string ⟨#[]⟩, .int .i64 0]) 2 24 Tryd.underlying30 hi hz0 hz1 hz2 rfl (by decide) _ _ _ rfl (HO.out.alloc _) ⟨x3.at.heap.size, 0, none⟩ 1 1 [.string (strL r), .int .i64 ((f : Int) + (tn : Int) - (rn : Int))] rfl rfl (NW.out _) N1.out M2.out M3.out (S5.out _) ?_; intro v' w1 hown' hgrow _; obtain ⟨g', cap', rfl⟩ := ownsRow_succ hown'; have RL1 := Lib.hid (Row.grown' hgrow ((H3.out.below x3.bel).old _) (fun k hk => (HO.out.lt k hk).1) PB.out); have RA1 := Lib.hid (Row.grown' hgrow ((H5.out.below x3.bel).old _) (fun k hk => (HO.out.lt k hk).1) PB1.out); have R5 := Lib.hid (R3.out.grown M0.out MB.out PB3.out M1.out HO.out hgrow); have OW := Lib.hid hown'; clear hown' hgrow; have b0 := RL1.out.cell 0; have b1 := RA1.out.cell 0; have b2 := RL1.out.free 0; have b3 := RA1.out.free 0; simp only [List.getElem?_cons_zero] at b0 b1))
      have R7 := (R5.out.set (C := pL) (by have := PL.out; omega) (.inl (by omega)) (.slice (some ⟨g', 0, none⟩) (L.length + 1) cap')).set (C := pL + 1) (by have := PL.out; omega) (.inl (by omega)) (.int .i64 ((f : Int) + ((n : Int) + 1)))
      refine ⟨R7.others.from _, R7.kp, f + n + 1, L ++ GrL.rowAt s f, _, by rw [HX.out, HN.out]; exact H1.out, ?_, (RL1.out.set 0 _).oth (by omega) 0 _, ?_, ?_, H6.out.trans R7.bel, ?_⟩
      · have h := H2.out
        rw [← HN.out] at h
        exact h
      · rw [RA.out, List.length_append, rowCells_snoc, ← hB, ← TKK.out]
        exact own_set (own_set OW.out PB.out 0 _) PB1.out 0 _
      · rw [show ((f + n + 1 : Nat) : Int) = (f : Int) + ((n : Int) + 1) by omega]
        exact (RA1.out.oth (by omega) 0 _).set 0 _
      · rw [← hB]; exact Nat.le_trans WS.out R7.size
  case done =>
    rintro D W hD ⟨f, L, v, h1, h2, h3, h4, h5, h6, h7⟩ hK
    have hf : s.length < f := by
      refine Decidable.byContradiction fun c => ?_
      have := congrArg List.length (h1.split (by omega))
      simp at this
    have E := Lib.hid (h2.done hf)
    have hc := h3.cell 0
    simp only [List.getElem?_cons_zero] at hc
    clear h1 h2 hf
    go_wp2
    refine ⟨by simp, .inl ⟨_, _, rfl, run_takeDeferred hK, ?_⟩⟩
    have BWs := BW.out.size
    exact ⟨_, results_tmp rfl _ _ _, v, rfl, by rw [E.out]; exact ownsRow_putObj (own_base h4 (by omega)) _ hK rfl, h6.trans (belowK_b (w := w) (Nat.le_refl _) W D _ _ (by omega) hK rfl rfl)⟩
end Go.Proofs.YtagbhhfflgikkaaDoor
