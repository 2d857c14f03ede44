/-
  Layer 11, the walks: slices.Clone of tokens, lex.Read, Bad, cond.Parse.
-/
import Derived.Test.YtgpngjgilcbigaaDoorOp
import Derived.Laws.AppendOwn
import Derived.Lib.SliceRun
set_option linter.unusedSimpArgs false
set_option linter.unusedVariables false
namespace GrC
open GrP GrL Go
theorem tokCells_get (a : Int) : ∀ (L : List GrL.Tok) (i : Nat) (h : i < L.length), (tokCells a L)[i * 3]? = some (.int .i64 ((L[i]'h).kind : Int)) ∧ (tokCells a L)[i * 3 + 1]? = some (.string (strL (L[i]'h).text)) ∧ (tokCells a L)[i * 3 + 2]? = some (.int .i64 (a + ((L[i]'h).pos : Int)))
  | [], i, h => by simp at h
  | x :: L, 0, _ => ⟨rfl, rfl, rfl⟩
  | x :: L, i + 1, h => by
    have ih := tokCells_get a L i (by simpa using h)
    have e : ∀ r, (tokCells a (x :: L))[(i + 1) * 3 + r]? = (tokCells a L)[i * 3 + r]? := fun r => by
      rw [show (i + 1) * 3 + r = (i * 3 + r) + 3 by omega]
      rfl
    exact ⟨(e 0).trans ih.1, (e 1).trans ih.2.1, (e 2).trans ih.2.2⟩
theorem tokCells_len (a : Int) (L : List GrL.Tok) : (tokCells a L).length = L.length * 3 := by
  induction L with
  | nil => rfl
  | cons x L ih =>
    rw [show tokCells a (x :: L) = _ :: _ :: _ :: tokCells a L from rfl]
    simp only [List.length_cons, ih]
    omega
theorem tokCells_one (a : Int) (L : List GrL.Tok) : ∀ u ∈ tokCells a L, u.oneCell' = true := fun u hu => by
  obtain ⟨p, _, hp⟩ := List.mem_flatMap.1 hu
  simp only [List.mem_cons, List.not_mem_nil, or_false] at hp
  rcases hp with rfl | rfl | rfl <;> rfl
end GrC
namespace Go.Proofs.YtgpngjgilcbigaaDoor
open Go.RowKit GrP GrL GrC

theorem TkAt.of {W : World} {g : Nat} {L : List GrL.Tok} (h : ∀ j u, (tokCells 0 L)[j]? = some u → W.cell? ⟨g, j, none⟩ = some u) (hl : L.length ≤ 4194305) (hx : ∀ i (h : i < L.length), (L[i]'h).text.length ≤ 4194304) : TkAt W (some ⟨g, 0, none⟩) L where
  cells i hi := by
    have ad : ∀ r, (⟨g, 0, none⟩ : Addr).add r = ⟨g, r, none⟩ := fun r => by
      unfold Addr.add
      split <;> simp_all
    obtain ⟨h0, h1, h2⟩ := tokCells_get 0 L i hi
    rw [Int.zero_add] at h2
    refine ⟨_, rfl, ?_, ?_, ?_⟩
    · rw [ad]; exact h _ _ h0
    · rw [ad]; exact h _ _ h1
    · rw [ad]; exact h _ _ h2
  most := hl
  texts := hx
theorem TkAt.below {W U : World} {tp : Option Addr} {L : List GrL.Tok} (h : TkAt W tp L) (k : Below W.heap.size W U) : TkAt U tp L :=
  ⟨fun i hi => by obtain ⟨a, e, c0, c1, c2⟩ := h.cells i hi; exact ⟨a, e, keep_below k _ _ c0, keep_below k _ _ c1, keep_below k _ _ c2⟩, h.most, h.texts⟩
theorem TkAt.len {W : World} {tp : Option Addr} {L : List GrL.Tok} (h : TkAt W tp L) (hL : 0 < L.length) : ∃ a, tp = some a := by
  obtain ⟨a, e, _⟩ := h.cells 0 hL
  exact ⟨a, e⟩

set_option maxRecDepth 100000 in
set_option maxHeartbeats 3200000 in
theorem clone_any (g c : Nat) (L : List GrL.Tok) (w : World) (h : ∀ j u, (tokCells 0 L)[j]? = some u → w.cell? ⟨g, j, none⟩ = some u) (hn : L.length ≤ 4194305) (h0 : 0 < L.length) :
    Calls Tryd.prog 37 #[.slice (some ⟨g, 0, none⟩) L.length c] w fun e w' => ∃ g2 c2, e = .returned (.slice (some ⟨g2, 0, none⟩) L.length c2) ∧ (∀ j u, (tokCells 0 L)[j]? = some u → w'.cell? ⟨g2, j, none⟩ = some u) ∧ Below w.heap.size w w' := by
  obtain ⟨i0, hi, hz0, hz1, hz2⟩ := info_parts Tryd.infoTok
  have en : ∀ (a : Option Addr) (n c : Nat) (w : World), (binOp .eql 30 (.slice a n c) (.slice none 0 0)).run Tryd.prog w = .ok (.bool a.isNone) w := fun a n c w => Lib.run_eql_slice_nil w _ _ a n c 0 0 Tryd.underlying30
  have ad : ∀ r, (⟨g, 0, none⟩ : Addr).add r = ⟨g, r, none⟩ := fun r => by
    unfold Addr.add
    split <;> simp_all
  have HX := Lib.hid (fun T => fun j u (hj : (tokCells 0 L)[j]? = some u) => (show (w.alloc (.cells #[] T)).cell? ((⟨g, 0, none⟩ : Addr).add j) = some u by rw [ad, World.cell?_of_block (w := w) (Below.heap_alloc w (.cells #[] T) _ (World.block_lt_of_cell? w _ (h j u hj)))]; exact h j u hj))
  have N1 := Lib.hid (tokCells_one 0 L)
  have LN := Lib.hid (tokCells_len 0 L)
  have HN := Lib.hid hn
  have H0 := Lib.hid h0
  have HO := Lib.hid (show (w.alloc (.cells #[] 63)).ownsRow w.heap.size 63 3 (.slice (some ⟨w.heap.size, 0, none⟩) 0 0) 0 [] from ⟨rfl, .inr ⟨w.heap.size, 0, #[], rfl, Nat.le_refl _, heap_alloc_new w _, Nat.le_refl _, Nat.zero_le _, rfl, rfl⟩⟩)
  clear h hn h0 ad
  go_enter Tryd.func37, Tryd.ntmps37
  go_wp2_with (at_builtin; refine wpList_append_own _ rfl _ _ 30 rfl w.heap.size 63 i0 (.agg #[.int .i64 0, .string ⟨#[]⟩, .int .i64 0]) 3 32 Tryd.underlying30 hi hz0 hz1 hz2 rfl (by decide) _ 0 [] rfl HO.out ⟨g, 0, none⟩ L.length c (tokCells 0 L) rfl LN.out (HX.out _) N1.out (by have := HN.out; unfold maxLen; omega) (by have := HN.out; omega) (by simp) ?_)
  intro v2 w5 h2 hg2 _
  have O5 := Lib.hid (show w5.ownsRow w.heap.size 63 3 v2 L.length (tokCells 0 L) by simpa using h2)
  have B5 := Lib.hid (show Below w.heap.size w w5 from (KB.alloc (Below.refl _ _) _).grown hg2 (by simp) (fun k hk => by simp [Value.ownBlock] at hk; omega))
  clear h2 hg2 HX N1 HO
  go_wp2
  go_ret
  obtain ⟨rfl, h9⟩ | ⟨g2, c2, rfl, _, _, hc⟩ := own_open O5.out
  · exact absurd h9 (by have := H0.out; omega)
  · exact ⟨g2, c2, rfl, hc, B5.out⟩

set_option maxRecDepth 100000 in
set_option maxHeartbeats 3200000 in
theorem read_any (g c : Nat) (L : List GrL.Tok) (w : World) (h : ∀ j u, (tokCells 0 L)[j]? = some u → w.cell? ⟨g, j, none⟩ = some u) (hn : L.length ≤ 4194305) (h0 : 0 < L.length) (hx : ∀ i (h : i < L.length), (L[i]'h).text.length ≤ 4194304) :
    Calls Tryd.prog 14 #[.slice (some ⟨g, 0, none⟩) L.length c] w fun e w' => ∃ w0 tp tc R, e = .returned (.pointer (some ⟨R, 0, none⟩)) ∧ TkAt w0 tp L ∧ Below w.heap.size w w0 ∧ Below w0.heap.size w0 w' ∧ w0.heap.size ≤ R ∧ Row w' R [.slice tp L.length tc, .int .i64 0, .int .i64 0, .int .i64 0] 68 := by
  have CL := Lib.hid (fun U (k : Below w.heap.size w U) => clone_any g c L U (fun j u hj => keep_below k _ _ (h j u hj)) hn h0)
  have HN := Lib.hid hn
  have HX := Lib.hid hx
  clear h hn h0 hx
  go_enter Tryd.func14, Tryd.ntmps14
  go_wp2_with (go_at_call 37; refine (CL.out _ (Below.refl _ _)).mono ?_; rintro e w9 ⟨g2, c2, rfl, h1, h2⟩)
  go_ret
  exact ⟨w9, _, _, w9.heap.size, rfl, TkAt.of h1 HN.out HX.out, h2, KB.alloc (Below.refl _ _) _, Nat.le_refl _, Row.new w9 [_, _, _, _] _⟩
set_option maxRecDepth 100000 in
set_option maxHeartbeats 3200000 in
theorem bad_any (R : Nat) (x0 x1 : Value) (e p : Int) (w : World) (h : Row w R [x0, x1, .int .i64 e, .int .i64 p] 68) :
    Calls Tryd.prog 16 #[.pointer (some ⟨R, 0, none⟩)] w fun f w' => f = .returned (.agg #[.int .i64 e, .int .i64 p]) ∧ Below w.heap.size w w' := by
  have H := Lib.hid h
  clear h
  go_enter Tryd.func16, Tryd.ntmps16
  go_upto_region 1 with fail
  refine to_cls ?_
  intro U0 hU0 y0
  have r_t : ∀ z : Wb U0, Row z.at w.heap.size [.int .i64 0, .int .i64 0] 33 := Row.next (Row.new _ [.int .i64 0, .int .i64 0] _) hU0
  have KK := Lib.hid (KB.next (KB.alloc (Below.refl w.heap.size w) _) hU0)
  clear hU0
  obtain ⟨pT, hpT⟩ : ∃ b, b = w.heap.size := ⟨_, rfl⟩
  have PT := Lib.hid (show w.heap.size ≤ pT by omega)
  rw [← hpT] at r_t
  simp only [← hpT]
  clear hpT
  have RW := Lib.hid (H.out.below (KK.out y0))
  have r0 := (RW.out).cell 0
  have r1 := (RW.out).cell 1
  have r2 := (RW.out).cell 2
  have r3 := (RW.out).cell 3
  simp only [List.getElem?_cons_zero, List.getElem?_cons_succ] at r0 r1 r2 r3
  have t0 := ((r_t y0)).cell 0
  have t1 := ((r_t y0)).cell 1
  have tf := fun i : Nat => ((r_t y0)).free i
  simp only [List.getElem?_cons_zero, List.getElem?_cons_succ] at t0 t1
  have K0 := Lib.hid (KK.out y0)
  clear r_t KK
  go_wp2
  refine bodyPost_ret (v := .agg #[.int .i64 e, .int .i64 p]) (by simp [results, Tryd.results16, go_sem, *]) rfl ⟨rfl, ?_⟩
  repeat' (first | (with_reducible exact K0.out) | (with_reducible refine Below.setCell ?_ ?_ _) | (with_reducible exact PT.out))
end Go.Proofs.YtgpngjgilcbigaaDoor
