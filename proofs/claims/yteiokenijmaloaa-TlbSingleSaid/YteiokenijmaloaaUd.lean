/-
  Layer 9, the walks: slices.Grow, slices.Clone; a buffer's entries, how many, where one stands, whether it has one.
-/
import Derived.Test.YteiokenijmaloaaUc
import Derived.Lib.AppendZeros
import Derived.Lib.AppendZerosOnto
import Derived.Lib.SliceRun
import Derived.Laws.AppendOwn
import Derived.Laws.AppendOwnNone
set_option linter.unusedSimpArgs false
set_option linter.unusedVariables false
namespace Go.Proofs.Yteiokenijmaloaa
open Go.RowKit GrT

theorem ebytes : (Try.prog.info? 25).map (fun i => (i.zero, i.size, i.bytes)) = some (some (.agg #[.int .i64 0, .int .u64 0, .int .u64 0, .int .u64 0]), 4, 32) := by kernel_rfl

set_option maxRecDepth 100000 in
set_option maxHeartbeats 4000000 in
theorem grow_any (n : Nat) (w : World) (hn : n ≤ 1000) :
    Calls Try.prog 45 #[.slice none 0 0, .int .i64 (n : Int)] w fun e w' => ∃ v, e = .returned v ∧ w'.ownsRow w.heap.size 25 4 v 0 [] ∧ Below w.heap.size w w' := by
  obtain ⟨i0, hi, hz0, hz1, hz2⟩ := info_parts ebytes
  have n0 : (0 : Int) ≤ (n : Int) := by omega
  have n1 : (n : Int) ≤ 1000 := by omega
  by_cases c : n = 0
  · subst c
    go_enter Try.func45, Try.ntmps45
    go_wp2
    go_ret
    exact ⟨_, rfl, World.ownsRow_nil _ _ _ _, Below.refl _ _⟩
  · have cp : (0 : Int) < (n : Int) := by omega
    have hold : (Builtin.firstCells i0.size 0 (.slice none 0 0)).run Try.prog w.drew = .ok ([] : List Value).toArray w.drew := run_firstCells_none w.drew i0.size 0 0 0
    have hrz : ∀ ty, (Builtin.append_ #[27, 3] ty #[.slice none 0 0, .int .i64 (n : Int)]).run Try.prog w = _ := fun ty =>
      Lib.run_append_grow_zeros w 27 3 ty 25 i0 _ .i64 .i64 Try.underlying27 Try.underlying3 hi hz0 none 0 0 [] hold n (by omega) (by rw [hz1]; decide) (by omega) (by omega) (by rw [hz2]; omega) (by rw [hz2]; exact growslice_fits (by omega) (by omega))
    obtain ⟨G, hG⟩ : ∃ G, G = grownCap w (0 + n) 0 25 := ⟨_, rfl⟩
    have hg1 : n ≤ G := by have := grownCap_ge w (0 + n) 0 25; omega
    have hg2 : G ≤ maxLen := by rw [hG]; exact grownCap_le_maxLen _ _ _ _ (by unfold maxLen; omega)
    rw [← hG] at hrz
    obtain ⟨C, hC⟩ : ∃ C, C = (([] : List Value).toArray ++ Builtin.zeroCells (Value.agg #[.int .i64 0, .int .u64 0, .int .u64 0, .int .u64 0]).cells n ++ Builtin.zeroCells (Value.agg #[.int .i64 0, .int .u64 0, .int .u64 0, .int .u64 0]).cells (G - (0 + n))) := ⟨_, rfl⟩
    rw [← hC] at hrz
    have hCs : C.size = G * 4 := by rw [hC]; simp only [Array.size_append, size_zeroCells]; simp [Value.cells]; omega
    have g9 : G ≤ 9223372036854775807 := by unfold maxLen at hg2; omega
    have HR := Lib.hid hrz
    have HC := Lib.hid hCs
    have HG := Lib.hid hg2
    clear hC hG hold hrz hCs hg2
    go_enter Try.func45, Try.ntmps45
    go_wp2_with (at_builtin; refine Lib.wpList_append_run _ rfl _ _ _ _ rfl _ _ rfl rfl _ _ (HR.out _) ?_)
    all_goals
      go_ret
      refine ⟨_, rfl, ⟨rfl, .inr ⟨w.heap.size, G, C, rfl, Nat.le_refl _, ?_, Nat.zero_le _, HG.out, HC.out, by simp⟩⟩, KB.alloc (Below.refl _ _).drew _⟩
      exact heap_alloc_new w.drew _

set_option maxRecDepth 100000 in
set_option maxHeartbeats 4000000 in
theorem clone_any (v : Value) (L : List E) (w : World) (h : SlE w v L) (hn : L.length ≤ 1000) :
    Calls Try.prog 26 #[v] w fun e w' => ∃ v2, e = .returned v2 ∧ w'.ownsRow w.heap.size 25 4 v2 L.length (entsC L) ∧ Below w.heap.size w w' := by
  obtain ⟨i0, hi, hz0, hz1, hz2⟩ := info_parts ebytes
  have en : ∀ (a : Option Addr) (n c : Nat) (w : World), (binOp .eql 27 (.slice a n c) (.slice none 0 0)).run Try.prog w = .ok (.bool a.isNone) w := fun a n c w => Lib.run_eql_slice_nil w _ _ a n c 0 0 Try.underlying27
  obtain ⟨hl, ⟨rfl, h0⟩ | ⟨a, c, rfl, hc, hm, hx⟩⟩ := h
  · obtain rfl : L = [] := List.eq_nil_of_length_eq_zero h0
    go_enter Try.func26, Try.ntmps26
    go_wp2
    go_ret
    exact ⟨_, rfl, World.ownsRow_nil _ _ _ _, Below.refl _ _⟩
  · go_enter Try.func26, Try.ntmps26
    have HX := Lib.hid (fun T => fun j u (hj : (entsC L)[j]? = some u) => (show (w.alloc (.cells #[] T)).cell? (a.add j) = some u by rw [World.cell?_of_block (w := w) (Below.heap_alloc w (.cells #[] T) _ (World.block_lt_of_cell? w _ (hx j u hj)))]; exact hx j u hj))
    have N1 := Lib.hid (entsC_one L)
    clear hx
    have HO := Lib.hid (show (w.alloc (.cells #[] 25)).ownsRow w.heap.size 25 4 (.slice (some ⟨w.heap.size, 0, none⟩) 0 0) 0 [] from ⟨rfl, .inr ⟨w.heap.size, 0, #[], rfl, Nat.le_refl _, heap_alloc_new w _, Nat.le_refl _, Nat.zero_le _, rfl, rfl⟩⟩)
    go_wp2_with (at_builtin; refine wpList_append_own _ rfl _ _ 27 rfl w.heap.size 25 i0 (.agg #[.int .i64 0, .int .u64 0, .int .u64 0, .int .u64 0]) 4 32 Try.underlying27 hi hz0 hz1 hz2 rfl (by decide) _ 0 [] rfl HO.out a L.length c (entsC L) rfl hl (HX.out _) N1.out (by unfold maxLen; omega) (by omega) (by simp) ?_)
    intro v2 w5 h2 hg2 _
    have O5 := Lib.hid (show w5.ownsRow w.heap.size 25 4 v2 L.length (entsC L) by simpa using h2)
    have B5 := Lib.hid (show Below w.heap.size w w5 from (KB.alloc (Below.refl _ _) _).grown hg2 (by simp) (fun k hk => by simp [Value.ownBlock] at hk; omega))
    clear h2 hg2 HX N1 HO
    go_wp2
    go_ret
    exact ⟨_, rfl, O5.out, B5.out⟩

/-- a buffer's value -/
def bv (v : Value) : Value := .agg #[v]
theorem entries_any (v : Value) (L : List E) (w : World) (h : SlE w v L) (hn : L.length ≤ 1000) :
    Calls Try.prog 11 #[.agg #[v]] w fun e w' => ∃ v2, e = .returned v2 ∧ w'.ownsRow w.heap.size 25 4 v2 L.length (entsC L) ∧ Below w.heap.size w w' := by
  obtain ⟨p, n, c, rfl⟩ := SlAt.form h
  go_enter Try.func11, Try.ntmps11
  go_wp2_with fail
  refine (clone_any _ L _ (h.below (KB.alloc (Below.refl _ _) _)) hn).mono ?_
  rintro e w1 ⟨v2, rfl, o, g⟩
  have O1 := Lib.hid (own_base o (by simp : w.heap.size ≤ _))
  have B1 := Lib.hid (show Below w.heap.size w w1 from (KB.alloc (Below.refl _ _) _).trans (g.mono (by simp)))
  clear o g
  go_wp2
  go_ret
  exact ⟨_, rfl, O1.out, B1.out⟩
theorem len_any (v : Value) (L : List E) (w : World) (h : SlE w v L) :
    Calls Try.prog 12 #[.agg #[v]] w fun e w' => e = .returned (.int .i64 (L.length : Int)) ∧ Below w.heap.size w w' := by
  obtain ⟨p, n, c, rfl⟩ := SlAt.form h
  have HN := Lib.hid h.len
  clear h
  go_enter Try.func12, Try.ntmps12
  go_wp2
  go_ret
  exact ⟨by rw [HN.out]; rfl, KB.alloc (Below.refl _ _) _⟩
set_option maxRecDepth 100000 in
set_option maxHeartbeats 4000000 in
theorem place_any (v : Value) (L : List E) (e : E) (w : World) (h : SlE w v L) (hr : Rise L) (hn : L.length ≤ 1000) :
    Calls Try.prog 27 #[.agg #[v], ev e] w fun x w' => x = .returned (.tuple #[.int .i64 (posE L e : Nat), .bool (decide (L[posE L e]? = some e))]) ∧ Below w.heap.size w w' := by
  obtain ⟨p, n, c, rfl⟩ := SlAt.form h
  have SE := Lib.hid (fun (U : World) (k : Below w.heap.size w U) => search_any _ L e U (h.below k) hr hn)
  obtain ⟨P, hP⟩ : ∃ P, P = posE L e := ⟨_, rfl⟩
  obtain ⟨b, hb⟩ : ∃ b, b = decide (L[P]? = some e) := ⟨_, rfl⟩
  rw [← hP] at SE ⊢
  rw [← hb] at SE ⊢
  obtain ⟨e0, e1, e2, e3⟩ := e
  unfold ev at SE ⊢
  simp only at SE ⊢
  clear h hr hn hP hb
  go_enter Try.func27, Try.ntmps27
  go_wp2_with fail
  refine (SE.out _ (KB.alloc (KB.alloc (Below.refl _ _) _) _)).mono ?_
  rintro x w1 ⟨rfl, g⟩
  have B1 := Lib.hid (show Below w.heap.size w w1 from (KB.alloc (KB.alloc (Below.refl _ _) _) _).trans (g.mono (by simp; omega)))
  clear g
  go_wp2
  refine bodyPost_ret (v := .tuple #[.int .i64 (P : Int), .bool b]) (by simp [results, Try.results27, go_sem, *]) rfl ⟨rfl, B1.out⟩
set_option maxRecDepth 100000 in
set_option maxHeartbeats 4000000 in
theorem has_any (v : Value) (L : List E) (e : E) (w : World) (h : SlE w v L) (hr : Rise L) (hn : L.length ≤ 1000) :
    Calls Try.prog 13 #[.agg #[v], ev e] w fun x w' => x = .returned (.bool (decide (e ∈ L))) ∧ Below w.heap.size w w' := by
  obtain ⟨p, n, c, rfl⟩ := SlAt.form h
  have PL := Lib.hid (fun (U : World) (k : Below w.heap.size w U) => place_any _ L e U (h.below k) hr hn)
  have HE := Lib.hid (show decide (L[posE L e]? = some e) = decide (e ∈ L) from decide_eq_decide.2 (there_iff hr e))
  rw [HE.out] at PL
  obtain ⟨P, hP⟩ : ∃ P, P = posE L e := ⟨_, rfl⟩
  obtain ⟨b, hb⟩ : ∃ b, b = decide (e ∈ L) := ⟨_, rfl⟩
  rw [← hP] at PL
  rw [← hb] at PL ⊢
  obtain ⟨e0, e1, e2, e3⟩ := e
  unfold ev at PL ⊢
  simp only at PL ⊢
  clear h hr hn hP hb HE
  go_enter Try.func13, Try.ntmps13
  go_wp2_with fail
  refine (PL.out _ (KB.alloc (KB.alloc (Below.refl _ _) _) _)).mono ?_
  rintro x w1 ⟨rfl, g⟩
  have B1 := Lib.hid (show Below w.heap.size w w1 from (KB.alloc (KB.alloc (Below.refl _ _) _) _).trans (g.mono (by simp; omega)))
  clear g
  go_wp2
  go_ret
  exact ⟨rfl, B1.out⟩
end Go.Proofs.Yteiokenijmaloaa
