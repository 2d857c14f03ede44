/-
  Layer 2, the walks of the page's own answers (granuleref02): lists of bits in new memory.
-/
import Derived.Test.YteiokenijmaloaaFx
set_option linter.unusedSimpArgs false
set_option linter.unusedVariables false
namespace Go.Proofs.Yteiokenijmaloaa
open Go.RowKit

theorem Try.infoInt : (Try.prog.info? 3).map (fun i => (i.zero, i.size, i.bytes)) = some (some (.int .i64 0), 1, 8) := by kernel_rfl

/-- block g holds (at least) the 64 bits b, as ints -/
def BitsAt (w : World) (g cap : Nat) (b : Nat → Bool) : Prop :=
  64 ≤ cap ∧ cap ≤ maxLen ∧ ∃ cur, w.heap[g]? = some (.cells cur 3 (0, 0)) ∧ cur.size = cap ∧ ∀ j, j < 64 → cur[j]? = some (.int .i64 (GrF.bit (b j)))

theorem BitsAt.cell {w : World} {g cap : Nat} {b : Nat → Bool} (h : BitsAt w g cap b) (j : Nat) (hj : j < 64) : w.cell? ⟨g, j, none⟩ = some (.int .i64 (GrF.bit (b j))) := by
  obtain ⟨_, _, cur, hg, _, hb⟩ := h
  rw [cell_of_row w g j cur _ (0, 0) hg]
  exact hb j hj
theorem BitsAt.free {w : World} {g cap : Nat} {b : Nat → Bool} (h : BitsAt w g cap b) (j : Nat) : w.frozen? ⟨g, j, none⟩ = false := by
  obtain ⟨_, _, cur, hg, _, hb⟩ := h
  simp [World.frozen?, hg]
theorem BitsAt.below {w w' : World} {g cap B : Nat} {b : Nat → Bool} (h : BitsAt w g cap b) (k : Below B w w') (hg : g < B) : BitsAt w' g cap b := by
  obtain ⟨h1, h2, cur, h3, h4⟩ := h
  exact ⟨h1, h2, cur, by rw [k.block g hg]; exact h3, h4⟩
theorem BitsAt.lt {w : World} {g cap : Nat} {b : Nat → Bool} (h : BitsAt w g cap b) : g < w.heap.size := by
  obtain ⟨_, _, cur, hg, _⟩ := h
  exact (Array.getElem?_eq_some_iff.1 hg).1

/-- .. out of a row that the call owns -/
theorem BitsAt.of {w : World} {B : Nat} {v : Value} {b : Nat → Bool} (h : w.ownsRow B 3 1 v 64 ((GrF.bl b 64).map (Value.int .i64))) :
    ∃ g cap, v = .slice (some ⟨g, 0, none⟩) 64 cap ∧ B ≤ g ∧ BitsAt w g cap b := by
  obtain ⟨_, h2⟩ := h
  rcases h2 with ⟨_, h3⟩ | ⟨g, cap, cur, hv, hB, hg, hn, hm, hs, ht⟩
  · omega
  · refine ⟨g, cap, hv, hB, hn, hm, cur, hg, by simpa using hs, fun j hj => ?_⟩
    have h4 := congrArg (fun l => l[j]?) ht
    simp only [Nat.mul_one, List.getElem?_map] at h4
    rw [List.getElem?_take_of_lt hj, GrF.bl_get? _ _ _ hj] at h4
    simpa using h4
theorem bits_end {x : Int} {w wr : World} {v : Value} (hown : wr.ownsRow w.heap.size 3 1 v 64 ((GrF.bl (fun i => x.toNat.testBit i) 64).map (Value.int .i64))) (hbel : Below w.heap.size w wr) :
    ∃ g cap, Ending.returned v = .returned (.slice (some ⟨g, 0, none⟩) 64 cap) ∧ w.heap.size ≤ g ∧ BitsAt wr g cap (fun i => x.toNat.testBit i) ∧ Below w.heap.size w wr := by
  obtain ⟨g, cap, rfl, h1, h2⟩ := BitsAt.of hown
  exact ⟨g, cap, rfl, h1, h2, hbel⟩

/-- one new cell, as append's laws ask for it -/
theorem one_new (w : World) (v : Value) (T : TypeId) : ∀ (j : Nat) (u : Value), [v][j]? = some u → (w.alloc (.cells #[v] T)).cell? (({ block := w.heap.size, off := 0 } : Addr).add j) = some u := by
  intro j u hj
  match j, hj with
  | 0, hj =>
    simp at hj
    subst hj
    simp [Addr.add]
theorem one_int (k : IntKind) (n : Int) : ∀ u ∈ [Value.int k n], u.oneCell' = true := by
  intro u hu
  simp at hu
  subst hu
  rfl
theorem bits_step {x : Int} {w wr w1 : World} {v v' : Value} {k m : Nat} {o : Obj} (hm : m = x.toNat / 2 ^ k)
    (hown : wr.ownsRow w.heap.size 3 1 v k ((GrF.bl (fun i => x.toNat.testBit i) k).map (Value.int .i64))) (hbel : Below w.heap.size w wr)
    (hown' : w1.ownsRow w.heap.size 3 1 v' (k + 1) ((GrF.bl (fun i => x.toNat.testBit i) k).map (Value.int .i64) ++ [.int .i64 ((m : Int) % 2)])) (hgrow : (wr.alloc o).grownBy w1 v.ownBlock) :
    w1.ownsRow w.heap.size 3 1 v' (k + 1) ((GrF.bl (fun i => x.toNat.testBit i) (k + 1)).map (Value.int .i64)) ∧ Below w.heap.size w w1 := by
  refine ⟨?_, ?_⟩
  · rw [GrF.bl_succ, List.map_append]
    have e : ((m : Int) % 2) = GrF.bit (x.toNat.testBit k) := by
      rw [Nat.testBit_eq_decide_div_mod_eq, ← hm]
      unfold GrF.bit
      by_cases h : m % 2 = 1
      · simp [h]; omega
      · simp [h]; omega
    rw [e] at hown'
    exact hown'
  · refine (hbel.alloc hbel.size o).grown hgrow ?_ ?_
    · have := hbel.size; simp; omega
    · intro j hj
      exact (hown.lt j hj).1
theorem half (a k : Nat) (h : a < 18446744073709551616) : Value.int .u64 (IntKind.u64.wrap (((a / 2 ^ k : Nat) : Int) / 2)) = Value.int .u64 ((a / 2 ^ (k + 1) : Nat) : Int) := by
  have h2 := GrF.div_lt h (2 ^ k)
  rw [Nat.pow_succ, ← Nat.div_div_eq_div_mul, IntKind.wrap_u64]
  generalize a / 2 ^ k = b at h2
  congr 1
  omega

/-- the post of Bits -/
def BitsPost (x : Int) (w : World) (e : Ending) (w' : World) : Prop :=
  ∃ g cap, e = .returned (.slice (some ⟨g, 0, none⟩) 64 cap) ∧ w.heap.size ≤ g ∧ BitsAt w' g cap (fun i => x.toNat.testBit i) ∧ Below w.heap.size w w'

set_option maxRecDepth 100000 in
set_option maxHeartbeats 800000 in
theorem bits_any (x : Int) (w : World) (h0 : 0 ≤ x) (h1 : x < 18446744073709551616) :
    Calls Try.prog 63 #[.int .u64 x] w (BitsPost x w) := by
  obtain ⟨i0, hi, hz0, hz1, hz2⟩ := info_parts Try.infoInt
  have H1 := Lib.hid h1
  clear h1
  go_enter Try.func63, Try.ntmps63
  go_wp2
  go_loopw [0, 3, 4] (fun y v i wr => ∃ k : Nat, k ≤ 64 ∧ i = .int .i64 k ∧ y = .int .u64 ((x.toNat / 2 ^ k : Nat) : Int) ∧ wr.ownsRow w.heap.size 3 1 v k ((GrF.bl (fun i => x.toNat.testBit i) k).map (Value.int .i64)) ∧ Below w.heap.size w wr)
    (fun _ _ i _ => 64 - (intOf i).toNat)
  case atStart => exact ⟨0, by omega, rfl, by simp; omega, World.ownsRow_nil _ _ _ _, Below.refl _ _⟩
  case round =>
    obtain ⟨k, hk, rfl, rfl, hown, hbel⟩ := hrel
    obtain ⟨m, hm⟩ : ∃ m : Nat, m = x.toNat / 2 ^ k := ⟨_, rfl⟩
    rw [← hm]
    have HM := Lib.hid hm
    clear hm
    by_cases hlt : k < 64
    · go_wp2_with (at_builtin; refine wpList_append_own _ rfl _ _ 88 rfl w.heap.size 3 i0 (.int .i64 0) 1 8 Try.underlying88 hi hz0 hz1 hz2 rfl (by decide) _ _ _ rfl (hown.alloc _) ⟨wr.heap.size, 0, none⟩ 1 1 [.int .i64 ((m : Int) % 2)] rfl rfl ?c1 ?c2 ?c3 ?c4 ?c5 ?_)
      case c1 => exact one_new _ _ _
      case c2 => exact one_int _ _
      case c3 => unfold maxLen; omega
      case c4 => omega
      case c5 => have := hbel.size; simp; omega
      intro v' w1 hown' hgrow _
      have R := bits_step HM.out hown hbel hown' hgrow
      clear hown hown' hgrow hbel
      go_wp2
      go_roundw
      case rel => exact ⟨k + 1, by omega, by go_num, by rw [HM.out]; exact half _ _ (by have := H1.out; omega), R.1, R.2⟩
      case measure => simp [intOf]; omega
    · obtain rfl : k = 64 := by omega
      go_wp2
      go_ret
      exact bits_end hown hbel

set_option maxHeartbeats 800000 in
theorem word_any (g off cap n : Nat) (l : List Int) (w : World) (hn : l.length = n) (hl : n ≤ 64) (hb : ∀ c ∈ l, 0 ≤ c ∧ c ≤ 1) (hc : ∀ j, j < n → w.cell? ⟨g, off + j, none⟩ = some (.int .i64 (l.getD j 0))) :
    Calls Try.prog 64 #[.slice (some ⟨g, off, none⟩) n cap] w fun e w' => e = .returned (.int .u64 (GrF.wordOf l)) ∧ w = w' := by
  have HB := Lib.hid hb
  have HC := Lib.hid hc
  clear hb hc
  have HN := Lib.hid hn
  clear hn
  go_enter Try.func64, Try.ntmps64
  go_wp2
  go_loop [3, 4] (fun a i => ∃ k : Nat, k ≤ n ∧ i = .int .i64 ((k : Int) - 1) ∧ a = .int .u64 (GrF.wordOf (l.drop k)))
    (fun _ i => (intOf i + 1).toNat)
  case atStart => exact ⟨n, by omega, rfl, by rw [List.drop_of_length_le (by have := HN.out; omega)]; rfl⟩
  case round =>
    obtain ⟨k, hk, rfl, rfl⟩ := hrel
    have hn := HN.out
    match k, hk with
    | 0, _ =>
      go_wp2
      go_ret
      exact ⟨rfl, rfl⟩
    | j + 1, hk =>
      have hcell := HC.out j (by omega)
      have b := HB.out (l.getD j 0) (by rw [List.getD, List.getElem?_eq_getElem (show j < l.length by omega)]; exact List.getElem_mem _)
      have d := GrF.wordOf_drop_bd l (by omega) HB.out (j + 1) (by omega)
      have E := Lib.hid (GrF.wordOf_drop l j (by omega))
      rw [show (((j + 1 : Nat) : Int) - 1) = (j : Int) by omega]
      clear hn
      obtain ⟨b1, b2⟩ := b
      obtain ⟨d1, d2⟩ := d
      generalize GrF.wordOf (l.drop (j + 1)) = a at d1 d2 E ⊢
      generalize l.getD j 0 = c at hcell b1 b2 E
      go_wp2
      go_round
      case rel => exact ⟨j, by omega, rfl, by rw [E.out]⟩
      case measure => simp [intOf]
end Go.Proofs.Yteiokenijmaloaa
