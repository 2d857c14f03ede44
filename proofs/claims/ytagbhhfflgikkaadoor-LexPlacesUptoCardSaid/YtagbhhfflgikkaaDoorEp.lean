/-
  Layer 10, the walks: awake.
-/
import Derived.Test.YtagbhhfflgikkaaDoorEo
set_option linter.unusedSimpArgs false
set_option linter.unusedVariables false
namespace GrL
open Go GrP
def rowC (s : Tx) (f : Nat) : List (Tx × Nat) :=
  let t := (Lib.cut ((s.drop f).take (lineN s f)) [47, 47]).1
  let r := trimR (t.dropWhile blankB)
  if r = [] then [] else [(r, f + (t.takeWhile blankB).length)]
theorem rowAt_cut (s : Tx) (f : Nat) : rowAt s f = rowC s f := by
  unfold rowAt rowC
  rw [cut_remark]
def rowsC (s : Tx) : Nat → Nat → List (Tx × Nat)
  | 0, _ => []
  | k + 1, f => if f ≤ s.length then rowC s f ++ rowsC s k (f + lineN s f + 1) else []
theorem rows_cut (s : Tx) : ∀ k f, rows s k f = rowsC s k f
  | 0, _ => rfl
  | k + 1, f => by
    rw [rows_at, rowAt_cut, rows_cut s k]
    rfl
def exT : Tx := [114, 101, 103, 32, 88, 49, 32, 61, 32, 48, 120, 49, 48, 32, 47, 47, 32, 115, 111]
def exR : Tx := [114, 101, 103, 32, 88, 49, 32, 61, 32, 48, 120, 49, 48]
theorem rows_ex : rowsL exT = [(exR, 0)] := by
  rw [rowsL, rows_cut]
  kernel_rfl
theorem toks_ex : toks exR exR.length 0 = ([⟨1, [114, 101, 103], 0⟩, ⟨1, [88, 49], 4⟩, ⟨3, [61], 7⟩, ⟨2, [48, 120, 49, 48], 9⟩, ⟨4, [], 13⟩], none) := by kernel_rfl
end GrL
namespace Go.Proofs.YtagbhhfflgikkaaDoor
open Go.RowKit GrP GrL Go.Shelf

theorem tokex_any (w : World) : Calls Tryd.prog 14 #[.agg #[.string (strL exR), .int .i64 0]] w fun e w' => ∃ g cap, e = .returned (.tuple #[.slice (some ⟨g, 0, none⟩) 5 cap, .agg #[.int .i64 0, .int .i64 0]]) ∧ w'.cell? ⟨g, 12, none⟩ = some (.int .i64 4) ∧ w'.cell? ⟨g, 9, none⟩ = some (.int .i64 2) ∧ Below w.heap.size w w' := by
  refine (ltokens_any exR 0 w (by decide) (by decide) (by decide)).mono ?_
  rintro e w' ⟨⟨c, p, h, _⟩ | ⟨_, v, rfl, ho⟩, d⟩
  · rw [toks_ex] at h; cases h
  · rw [toks_ex] at ho
    obtain ⟨rfl, h0⟩ | ⟨g, cap, rfl, _, _, hc⟩ := own_open ho
    · exact absurd h0 (by decide)
    · exact ⟨g, cap, rfl, hc 12 _ rfl, hc 9 _ rfl, d⟩

set_option maxRecDepth 100000 in
set_option maxHeartbeats 3200000 in
theorem awake_any (m : Int) (w : World) (hm : w.cell? ⟨0, 0, none⟩ = some (.int .i64 m)) : Calls Tryd.prog 7 #[] w fun e w' => e = .returned (.bool true) ∧ Below w.heap.size w w' := by
  have R := Lib.hid (lrows_any exT m w (by decide) hm)
  rw [show strL exT = (⟨#[114, 101, 103, 32, 88, 49, 32, 61, 32, 48, 120, 49, 48, 32, 47, 47, 32, 115, 111]⟩ : ByteArray) from rfl, rows_ex] at R
  have T := Lib.hid (fun w => tokex_any w)
  obtain ⟨x, hx⟩ : ∃ x, x = strL exR := ⟨_, rfl⟩
  have RC := Lib.hid (show rowCells [(exR, 0)] = [.string x, .int .i64 0] by rw [hx]; rfl)
  rw [← hx] at T
  clear hx hm
  go_enter Tryd.func7, Tryd.ntmps7
  go_upto_region 2 with (go_at_call 10; refine R.out.mono ?_; rintro e w1 ⟨v, rfl, ho, d⟩)
  rw [RC.out] at ho
  obtain ⟨rfl, h0⟩ | ⟨g, cap, rfl, _, _, hc⟩ := own_open ho
  · exact absurd h0 (by decide)
  obtain ⟨x1, rfl⟩ := Wb.start d
  have c_0 := fun z : Wb x1.at => (z.bel.cell (p := ⟨g, 0, none⟩) (World.block_lt_of_cell? x1.at _ (hc 0 _ rfl))).trans (hc 0 _ rfl)
  have c_1 := fun z : Wb x1.at => (z.bel.cell (p := ⟨g, 1, none⟩) (World.block_lt_of_cell? x1.at _ (hc 1 _ rfl))).trans (hc 1 _ rfl)
  have d_0 := hc 0 _ rfl
  have d_1 := hc 1 _ rfl
  have KX := Lib.hid x1.bel
  clear ho hc d
  go_upto_region 5 with (go_at_call 14; refine (T.out _).mono ?_; rintro e w2 ⟨g2, cap2, rfl, t12, t9, d⟩; have KY := Lib.hid (KX.out.trans (d.mono KX.out.size)); clear d)
  refine to_pt ?_
  intro U hU
  have B2 := Lib.hid (show Below w2.heap.size w2 U from ((Below.refl w2.heap.size w2).alloc (Nat.le_refl _) _).trans (hU.mono (by simp)))
  have u12 := (B2.out.cell (p := ⟨g2, 12, none⟩) (World.block_lt_of_cell? w2 _ t12)).trans t12
  have u9 := (B2.out.cell (p := ⟨g2, 9, none⟩) (World.block_lt_of_cell? w2 _ t9)).trans t9
  have RR := (Row.new w2 [.int .i64 0, .int .i64 0] 25).below hU
  have p0 := RR.cell 0
  simp only [List.getElem?_cons_zero] at p0
  have KU := Lib.hid (KY.out.trans (B2.out.mono KY.out.size))
  clear RR t12 t9 hU
  go_wp2
  go_ret
  exact ⟨rfl, KU.out⟩
end Go.Proofs.YtagbhhfflgikkaaDoor
