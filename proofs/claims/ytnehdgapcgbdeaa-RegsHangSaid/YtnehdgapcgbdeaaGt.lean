/-
  Layer 5, the laws' walks: RegsChange.
-/
import Derived.Test.YtnehdgapcgbdeaaGr
import Derived.Test.YtnehdgapcgbdeaaGm
set_option linter.unusedSimpArgs false
set_option linter.unusedVariables false
namespace GrI
theorem right_bd5 {op d n m imm kind : Int} (h : right ⟨op, d, n, m, imm, kind⟩) : d ≤ 31 := h.2.2.2.1
end GrI
namespace GrG
open Go
/-- is a number among the first q? -/
def memT (L : List Int) (q : Nat) (z : Int) : Bool := decide (z ∈ L.take q)
theorem memT_zero (L : List Int) (z : Int) : memT L 0 z = false := by simp [memT]
theorem memT_succ (L : List Int) (q : Nat) (z : Int) (h : q < L.length) : memT L (q + 1) z = (memT L q z || (L.getD q 0 == z)) := by
  rw [Bool.eq_iff_iff]
  simp only [memT, List.take_succ_eq_append_getElem h, List.mem_append, List.mem_singleton, decide_eq_true_eq, Bool.or_eq_true, beq_iff_eq, List.getD_eq_getElem?_getD, List.getElem?_eq_getElem h, Option.getD_some]
  constructor
  · rintro (h | h)
    · exact .inl h
    · exact .inr h.symm
  · rintro (h | h)
    · exact .inl h
    · exact .inr h.symm
theorem memT_all (L : List Int) (z : Int) : memT L L.length z = decide (z ∈ L) := by simp [memT]
def flT (L : List Int) (n q : Nat) : Bool := (decide (0 < n) && decide ((32 : Int) ∈ L)) || memT L q 32
theorem flT_zero (L : List Int) (n : Nat) : flT L n 0 = (decide (0 < n) && decide ((32 : Int) ∈ L)) := by simp [flT, memT_zero]
theorem flT_start (L : List Int) : flT L 0 0 = false := by simp [flT, memT_zero]
theorem flT_succ (L : List Int) (n q : Nat) (h : q < L.length) : flT L n (q + 1) = (flT L n q || (L.getD q 0 == 32)) := by
  rw [flT, flT, memT_succ L q 32 h, Bool.or_assoc]
theorem flT_next (L : List Int) (n : Nat) : flT L n L.length = flT L (n + 1) 0 := by
  rw [flT, flT_zero, memT_all]
  simp
theorem flT_end (L : List Int) : flT L 31 0 = decide ((32 : Int) ∈ L) := by simp [flT_zero]
/-- what an instruction isn't told to set stays -/
theorem stays (op d n m imm kind : Int) (X Y : List Int) (z : Int) (h : z ∉ toldL (setsA op d)) (hd : d ≤ 31) : getL (doX op d n m imm kind X Y) z = getL X z := by
  unfold doX
  split
  · rename_i hb
    by_cases e : d = 31
    · subst e; simp [setL, inR]
    · have hz : z ≠ d := by
        intro hz
        apply h
        rw [hz, told_sets]
        unfold setsA
        simp only [doesB, decide_eq_true_eq] at hb
        by_cases c : op = 13
        · simp [c, no31L, stepN, e]
          split <;> simp
        · rw [if_neg c, if_pos (by omega)]
          simp [no31L, stepN, e]
      unfold getL setL
      split
      · rename_i hr
        split
        · rename_i hs
          simp only [inR, Bool.and_eq_true, decide_eq_true_eq] at hr hs
          simp only [List.getD_eq_getElem?_getD]
          rw [List.getElem?_set_ne (by omega)]
        · rfl
      · rfl
  · rfl
theorem same_stays (op d n m : Int) (X : List Int) (s : Bool) (h : (32 : Int) ∉ toldL (setsA op d)) (hd : d ≤ 31) : doS op n m X s = s := by
  unfold doS
  split
  · rename_i e
    exfalso
    apply h
    rw [told_sets, setsA, if_pos e]
    have e2 : ¬ (32 : Int) = d := by omega
    by_cases e3 : d = 31 <;> simp [no31L, stepN, e3, e2]
  · rfl
end GrG
namespace Go.Proofs.Ytnehdgapcgbdeaa
open Go.RowKit
/-- the state of RegsChange: the file, its copy, the instruction's box -/
structure LC (w wr : World) (B G : Nat) (X X2 : List Int) (s s2 : Bool) (Y : List Int) (xo : Obj) : Prop where
  f : FAt wr B X s Y
  g : FAt wr G X2 s2 Y
  xb : wr.heap[w.heap.size + 1]? = some xo
  bel : Below w.heap.size w wr
  bf : w.heap.size + 2 ≤ B
  bg : w.heap.size + 2 ≤ G
  ne : B ≠ G
section
variable {w wr w' : World} {B G : Nat} {X X2 Y : List Int} {s s2 : Bool} {xo : Obj}
theorem LC.below (h : LC w wr B G X X2 s s2 Y xo) (b : Below wr.heap.size wr w') : LC w w' B G X X2 s s2 Y xo :=
  ⟨h.f.below b, h.g.below b, (b.block _ (by have := h.f.lt; have := h.bf; omega)).trans h.xb, h.bel.trans (b.mono h.bel.size), h.bf, h.bg, h.ne⟩
theorem LC.onlyG {X3 : List Int} {s3 : Bool} (h : LC w wr B G X X2 s s2 Y xo) (o : Only G wr w') (g : FAt w' G X3 s3 Y) : LC w w' B G X X3 s s3 Y xo :=
  ⟨h.f.other o h.ne, g, (o.block _ (by have := h.f.lt; have := h.bf; omega) (by have := h.bg; omega)).trans h.xb, h.bel.trans (o.below (by have := h.bg; omega) h.bel.size), h.bf, h.bg, h.ne⟩
end

set_option maxRecDepth 100000 in
set_option maxHeartbeats 12800000 in
theorem RegsChange_walk (p : Option Addr) (len cap : Nat) (zs : List Int) (same : Bool) (y0 y1 y2 op d n m imm kind : Int) (w : World) (hz : USl w p len zs) :
    Calls Try.prog 5 #[.agg #[.slice p len cap, .bool same, .int .u64 y0, .int .u64 y1, .int .u64 y2], .agg #[.int .i64 op, .int .i64 d, .int .i64 n, .int .i64 m, .int .i64 imm, .int .i64 kind]] w fun e w' => e = .returned (.bool true) ∧ Below w.heap.size w w' := by
  cases hr : decide (GrI.right ⟨op, d, n, m, imm, kind⟩) with
  | false =>
    have PR0 := Lib.hid (pright_b op d n m imm kind false hr)
    clear hr
    have HZ := Lib.hid hz
    clear hz
    go_enter Try.func5, Try.ntmps5
    go_upto_region 1 with fail
    obtain ⟨x0, hx0⟩ : ∃ x : Wb ((w.alloc (.cells #[.slice p len cap, .bool same, .int .u64 y0, .int .u64 y1, .int .u64 y2] 33)).alloc (.cells #[.int .i64 op, .int .i64 d, .int .i64 n, .int .i64 m, .int .i64 imm, .int .i64 kind] 23)), ((w.alloc (.cells #[.slice p len cap, .bool same, .int .u64 y0, .int .u64 y1, .int .u64 y2] 33)).alloc (.cells #[.int .i64 op, .int .i64 d, .int .i64 n, .int .i64 m, .int .i64 imm, .int .i64 kind] 23)) = x.at := ⟨⟨_, Below.refl _ _⟩, rfl⟩
    have H0 := Lib.hid (show ((w.alloc (.cells #[.slice p len cap, .bool same, .int .u64 y0, .int .u64 y1, .int .u64 y2] 33)).alloc (.cells #[.int .i64 op, .int .i64 d, .int .i64 n, .int .i64 m, .int .i64 imm, .int .i64 kind] 23)).heap[w.heap.size]? = some (.cells #[.slice p len cap, .bool same, .int .u64 y0, .int .u64 y1, .int .u64 y2] 33) from heap_alloc2_old w _ _)
    have H1 := Lib.hid (show ((w.alloc (.cells #[.slice p len cap, .bool same, .int .u64 y0, .int .u64 y1, .int .u64 y2] 33)).alloc (.cells #[.int .i64 op, .int .i64 d, .int .i64 n, .int .i64 m, .int .i64 imm, .int .i64 kind] 23)).heap[w.heap.size + 1]? = some (.cells #[.int .i64 op, .int .i64 d, .int .i64 n, .int .i64 m, .int .i64 imm, .int .i64 kind] 23) from heap_alloc2_new w _ _)
    have KH := Lib.hid (fun x : Wb ((w.alloc (.cells #[.slice p len cap, .bool same, .int .u64 y0, .int .u64 y1, .int .u64 y2] 33)).alloc (.cells #[.int .i64 op, .int .i64 d, .int .i64 n, .int .i64 m, .int .i64 imm, .int .i64 kind] 23)) => And.intro ((x.bel.block w.heap.size (by simp; omega)).trans H0.out) ((x.bel.block (w.heap.size + 1) (by simp)).trans H1.out))
    have KB := Lib.hid (fun x : Wb ((w.alloc (.cells #[.slice p len cap, .bool same, .int .u64 y0, .int .u64 y1, .int .u64 y2] 33)).alloc (.cells #[.int .i64 op, .int .i64 d, .int .i64 n, .int .i64 m, .int .i64 imm, .int .i64 kind] 23)) => (((Below.refl _ w).alloc (Nat.le_refl _) (.cells #[.slice p len cap, .bool same, .int .u64 y0, .int .u64 y1, .int .u64 y2] 33)).alloc (by simp) (.cells #[.int .i64 op, .int .i64 d, .int .i64 n, .int .i64 m, .int .i64 imm, .int .i64 kind] 23)).trans (x.bel.mono (by simp; omega)))
    have a0 : ∀ x : Wb ((w.alloc (.cells #[.slice p len cap, .bool same, .int .u64 y0, .int .u64 y1, .int .u64 y2] 33)).alloc (.cells #[.int .i64 op, .int .i64 d, .int .i64 n, .int .i64 m, .int .i64 imm, .int .i64 kind] 23)), x.at.cell? ⟨w.heap.size, 0, none⟩ = some (.slice p len cap) := fun x => by rw [cell_of_row _ _ 0 _ _ _ (KH.out x).1]; rfl
    have a1 : ∀ x : Wb ((w.alloc (.cells #[.slice p len cap, .bool same, .int .u64 y0, .int .u64 y1, .int .u64 y2] 33)).alloc (.cells #[.int .i64 op, .int .i64 d, .int .i64 n, .int .i64 m, .int .i64 imm, .int .i64 kind] 23)), x.at.cell? ⟨w.heap.size, 1, none⟩ = some (.bool same) := fun x => by rw [cell_of_row _ _ 1 _ _ _ (KH.out x).1]; rfl
    have a2 : ∀ x : Wb ((w.alloc (.cells #[.slice p len cap, .bool same, .int .u64 y0, .int .u64 y1, .int .u64 y2] 33)).alloc (.cells #[.int .i64 op, .int .i64 d, .int .i64 n, .int .i64 m, .int .i64 imm, .int .i64 kind] 23)), x.at.cell? ⟨w.heap.size, 2, none⟩ = some (.int .u64 y0) := fun x => by rw [cell_of_row _ _ 2 _ _ _ (KH.out x).1]; rfl
    have a3 : ∀ x : Wb ((w.alloc (.cells #[.slice p len cap, .bool same, .int .u64 y0, .int .u64 y1, .int .u64 y2] 33)).alloc (.cells #[.int .i64 op, .int .i64 d, .int .i64 n, .int .i64 m, .int .i64 imm, .int .i64 kind] 23)), x.at.cell? ⟨w.heap.size, 3, none⟩ = some (.int .u64 y1) := fun x => by rw [cell_of_row _ _ 3 _ _ _ (KH.out x).1]; rfl
    have a4 : ∀ x : Wb ((w.alloc (.cells #[.slice p len cap, .bool same, .int .u64 y0, .int .u64 y1, .int .u64 y2] 33)).alloc (.cells #[.int .i64 op, .int .i64 d, .int .i64 n, .int .i64 m, .int .i64 imm, .int .i64 kind] 23)), x.at.cell? ⟨w.heap.size, 4, none⟩ = some (.int .u64 y2) := fun x => by rw [cell_of_row _ _ 4 _ _ _ (KH.out x).1]; rfl
    have i0 : ∀ x : Wb ((w.alloc (.cells #[.slice p len cap, .bool same, .int .u64 y0, .int .u64 y1, .int .u64 y2] 33)).alloc (.cells #[.int .i64 op, .int .i64 d, .int .i64 n, .int .i64 m, .int .i64 imm, .int .i64 kind] 23)), x.at.cell? ⟨w.heap.size + 1, 0, none⟩ = some (.int .i64 op) := fun x => by rw [cell_of_row _ _ 0 _ _ _ (KH.out x).2]; rfl
    have i1 : ∀ x : Wb ((w.alloc (.cells #[.slice p len cap, .bool same, .int .u64 y0, .int .u64 y1, .int .u64 y2] 33)).alloc (.cells #[.int .i64 op, .int .i64 d, .int .i64 n, .int .i64 m, .int .i64 imm, .int .i64 kind] 23)), x.at.cell? ⟨w.heap.size + 1, 1, none⟩ = some (.int .i64 d) := fun x => by rw [cell_of_row _ _ 1 _ _ _ (KH.out x).2]; rfl
    have i2 : ∀ x : Wb ((w.alloc (.cells #[.slice p len cap, .bool same, .int .u64 y0, .int .u64 y1, .int .u64 y2] 33)).alloc (.cells #[.int .i64 op, .int .i64 d, .int .i64 n, .int .i64 m, .int .i64 imm, .int .i64 kind] 23)), x.at.cell? ⟨w.heap.size + 1, 2, none⟩ = some (.int .i64 n) := fun x => by rw [cell_of_row _ _ 2 _ _ _ (KH.out x).2]; rfl
    have i3 : ∀ x : Wb ((w.alloc (.cells #[.slice p len cap, .bool same, .int .u64 y0, .int .u64 y1, .int .u64 y2] 33)).alloc (.cells #[.int .i64 op, .int .i64 d, .int .i64 n, .int .i64 m, .int .i64 imm, .int .i64 kind] 23)), x.at.cell? ⟨w.heap.size + 1, 3, none⟩ = some (.int .i64 m) := fun x => by rw [cell_of_row _ _ 3 _ _ _ (KH.out x).2]; rfl
    have i4 : ∀ x : Wb ((w.alloc (.cells #[.slice p len cap, .bool same, .int .u64 y0, .int .u64 y1, .int .u64 y2] 33)).alloc (.cells #[.int .i64 op, .int .i64 d, .int .i64 n, .int .i64 m, .int .i64 imm, .int .i64 kind] 23)), x.at.cell? ⟨w.heap.size + 1, 4, none⟩ = some (.int .i64 imm) := fun x => by rw [cell_of_row _ _ 4 _ _ _ (KH.out x).2]; rfl
    have i5 : ∀ x : Wb ((w.alloc (.cells #[.slice p len cap, .bool same, .int .u64 y0, .int .u64 y1, .int .u64 y2] 33)).alloc (.cells #[.int .i64 op, .int .i64 d, .int .i64 n, .int .i64 m, .int .i64 imm, .int .i64 kind] 23)), x.at.cell? ⟨w.heap.size + 1, 5, none⟩ = some (.int .i64 kind) := fun x => by rw [cell_of_row _ _ 5 _ _ _ (KH.out x).2]; rfl
    rw [hx0]
    clear hx0
    go_wp2_with fail
    refine (gawake_any _).mono ?_
    rintro e w1 ⟨rfl, b⟩
    obtain ⟨x1, rfl⟩ := Wb.next b
    clear b
    go_wp2_with fail
    refine (PR0.out _).mono ?_
    rintro e w1 ⟨rfl, b⟩
    obtain ⟨x2, rfl⟩ := Wb.next b
    clear b
    go_wp2
    go_ret
    exact ⟨rfl, KB.out _⟩
  | true =>
    have PR0 := Lib.hid (pright_b op d n m imm kind true hr)
    have hrr : GrI.right ⟨op, d, n, m, imm, kind⟩ := by simpa using hr
    have hd := (GrI.right_bd5 hrr)
    have SE0 := Lib.hid (fun w => sets_any op d n m imm kind w (GrI.ops (x := ⟨op, d, n, m, imm, kind⟩) hrr))
    obtain ⟨R, hR⟩ : ∃ R, R = GrG.regsOf zs := ⟨_, rfl⟩
    have RL := Lib.hid (show R.length = 31 by rw [hR]; exact GrG.regsOf_len zs)
    have FI := Lib.hid (fun w h => hR ▸ file_any p len cap zs same y0 y1 y2 w h)
    obtain ⟨K, hK⟩ : ∃ K, K = GrG.fcells R same [y0, y1, y2] := ⟨_, rfl⟩
    have KE := Lib.hid hK
    have z1 := Lib.hid (show (Try.prog.info? 36).map (·.size) = some K.toArray.size by rw [sizeF, hK]; simp [GrG.fcells_len RL.out])
    have z2 := Lib.hid (show (#[.int .u64 0, .int .u64 0, .int .u64 0, .int .u64 0, .int .u64 0, .int .u64 0, .int .u64 0, .int .u64 0, .int .u64 0, .int .u64 0, .int .u64 0, .int .u64 0, .int .u64 0, .int .u64 0, .int .u64 0, .int .u64 0, .int .u64 0, .int .u64 0, .int .u64 0, .int .u64 0, .int .u64 0, .int .u64 0, .int .u64 0, .int .u64 0, .int .u64 0, .int .u64 0, .int .u64 0, .int .u64 0, .int .u64 0, .int .u64 0, .int .u64 0, .bool false, .int .u64 0, .int .u64 0, .int .u64 0] : Array Value).size = K.toArray.size by rw [hK]; simp [GrG.fcells_len RL.out])
    have z3 := Lib.hid (show K.toArray.all (·.oneCell') = true by rw [hK]; exact GrG.fcells_one _ _ _)
    clear hR hK
    have DO0 := Lib.hid (fun G (w : World) h => do_any G R [y0, y1, y2] same ⟨op, d, n, m, imm, kind⟩ w h hrr)
    simp only at DO0
    clear hr hrr
    have HZ := Lib.hid hz
    clear hz
    go_enter Try.func5, Try.ntmps5
    go_upto_region 1 with fail
    obtain ⟨x0, hx0⟩ : ∃ x : Wb ((w.alloc (.cells #[.slice p len cap, .bool same, .int .u64 y0, .int .u64 y1, .int .u64 y2] 33)).alloc (.cells #[.int .i64 op, .int .i64 d, .int .i64 n, .int .i64 m, .int .i64 imm, .int .i64 kind] 23)), ((w.alloc (.cells #[.slice p len cap, .bool same, .int .u64 y0, .int .u64 y1, .int .u64 y2] 33)).alloc (.cells #[.int .i64 op, .int .i64 d, .int .i64 n, .int .i64 m, .int .i64 imm, .int .i64 kind] 23)) = x.at := ⟨⟨_, Below.refl _ _⟩, rfl⟩
    have H0 := Lib.hid (show ((w.alloc (.cells #[.slice p len cap, .bool same, .int .u64 y0, .int .u64 y1, .int .u64 y2] 33)).alloc (.cells #[.int .i64 op, .int .i64 d, .int .i64 n, .int .i64 m, .int .i64 imm, .int .i64 kind] 23)).heap[w.heap.size]? = some (.cells #[.slice p len cap, .bool same, .int .u64 y0, .int .u64 y1, .int .u64 y2] 33) from heap_alloc2_old w _ _)
    have H1 := Lib.hid (show ((w.alloc (.cells #[.slice p len cap, .bool same, .int .u64 y0, .int .u64 y1, .int .u64 y2] 33)).alloc (.cells #[.int .i64 op, .int .i64 d, .int .i64 n, .int .i64 m, .int .i64 imm, .int .i64 kind] 23)).heap[w.heap.size + 1]? = some (.cells #[.int .i64 op, .int .i64 d, .int .i64 n, .int .i64 m, .int .i64 imm, .int .i64 kind] 23) from heap_alloc2_new w _ _)
    have KH := Lib.hid (fun x : Wb ((w.alloc (.cells #[.slice p len cap, .bool same, .int .u64 y0, .int .u64 y1, .int .u64 y2] 33)).alloc (.cells #[.int .i64 op, .int .i64 d, .int .i64 n, .int .i64 m, .int .i64 imm, .int .i64 kind] 23)) => And.intro ((x.bel.block w.heap.size (by simp; omega)).trans H0.out) ((x.bel.block (w.heap.size + 1) (by simp)).trans H1.out))
    have KB := Lib.hid (fun x : Wb ((w.alloc (.cells #[.slice p len cap, .bool same, .int .u64 y0, .int .u64 y1, .int .u64 y2] 33)).alloc (.cells #[.int .i64 op, .int .i64 d, .int .i64 n, .int .i64 m, .int .i64 imm, .int .i64 kind] 23)) => (((Below.refl _ w).alloc (Nat.le_refl _) (.cells #[.slice p len cap, .bool same, .int .u64 y0, .int .u64 y1, .int .u64 y2] 33)).alloc (by simp) (.cells #[.int .i64 op, .int .i64 d, .int .i64 n, .int .i64 m, .int .i64 imm, .int .i64 kind] 23)).trans (x.bel.mono (by simp; omega)))
    have a0 : ∀ x : Wb ((w.alloc (.cells #[.slice p len cap, .bool same, .int .u64 y0, .int .u64 y1, .int .u64 y2] 33)).alloc (.cells #[.int .i64 op, .int .i64 d, .int .i64 n, .int .i64 m, .int .i64 imm, .int .i64 kind] 23)), x.at.cell? ⟨w.heap.size, 0, none⟩ = some (.slice p len cap) := fun x => by rw [cell_of_row _ _ 0 _ _ _ (KH.out x).1]; rfl
    have a1 : ∀ x : Wb ((w.alloc (.cells #[.slice p len cap, .bool same, .int .u64 y0, .int .u64 y1, .int .u64 y2] 33)).alloc (.cells #[.int .i64 op, .int .i64 d, .int .i64 n, .int .i64 m, .int .i64 imm, .int .i64 kind] 23)), x.at.cell? ⟨w.heap.size, 1, none⟩ = some (.bool same) := fun x => by rw [cell_of_row _ _ 1 _ _ _ (KH.out x).1]; rfl
    have a2 : ∀ x : Wb ((w.alloc (.cells #[.slice p len cap, .bool same, .int .u64 y0, .int .u64 y1, .int .u64 y2] 33)).alloc (.cells #[.int .i64 op, .int .i64 d, .int .i64 n, .int .i64 m, .int .i64 imm, .int .i64 kind] 23)), x.at.cell? ⟨w.heap.size, 2, none⟩ = some (.int .u64 y0) := fun x => by rw [cell_of_row _ _ 2 _ _ _ (KH.out x).1]; rfl
    have a3 : ∀ x : Wb ((w.alloc (.cells #[.slice p len cap, .bool same, .int .u64 y0, .int .u64 y1, .int .u64 y2] 33)).alloc (.cells #[.int .i64 op, .int .i64 d, .int .i64 n, .int .i64 m, .int .i64 imm, .int .i64 kind] 23)), x.at.cell? ⟨w.heap.size, 3, none⟩ = some (.int .u64 y1) := fun x => by rw [cell_of_row _ _ 3 _ _ _ (KH.out x).1]; rfl
    have a4 : ∀ x : Wb ((w.alloc (.cells #[.slice p len cap, .bool same, .int .u64 y0, .int .u64 y1, .int .u64 y2] 33)).alloc (.cells #[.int .i64 op, .int .i64 d, .int .i64 n, .int .i64 m, .int .i64 imm, .int .i64 kind] 23)), x.at.cell? ⟨w.heap.size, 4, none⟩ = some (.int .u64 y2) := fun x => by rw [cell_of_row _ _ 4 _ _ _ (KH.out x).1]; rfl
    have i0 : ∀ x : Wb ((w.alloc (.cells #[.slice p len cap, .bool same, .int .u64 y0, .int .u64 y1, .int .u64 y2] 33)).alloc (.cells #[.int .i64 op, .int .i64 d, .int .i64 n, .int .i64 m, .int .i64 imm, .int .i64 kind] 23)), x.at.cell? ⟨w.heap.size + 1, 0, none⟩ = some (.int .i64 op) := fun x => by rw [cell_of_row _ _ 0 _ _ _ (KH.out x).2]; rfl
    have i1 : ∀ x : Wb ((w.alloc (.cells #[.slice p len cap, .bool same, .int .u64 y0, .int .u64 y1, .int .u64 y2] 33)).alloc (.cells #[.int .i64 op, .int .i64 d, .int .i64 n, .int .i64 m, .int .i64 imm, .int .i64 kind] 23)), x.at.cell? ⟨w.heap.size + 1, 1, none⟩ = some (.int .i64 d) := fun x => by rw [cell_of_row _ _ 1 _ _ _ (KH.out x).2]; rfl
    have i2 : ∀ x : Wb ((w.alloc (.cells #[.slice p len cap, .bool same, .int .u64 y0, .int .u64 y1, .int .u64 y2] 33)).alloc (.cells #[.int .i64 op, .int .i64 d, .int .i64 n, .int .i64 m, .int .i64 imm, .int .i64 kind] 23)), x.at.cell? ⟨w.heap.size + 1, 2, none⟩ = some (.int .i64 n) := fun x => by rw [cell_of_row _ _ 2 _ _ _ (KH.out x).2]; rfl
    have i3 : ∀ x : Wb ((w.alloc (.cells #[.slice p len cap, .bool same, .int .u64 y0, .int .u64 y1, .int .u64 y2] 33)).alloc (.cells #[.int .i64 op, .int .i64 d, .int .i64 n, .int .i64 m, .int .i64 imm, .int .i64 kind] 23)), x.at.cell? ⟨w.heap.size + 1, 3, none⟩ = some (.int .i64 m) := fun x => by rw [cell_of_row _ _ 3 _ _ _ (KH.out x).2]; rfl
    have i4 : ∀ x : Wb ((w.alloc (.cells #[.slice p len cap, .bool same, .int .u64 y0, .int .u64 y1, .int .u64 y2] 33)).alloc (.cells #[.int .i64 op, .int .i64 d, .int .i64 n, .int .i64 m, .int .i64 imm, .int .i64 kind] 23)), x.at.cell? ⟨w.heap.size + 1, 4, none⟩ = some (.int .i64 imm) := fun x => by rw [cell_of_row _ _ 4 _ _ _ (KH.out x).2]; rfl
    have i5 : ∀ x : Wb ((w.alloc (.cells #[.slice p len cap, .bool same, .int .u64 y0, .int .u64 y1, .int .u64 y2] 33)).alloc (.cells #[.int .i64 op, .int .i64 d, .int .i64 n, .int .i64 m, .int .i64 imm, .int .i64 kind] 23)), x.at.cell? ⟨w.heap.size + 1, 5, none⟩ = some (.int .i64 kind) := fun x => by rw [cell_of_row _ _ 5 _ _ _ (KH.out x).2]; rfl
    rw [hx0]
    clear hx0
    go_wp2_with fail
    refine (gawake_any _).mono ?_
    rintro e w1 ⟨rfl, b⟩
    obtain ⟨x1, rfl⟩ := Wb.next b
    clear b
    go_wp2_with fail
    refine (PR0.out _).mono ?_
    rintro e w1 ⟨rfl, b⟩
    obtain ⟨x2, rfl⟩ := Wb.next b
    clear b
    go_wp2_with fail
    refine (FI.out x2.at (HZ.out.keep (KB.out x2))).mono ?_
    rintro e w2 ⟨v, sb, rfl, _, b⟩
    have B2 := Lib.hid ((KB.out x2).trans (b.mono (KB.out x2).size))
    have X2e := Lib.hid (show w2.heap[w.heap.size + 1]? = some (.cells #[.int .i64 op, .int .i64 d, .int .i64 n, .int .i64 m, .int .i64 imm, .int .i64 kind] 23) from (b.block _ (by have := x2.bel.size; simp at this; omega)).trans (KH.out x2).2)
    have L2 := Lib.hid (show w.heap.size + 2 ≤ w2.heap.size by have := x2.bel.size; have := b.size; simp at *; omega)
    clear b a0 a1 a2 a3 a4 i0 i1 i2 i3 i4 i5
    rw [← KE.out]
    obtain ⟨W3, hW3⟩ : ∃ W, W = ((w2.alloc (.cells #[.int .u64 0, .int .u64 0, .int .u64 0, .int .u64 0, .int .u64 0, .int .u64 0, .int .u64 0, .int .u64 0, .int .u64 0, .int .u64 0, .int .u64 0, .int .u64 0, .int .u64 0, .int .u64 0, .int .u64 0, .int .u64 0, .int .u64 0, .int .u64 0, .int .u64 0, .int .u64 0, .int .u64 0, .int .u64 0, .int .u64 0, .int .u64 0, .int .u64 0, .int .u64 0, .int .u64 0, .int .u64 0, .int .u64 0, .int .u64 0, .int .u64 0, .bool false, .int .u64 0, .int .u64 0, .int .u64 0] 36)).alloc (.cells #[.slice none 0 0, .bool false, .slice none 0 0] 38)).setRow w2.heap.size K.toArray := ⟨_, rfl⟩
    have F3 := Lib.hid (show W3.heap[w2.heap.size]? = some (.cells K.toArray 36 (0, 0)) by rw [hW3]; exact setRow_heap _ _ _ _ _ _ (heap_alloc2_old w2 _ _))
    have P3 := Lib.hid (show W3.heap[w2.heap.size + 1]? = some (.cells #[.slice none 0 0, .bool false, .slice none 0 0] 38 (0, 0)) by rw [hW3, setRow_other _ _ _ _ (by omega)]; exact heap_alloc2_new w2 _ _)
    have B3 := Lib.hid (show Below w2.heap.size w2 W3 by rw [hW3]; exact below_setRow (((Below.refl _ _).alloc (Nat.le_refl _) _).alloc (by simp) _) (Nat.le_refl _) _)
    have S3 := Lib.hid (show W3.heap.size = w2.heap.size + 2 by rw [hW3]; simp)
    have HW3 := Lib.hid hW3
    have e0 := cell_of_row W3 _ 0 _ _ _ P3.out
    have e1 := cell_of_row W3 _ 1 _ _ _ P3.out
    have e2 := cell_of_row W3 _ 2 _ _ _ P3.out
    have q0 := frozen_of_row W3 _ 0 _ _ P3.out
    have q1 := frozen_of_row W3 _ 1 _ _ P3.out
    have q2 := frozen_of_row W3 _ 2 _ _ P3.out
    simp only [List.getElem?_toArray, List.getElem?_cons_zero, List.getElem?_cons_succ] at e0 e1 e2
    clear hW3
    obtain ⟨g, cap2, rfl⟩ : ∃ g cap2, v = .slice (some ⟨g, 0, none⟩) 31 cap2 := by
      rename_i hu
      obtain ⟨_, g, cap2, e, _⟩ := hu
      exact ⟨g, cap2, e⟩
    go_upto_region 6 with (with_reducible refine wpList_store_row rfl 36 (.tmp 5) (.tmp 21) rfl w2.heap.size K.toArray rfl rfl 36 #[.int .u64 0, .int .u64 0, .int .u64 0, .int .u64 0, .int .u64 0, .int .u64 0, .int .u64 0, .int .u64 0, .int .u64 0, .int .u64 0, .int .u64 0, .int .u64 0, .int .u64 0, .int .u64 0, .int .u64 0, .int .u64 0, .int .u64 0, .int .u64 0, .int .u64 0, .int .u64 0, .int .u64 0, .int .u64 0, .int .u64 0, .int .u64 0, .int .u64 0, .int .u64 0, .int .u64 0, .int .u64 0, .int .u64 0, .int .u64 0, .int .u64 0, .bool false, .int .u64 0, .int .u64 0, .int .u64 0] (heap_alloc2_old w2 _ _) z1.out z2.out z3.out ?_; rw [← HW3.out])
    obtain ⟨W4, hW4⟩ : ∃ W, W = ((W3.setCell ⟨w2.heap.size + 1, 0, none⟩ (.slice (some ⟨g, 0, none⟩) 31 cap2)).setCell ⟨w2.heap.size + 1, 1, none⟩ (.bool same)).setCell ⟨w2.heap.size + 1, 2, none⟩ (.slice (some ⟨sb, 2, none⟩) 3 3) := ⟨_, rfl⟩
    rw [← hW4]
    have O4 := Lib.hid (show Only (w2.heap.size + 1) W3 W4 by rw [hW4]; exact ((Only.set _ _).trans (Only.set _ _)).trans (Only.set _ _))
    have F4 := Lib.hid (show W4.heap[w2.heap.size]? = some (.cells K.toArray 36 (0, 0)) from (O4.out.block _ (by have := S3.out; omega) (by omega)).trans F3.out)
    have X4 := Lib.hid (show W4.heap[w.heap.size + 1]? = some (.cells #[.int .i64 op, .int .i64 d, .int .i64 n, .int .i64 m, .int .i64 imm, .int .i64 kind] 23) from (O4.out.block _ (by have := S3.out; have := L2.out; omega) (by have := L2.out; omega)).trans ((B3.out.block _ (by have := L2.out; omega)).trans X2e.out))
    have B4 := Lib.hid (show Below w.heap.size w W4 from B2.out.trans ((B3.out.trans (O4.out.below (by omega) (by have := S3.out; omega))).mono B2.out.size))
    have Z4 := Lib.hid (show w2.heap.size + 2 ≤ W4.heap.size by have := O4.out.size; have := S3.out; omega)
    clear hW4 e0 e1 e2 q0 q1 q2
    obtain ⟨B, hB⟩ : ∃ B, B = w2.heap.size := ⟨_, rfl⟩
    rw [← hB] at F4 Z4 L2 ⊢
    clear hB O4 F3 P3 B3 S3 HW3 B2 X2e
    go_upto_region 7 with (first | (with_reducible refine wpList_load_row rfl 36 (.tmp 5) rfl B rfl 36 K.toArray (0, 0) _ F4.out Try.underlying36 rfl z1.out ?_) | (with_reducible refine wpList_store_row rfl 36 (.tmp 7) (.tmp 23) rfl W4.heap.size K.toArray rfl rfl 36 #[.int .u64 0, .int .u64 0, .int .u64 0, .int .u64 0, .int .u64 0, .int .u64 0, .int .u64 0, .int .u64 0, .int .u64 0, .int .u64 0, .int .u64 0, .int .u64 0, .int .u64 0, .int .u64 0, .int .u64 0, .int .u64 0, .int .u64 0, .int .u64 0, .int .u64 0, .int .u64 0, .int .u64 0, .int .u64 0, .int .u64 0, .int .u64 0, .int .u64 0, .int .u64 0, .int .u64 0, .int .u64 0, .int .u64 0, .int .u64 0, .int .u64 0, .bool false, .int .u64 0, .int .u64 0, .int .u64 0] (heap_alloc_new W4 _) z1.out z2.out z3.out ?_))
    obtain ⟨W5, hW5⟩ : ∃ W, W = (W4.alloc (.cells #[.int .u64 0, .int .u64 0, .int .u64 0, .int .u64 0, .int .u64 0, .int .u64 0, .int .u64 0, .int .u64 0, .int .u64 0, .int .u64 0, .int .u64 0, .int .u64 0, .int .u64 0, .int .u64 0, .int .u64 0, .int .u64 0, .int .u64 0, .int .u64 0, .int .u64 0, .int .u64 0, .int .u64 0, .int .u64 0, .int .u64 0, .int .u64 0, .int .u64 0, .int .u64 0, .int .u64 0, .int .u64 0, .int .u64 0, .int .u64 0, .int .u64 0, .bool false, .int .u64 0, .int .u64 0, .int .u64 0] 36)).setRow W4.heap.size K.toArray := ⟨_, rfl⟩
    rw [← hW5]
    have B5 := Lib.hid (show Below W4.heap.size W4 W5 by rw [hW5]; exact below_setRow ((Below.refl _ _).alloc (Nat.le_refl _) _) (Nat.le_refl _) _)
    have S5 := Lib.hid (show LC w W5 B W4.heap.size R R same same [y0, y1, y2] (.cells #[.int .i64 op, .int .i64 d, .int .i64 n, .int .i64 m, .int .i64 imm, .int .i64 kind] 23) from
      ⟨⟨(B5.out.block _ (by have := Z4.out; omega)).trans (by rw [← KE.out]; exact F4.out), RL.out, rfl⟩, ⟨by rw [hW5, ← KE.out]; exact heap_setRow_new _ _ _ _, RL.out, rfl⟩,
       (B5.out.block _ (by have := Z4.out; have := L2.out; omega)).trans X4.out, B4.out.trans (B5.out.mono B4.out.size), L2.out, by have := Z4.out; have := L2.out; omega, by have := Z4.out; omega⟩)
    clear hW5
    obtain ⟨G, hG⟩ : ∃ G, G = W4.heap.size := ⟨_, rfl⟩
    rw [← hG] at S5 ⊢
    clear hG B5 B4 X4 F4 Z4
    have c0 : W5.cell? ⟨w.heap.size + 1, 0, none⟩ = some (.int .i64 op) := by rw [cell_of_row _ _ 0 _ _ _ S5.out.xb]; rfl
    have c1 : W5.cell? ⟨w.heap.size + 1, 1, none⟩ = some (.int .i64 d) := by rw [cell_of_row _ _ 1 _ _ _ S5.out.xb]; rfl
    have c2 : W5.cell? ⟨w.heap.size + 1, 2, none⟩ = some (.int .i64 n) := by rw [cell_of_row _ _ 2 _ _ _ S5.out.xb]; rfl
    have c3 : W5.cell? ⟨w.heap.size + 1, 3, none⟩ = some (.int .i64 m) := by rw [cell_of_row _ _ 3 _ _ _ S5.out.xb]; rfl
    have c4 : W5.cell? ⟨w.heap.size + 1, 4, none⟩ = some (.int .i64 imm) := by rw [cell_of_row _ _ 4 _ _ _ S5.out.xb]; rfl
    have c5 : W5.cell? ⟨w.heap.size + 1, 5, none⟩ = some (.int .i64 kind) := by rw [cell_of_row _ _ 5 _ _ _ S5.out.xb]; rfl
    go_wp2_with fail
    refine (DO0.out G W5 S5.out.g).mono ?_
    rintro e w6 ⟨rfl, o6, f6⟩
    have S6 := Lib.hid (S5.out.onlyG o6 f6)
    clear o6 f6 c0 c1 c2 c3 c4 c5
    have c0 : w6.cell? ⟨w.heap.size + 1, 0, none⟩ = some (.int .i64 op) := by rw [cell_of_row _ _ 0 _ _ _ S6.out.xb]; rfl
    have c1 : w6.cell? ⟨w.heap.size + 1, 1, none⟩ = some (.int .i64 d) := by rw [cell_of_row _ _ 1 _ _ _ S6.out.xb]; rfl
    have c2 : w6.cell? ⟨w.heap.size + 1, 2, none⟩ = some (.int .i64 n) := by rw [cell_of_row _ _ 2 _ _ _ S6.out.xb]; rfl
    have c3 : w6.cell? ⟨w.heap.size + 1, 3, none⟩ = some (.int .i64 m) := by rw [cell_of_row _ _ 3 _ _ _ S6.out.xb]; rfl
    have c4 : w6.cell? ⟨w.heap.size + 1, 4, none⟩ = some (.int .i64 imm) := by rw [cell_of_row _ _ 4 _ _ _ S6.out.xb]; rfl
    have c5 : w6.cell? ⟨w.heap.size + 1, 5, none⟩ = some (.int .i64 kind) := by rw [cell_of_row _ _ 5 _ _ _ S6.out.xb]; rfl
    go_wp2_with fail
    refine (SE0.out w6).mono ?_
    rintro e w7 ⟨v7, rfl, hv7, b7⟩
    have S7 := Lib.hid (S6.out.below b7)
    have V7 := Lib.hid hv7
    clear b7 hv7 c0 c1 c2 c3 c4 c5
    have HST := Lib.hid (fun z h => GrG.stays op d n m imm kind R [y0, y1, y2] z h hd)
    have HSS := Lib.hid (fun h => GrG.same_stays op d n m R same h hd)
    have LL := Lib.hid (GrG.toldL_len (GrG.setsA op d) (GrG.setsA op d).length)
    have LS2 := Lib.hid (GrG.len_sets op d)
    rw [List.take_of_length_le (Nat.le_refl _)] at LL
    obtain ⟨L, hL⟩ : ∃ L, L = GrG.toldL (GrG.setsA op d) := ⟨_, rfl⟩
    rw [← hL] at V7 HST HSS LL
    have Ll := Lib.hid (show L.length ≤ 2 by have := LL.out; have := LS2.out; omega)
    obtain ⟨X2, hX2⟩ : ∃ X2, X2 = GrG.doX op d n m imm kind R [y0, y1, y2] := ⟨_, rfl⟩
    obtain ⟨s2, hs2⟩ : ∃ s2, s2 = GrG.doS op n m R same := ⟨_, rfl⟩
    rw [← hX2] at S7 HST
    rw [← hs2] at S7 HSS
    clear hL hX2 hs2
    rcases V7.out with ⟨rfl, hLn⟩ | ⟨gl, capl, rfl, hal⟩
    · have HLe := Lib.hid (show (0 : Nat) = L.length by rw [hLn]; rfl)
      clear hLn
      go_wp2_with fail
      go_loop [9, 10] (fun fl i => ∃ k : Nat, k ≤ 31 ∧ i = .int .i64 k ∧ fl = .bool (GrG.flT L k 0)) (fun _ i => 31 - (intOf i).toNat)
      case atStart => exact ⟨0, by omega, rfl, by rw [GrG.flT_start]⟩
      case round =>
        obtain ⟨k, hk, rfl, rfl⟩ := hrel
        by_cases ck : k < 31
        · go_wp2_with fail
          go_loop [9, 11, 12] (fun fl se i => ∃ q : Nat, q ≤ 0 ∧ i = .int .i64 q ∧ se = .bool (GrG.memT L q k) ∧ fl = .bool (GrG.flT L k q)) (fun _ _ i => 0 - (intOf i).toNat)
          case atStart => exact ⟨0, by omega, rfl, by rw [GrG.memT_zero], rfl⟩
          case round =>
            obtain ⟨q, hq, rfl, rfl, rfl⟩ := hrel
            by_cases cq : q < 0
            · omega
            · obtain rfl : 0 = q := by omega
              have HM := Lib.hid (show GrG.memT L 0 k = decide ((k : Int) ∈ L) by rw [HLe.out]; exact GrG.memT_all L k)
              have HF := Lib.hid (show GrG.flT L k 0 = GrG.flT L (k + 1) 0 by have := GrG.flT_next L k; rw [← HLe.out] at this; exact this)
              cases hs : GrG.memT L 0 k with
              | true =>
                go_wp2
                go_round
                case rel => exact ⟨k + 1, by omega, by go_num, by rw [HF.out]⟩
                case measure => simp [intOf]; omega
              | false =>
                have G1 := Lib.hid (get_any G X2 [y0, y1, y2] s2 k w7 S7.out.g)
                have G2 := Lib.hid (get_any B R [y0, y1, y2] same k w7 S7.out.f)
                rw [HST.out k (by rw [HM.out] at hs; simpa using hs)] at G1
                obtain ⟨z, hz⟩ : ∃ z, z = GrG.getL R k := ⟨_, rfl⟩
                rw [← hz] at G1 G2
                clear hz
                go_wp2_with fail
                refine G1.out.mono ?_
                rintro e w8 ⟨rfl, rfl⟩
                go_wp2_with fail
                refine G2.out.mono ?_
                rintro e w8 ⟨rfl, rfl⟩
                go_wp2
                go_round
                case rel => exact ⟨k + 1, by omega, by go_num, by rw [HF.out]⟩
                case measure => simp [intOf]; omega
        · obtain rfl : 31 = k := by omega
          have HF := Lib.hid (GrG.flT_end L)
          have r1 := S7.out.f.same
          have r2 := S7.out.g.same
          cases hf : GrG.flT L 31 0 with
          | true =>
            go_wp2
            go_ret
            exact ⟨rfl, S7.out.bel⟩
          | false =>
            have es : s2 = same := HSS.out (by rw [HF.out] at hf; simpa using hf)
            subst es
            go_wp2
            go_ret
            exact ⟨rfl, S7.out.bel⟩
    · have HLA := Lib.hid hal
      clear hal
      obtain ⟨Q, hQ⟩ : ∃ Q, Q = L.length := ⟨_, rfl⟩
      have HLe := Lib.hid hQ
      rw [← hQ]
      have Q2 : Q ≤ 2 := by rw [hQ]; exact Ll.out
      clear hQ
      go_wp2_with fail
      go_loop [9, 10] (fun fl i => ∃ k : Nat, k ≤ 31 ∧ i = .int .i64 k ∧ fl = .bool (GrG.flT L k 0)) (fun _ i => 31 - (intOf i).toNat)
      case atStart => exact ⟨0, by omega, rfl, by rw [GrG.flT_start]⟩
      case round =>
        obtain ⟨k, hk, rfl, rfl⟩ := hrel
        by_cases ck : k < 31
        · go_wp2_with fail
          go_loop [9, 11, 12] (fun fl se i => ∃ q : Nat, q ≤ Q ∧ i = .int .i64 q ∧ se = .bool (GrG.memT L q k) ∧ fl = .bool (GrG.flT L k q)) (fun _ _ i => Q - (intOf i).toNat)
          case atStart => exact ⟨0, by omega, rfl, by rw [GrG.memT_zero], rfl⟩
          case round =>
            obtain ⟨q, hq, rfl, rfl, rfl⟩ := hrel
            by_cases cq : q < Q
            · have hc := HLA.out q (by rw [← HLe.out]; exact cq)
              have HMS := Lib.hid (GrG.memT_succ L q k (by rw [← HLe.out]; exact cq))
              have HFS := Lib.hid (GrG.flT_succ L k q (by rw [← HLe.out]; exact cq))
              obtain ⟨y, hy⟩ : ∃ y, y = L.getD q 0 := ⟨_, rfl⟩
              rw [← hy] at hc HMS HFS
              clear hy
              have l0 : (0 : Int) ≤ (q : Int) := by omega
              have l1 : (q : Int) < (Q : Int) := by omega
              cases hs : GrG.memT L q k with
              | true =>
                cases hf : GrG.flT L k q with
                | true =>
                  have E1 := Lib.hid (show GrG.memT L (q + 1) k = true by rw [HMS.out, hs]; rfl)
                  have E2 := Lib.hid (show GrG.flT L k (q + 1) = true by rw [HFS.out, hf]; rfl)
                  go_wp2
                  go_round
                  case rel => exact ⟨q + 1, by omega, by go_num, by rw [E1.out], by rw [E2.out]⟩
                  case measure => simp [intOf]; omega
                | false =>
                  have E1 := Lib.hid (show GrG.memT L (q + 1) k = true by rw [HMS.out, hs]; rfl)
                  have E2 := Lib.hid (show GrG.flT L k (q + 1) = (y == 32) by rw [HFS.out, hf]; rfl)
                  go_wp2
                  go_round
                  case rel => exact ⟨q + 1, by omega, by go_num, by rw [E1.out], by rw [E2.out]⟩
                  case measure => simp [intOf]; omega
              | false =>
                cases hf : GrG.flT L k q with
                | true =>
                  have E1 := Lib.hid (show GrG.memT L (q + 1) k = (y == (k : Int)) by rw [HMS.out, hs]; rfl)
                  have E2 := Lib.hid (show GrG.flT L k (q + 1) = true by rw [HFS.out, hf]; rfl)
                  go_wp2
                  go_round
                  case rel => exact ⟨q + 1, by omega, by go_num, by rw [E1.out], by rw [E2.out]⟩
                  case measure => simp [intOf]; omega
                | false =>
                  have E1 := Lib.hid (show GrG.memT L (q + 1) k = (y == (k : Int)) by rw [HMS.out, hs]; rfl)
                  have E2 := Lib.hid (show GrG.flT L k (q + 1) = (y == 32) by rw [HFS.out, hf]; rfl)
                  go_wp2
                  go_round
                  case rel => exact ⟨q + 1, by omega, by go_num, by rw [E1.out], by rw [E2.out]⟩
                  case measure => simp [intOf]; omega
            · obtain rfl : Q = q := by omega
              have HM := Lib.hid (show GrG.memT L Q k = decide ((k : Int) ∈ L) by rw [HLe.out]; exact GrG.memT_all L k)
              have HF := Lib.hid (show GrG.flT L k Q = GrG.flT L (k + 1) 0 by have := GrG.flT_next L k; rw [← HLe.out] at this; exact this)
              cases hs : GrG.memT L Q k with
              | true =>
                go_wp2
                go_round
                case rel => exact ⟨k + 1, by omega, by go_num, by rw [HF.out]⟩
                case measure => simp [intOf]; omega
              | false =>
                have G1 := Lib.hid (get_any G X2 [y0, y1, y2] s2 k w7 S7.out.g)
                have G2 := Lib.hid (get_any B R [y0, y1, y2] same k w7 S7.out.f)
                rw [HST.out k (by rw [HM.out] at hs; simpa using hs)] at G1
                obtain ⟨z, hz⟩ : ∃ z, z = GrG.getL R k := ⟨_, rfl⟩
                rw [← hz] at G1 G2
                clear hz
                go_wp2_with fail
                refine G1.out.mono ?_
                rintro e w8 ⟨rfl, rfl⟩
                go_wp2_with fail
                refine G2.out.mono ?_
                rintro e w8 ⟨rfl, rfl⟩
                go_wp2
                go_round
                case rel => exact ⟨k + 1, by omega, by go_num, by rw [HF.out]⟩
                case measure => simp [intOf]; omega
        · obtain rfl : 31 = k := by omega
          have HF := Lib.hid (GrG.flT_end L)
          have r1 := S7.out.f.same
          have r2 := S7.out.g.same
          cases hf : GrG.flT L 31 0 with
          | true =>
            go_wp2
            go_ret
            exact ⟨rfl, S7.out.bel⟩
          | false =>
            have es : s2 = same := HSS.out (by rw [HF.out] at hf; simpa using hf)
            subst es
            go_wp2
            go_ret
            exact ⟨rfl, S7.out.bel⟩
end Go.Proofs.Ytnehdgapcgbdeaa
