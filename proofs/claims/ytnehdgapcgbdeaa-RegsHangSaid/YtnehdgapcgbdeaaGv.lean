/-
  Layer 5, the laws' walks: RegsHang.
-/
import Derived.Test.YtnehdgapcgbdeaaGu
import Derived.Test.YtnehdgapcgbdeaaGt
set_option linter.unusedSimpArgs false
set_option linter.unusedVariables false
namespace GrI
theorem right_bds {op d n m imm kind : Int} (h : right ⟨op, d, n, m, imm, kind⟩) : 0 ≤ d ∧ d ≤ 31 ∧ n ≤ 31 ∧ m ≤ 31 := ⟨h.2.2.1, h.2.2.2.1, h.2.2.2.2.2.1, h.2.2.2.2.2.2.2.1⟩
end GrI
namespace Go.Proofs.Ytnehdgapcgbdeaa
open Go.RowKit
theorem box3 (w : World) (o1 o2 o3 : Obj) : (((w.alloc o1).alloc o2).alloc o3).heap[w.heap.size]? = some o1 ∧ (((w.alloc o1).alloc o2).alloc o3).heap[w.heap.size + 1]? = some o2 ∧ (((w.alloc o1).alloc o2).alloc o3).heap[w.heap.size + 2]? = some o3 := by
  have pn : ∀ (w : World) (o : Obj), (w.alloc o).heap[w.heap.size]? = some o := fun w o => by
    show (w.heap.push o)[w.heap.size]? = some o
    rw [Array.getElem?_push, if_pos rfl]
  have po : ∀ (w : World) (o : Obj) (k : Nat), k < w.heap.size → (w.alloc o).heap[k]? = w.heap[k]? := fun w o k h => by
    show (w.heap.push o)[k]? = w.heap[k]?
    rw [Array.getElem?_push, if_neg (by omega)]
  have n1 : (w.alloc o1).heap.size = w.heap.size + 1 := by simp
  have n2 : ((w.alloc o1).alloc o2).heap.size = w.heap.size + 2 := by simp
  refine ⟨?_, ?_, ?_⟩
  · exact (po _ o3 _ (by omega)).trans ((po _ o2 _ (by omega)).trans (pn w o1))
  · exact (po _ o3 _ (by omega)).trans ((congrArg (fun k => ((w.alloc o1).alloc o2).heap[k]?) n1.symm).trans (pn _ o2))
  · exact (congrArg (fun k => (((w.alloc o1).alloc o2).alloc o3).heap[k]?) n2.symm).trans (pn _ o3)
theorem iat_ne {w : World} {gl G q : Nat} {z : Int} {X Y : List Int} {s : Bool} (h : w.cell? ⟨gl, q, none⟩ = some (.int .i64 z)) (hq : q < 31) (g : FAt w G X s Y) : gl ≠ G := fun e => by
  subst e
  rw [g.reg q hq] at h
  simp at h
theorem IAt.only {w w' : World} {b B : Nat} {zs : List Int} (h : IAt w b zs) (k : Only B w w') (hn : b ≠ B) : IAt w' b zs := fun j hj => by
  have hb := World.block_lt_of_cell? w _ (h j hj)
  have e := k.block b hb hn
  have := h j hj
  unfold World.cell? at this ⊢
  simpa [e] using this
/-- the state of RegsHang: the file, the other one, the instruction's box -/
structure LD (w wr : World) (B G : Nat) (X X2 : List Int) (s s2 : Bool) (Y : List Int) (xo : Obj) : Prop where
  f : FAt wr B X s Y
  g : FAt wr G X2 s2 Y
  xb : wr.heap[w.heap.size + 2]? = some xo
  bel : Below w.heap.size w wr
  bf : w.heap.size + 3 ≤ B
  bg : w.heap.size + 3 ≤ G
  ne : B ≠ G
section
variable {w wr w' : World} {B G : Nat} {X X2 Y : List Int} {s s2 : Bool} {xo : Obj}
theorem LD.below (h : LD w wr B G X X2 s s2 Y xo) (b : Below wr.heap.size wr w') : LD w w' B G X X2 s s2 Y xo :=
  ⟨h.f.below b, h.g.below b, (b.block _ (by have := h.f.lt; have := h.bf; omega)).trans h.xb, h.bel.trans (b.mono h.bel.size), h.bf, h.bg, h.ne⟩
theorem LD.onlyG {X3 : List Int} {s3 : Bool} (h : LD w wr B G X X2 s s2 Y xo) (o : Only G wr w') (g : FAt w' G X3 s3 Y) : LD w w' B G X X3 s s3 Y xo :=
  ⟨h.f.other o h.ne, g, (o.block _ (by have := h.f.lt; have := h.bf; omega) (by have := h.bg; omega)).trans h.xb, h.bel.trans (o.below (by have := h.bg; omega) h.bel.size), h.bf, h.bg, h.ne⟩
theorem LD.onlyB {X3 : List Int} {s3 : Bool} (h : LD w wr B G X X2 s s2 Y xo) (o : Only B wr w') (f : FAt w' B X3 s3 Y) : LD w w' B G X3 X2 s3 s2 Y xo :=
  ⟨f, h.g.other o (Ne.symm h.ne), (o.block _ (by have := h.f.lt; have := h.bf; omega) (by have := h.bf; omega)).trans h.xb, h.bel.trans (o.below (by have := h.bf; omega) h.bel.size), h.bf, h.bg, h.ne⟩
end
set_option maxRecDepth 100000 in
set_option maxHeartbeats 25600000 in
theorem RegsHang_walk (p : Option Addr) (len cap : Nat) (zs : List Int) (same : Bool) (y0 y1 y2 : Int) (p2 : Option Addr) (len2 cap2 : Nat) (zs2 : List Int) (same2 : Bool) (v0 v1 v2 op d n m imm kind : Int) (w : World) (hz : USl w p len zs) (hz2 : USl w p2 len2 zs2) :
    Calls Try.prog 6 #[.agg #[.slice p len cap, .bool same, .int .u64 y0, .int .u64 y1, .int .u64 y2], .agg #[.slice p2 len2 cap2, .bool same2, .int .u64 v0, .int .u64 v1, .int .u64 v2], .agg #[.int .i64 op, .int .i64 d, .int .i64 n, .int .i64 m, .int .i64 imm, .int .i64 kind]] w fun e w' => e = .returned (.bool true) ∧ Below w.heap.size w w' := by
  cases hr : decide (GrI.right ⟨op, d, n, m, imm, kind⟩) with
  | false =>
    have PR0 := Lib.hid (pright_b op d n m imm kind false hr)
    clear hr
    have HZ := Lib.hid hz
    have HZ2 := Lib.hid hz2
    clear hz hz2
    go_enter Try.func6, Try.ntmps6
    go_upto_region 1 with fail
    obtain ⟨x0, hx0⟩ : ∃ x : Wb (((w.alloc (.cells #[.slice p len cap, .bool same, .int .u64 y0, .int .u64 y1, .int .u64 y2] 33)).alloc (.cells #[.slice p2 len2 cap2, .bool same2, .int .u64 v0, .int .u64 v1, .int .u64 v2] 33)).alloc (.cells #[.int .i64 op, .int .i64 d, .int .i64 n, .int .i64 m, .int .i64 imm, .int .i64 kind] 23)), (((w.alloc (.cells #[.slice p len cap, .bool same, .int .u64 y0, .int .u64 y1, .int .u64 y2] 33)).alloc (.cells #[.slice p2 len2 cap2, .bool same2, .int .u64 v0, .int .u64 v1, .int .u64 v2] 33)).alloc (.cells #[.int .i64 op, .int .i64 d, .int .i64 n, .int .i64 m, .int .i64 imm, .int .i64 kind] 23)) = x.at := ⟨⟨_, Below.refl _ _⟩, rfl⟩
    have H0 := Lib.hid (box3 w (.cells #[.slice p len cap, .bool same, .int .u64 y0, .int .u64 y1, .int .u64 y2] 33) (.cells #[.slice p2 len2 cap2, .bool same2, .int .u64 v0, .int .u64 v1, .int .u64 v2] 33) (.cells #[.int .i64 op, .int .i64 d, .int .i64 n, .int .i64 m, .int .i64 imm, .int .i64 kind] 23))
    have KH := Lib.hid (fun x : Wb (((w.alloc (.cells #[.slice p len cap, .bool same, .int .u64 y0, .int .u64 y1, .int .u64 y2] 33)).alloc (.cells #[.slice p2 len2 cap2, .bool same2, .int .u64 v0, .int .u64 v1, .int .u64 v2] 33)).alloc (.cells #[.int .i64 op, .int .i64 d, .int .i64 n, .int .i64 m, .int .i64 imm, .int .i64 kind] 23)) => And.intro ((x.bel.block w.heap.size (by simp; omega)).trans H0.out.1) (And.intro ((x.bel.block (w.heap.size + 1) (by simp)).trans H0.out.2.1) ((x.bel.block (w.heap.size + 2) (by simp)).trans H0.out.2.2)))
    have KB := Lib.hid (fun x : Wb (((w.alloc (.cells #[.slice p len cap, .bool same, .int .u64 y0, .int .u64 y1, .int .u64 y2] 33)).alloc (.cells #[.slice p2 len2 cap2, .bool same2, .int .u64 v0, .int .u64 v1, .int .u64 v2] 33)).alloc (.cells #[.int .i64 op, .int .i64 d, .int .i64 n, .int .i64 m, .int .i64 imm, .int .i64 kind] 23)) => ((((Below.refl _ w).alloc (Nat.le_refl _) (.cells #[.slice p len cap, .bool same, .int .u64 y0, .int .u64 y1, .int .u64 y2] 33)).alloc (by simp) (.cells #[.slice p2 len2 cap2, .bool same2, .int .u64 v0, .int .u64 v1, .int .u64 v2] 33)).alloc (by simp; omega) (.cells #[.int .i64 op, .int .i64 d, .int .i64 n, .int .i64 m, .int .i64 imm, .int .i64 kind] 23)).trans (x.bel.mono (by simp; omega)))
    have a0 : ∀ x : Wb (((w.alloc (.cells #[.slice p len cap, .bool same, .int .u64 y0, .int .u64 y1, .int .u64 y2] 33)).alloc (.cells #[.slice p2 len2 cap2, .bool same2, .int .u64 v0, .int .u64 v1, .int .u64 v2] 33)).alloc (.cells #[.int .i64 op, .int .i64 d, .int .i64 n, .int .i64 m, .int .i64 imm, .int .i64 kind] 23)), x.at.cell? ⟨w.heap.size, 0, none⟩ = some (.slice p len cap) := fun x => by rw [cell_of_row _ _ 0 _ _ _ (KH.out x).1]; rfl
    have a1 : ∀ x : Wb (((w.alloc (.cells #[.slice p len cap, .bool same, .int .u64 y0, .int .u64 y1, .int .u64 y2] 33)).alloc (.cells #[.slice p2 len2 cap2, .bool same2, .int .u64 v0, .int .u64 v1, .int .u64 v2] 33)).alloc (.cells #[.int .i64 op, .int .i64 d, .int .i64 n, .int .i64 m, .int .i64 imm, .int .i64 kind] 23)), x.at.cell? ⟨w.heap.size, 1, none⟩ = some (.bool same) := fun x => by rw [cell_of_row _ _ 1 _ _ _ (KH.out x).1]; rfl
    have a2 : ∀ x : Wb (((w.alloc (.cells #[.slice p len cap, .bool same, .int .u64 y0, .int .u64 y1, .int .u64 y2] 33)).alloc (.cells #[.slice p2 len2 cap2, .bool same2, .int .u64 v0, .int .u64 v1, .int .u64 v2] 33)).alloc (.cells #[.int .i64 op, .int .i64 d, .int .i64 n, .int .i64 m, .int .i64 imm, .int .i64 kind] 23)), x.at.cell? ⟨w.heap.size, 2, none⟩ = some (.int .u64 y0) := fun x => by rw [cell_of_row _ _ 2 _ _ _ (KH.out x).1]; rfl
    have a3 : ∀ x : Wb (((w.alloc (.cells #[.slice p len cap, .bool same, .int .u64 y0, .int .u64 y1, .int .u64 y2] 33)).alloc (.cells #[.slice p2 len2 cap2, .bool same2, .int .u64 v0, .int .u64 v1, .int .u64 v2] 33)).alloc (.cells #[.int .i64 op, .int .i64 d, .int .i64 n, .int .i64 m, .int .i64 imm, .int .i64 kind] 23)), x.at.cell? ⟨w.heap.size, 3, none⟩ = some (.int .u64 y1) := fun x => by rw [cell_of_row _ _ 3 _ _ _ (KH.out x).1]; rfl
    have a4 : ∀ x : Wb (((w.alloc (.cells #[.slice p len cap, .bool same, .int .u64 y0, .int .u64 y1, .int .u64 y2] 33)).alloc (.cells #[.slice p2 len2 cap2, .bool same2, .int .u64 v0, .int .u64 v1, .int .u64 v2] 33)).alloc (.cells #[.int .i64 op, .int .i64 d, .int .i64 n, .int .i64 m, .int .i64 imm, .int .i64 kind] 23)), x.at.cell? ⟨w.heap.size, 4, none⟩ = some (.int .u64 y2) := fun x => by rw [cell_of_row _ _ 4 _ _ _ (KH.out x).1]; rfl
    have b0 : ∀ x : Wb (((w.alloc (.cells #[.slice p len cap, .bool same, .int .u64 y0, .int .u64 y1, .int .u64 y2] 33)).alloc (.cells #[.slice p2 len2 cap2, .bool same2, .int .u64 v0, .int .u64 v1, .int .u64 v2] 33)).alloc (.cells #[.int .i64 op, .int .i64 d, .int .i64 n, .int .i64 m, .int .i64 imm, .int .i64 kind] 23)), x.at.cell? ⟨w.heap.size + 1, 0, none⟩ = some (.slice p2 len2 cap2) := fun x => by rw [cell_of_row _ _ 0 _ _ _ (KH.out x).2.1]; rfl
    have b1 : ∀ x : Wb (((w.alloc (.cells #[.slice p len cap, .bool same, .int .u64 y0, .int .u64 y1, .int .u64 y2] 33)).alloc (.cells #[.slice p2 len2 cap2, .bool same2, .int .u64 v0, .int .u64 v1, .int .u64 v2] 33)).alloc (.cells #[.int .i64 op, .int .i64 d, .int .i64 n, .int .i64 m, .int .i64 imm, .int .i64 kind] 23)), x.at.cell? ⟨w.heap.size + 1, 1, none⟩ = some (.bool same2) := fun x => by rw [cell_of_row _ _ 1 _ _ _ (KH.out x).2.1]; rfl
    have b2 : ∀ x : Wb (((w.alloc (.cells #[.slice p len cap, .bool same, .int .u64 y0, .int .u64 y1, .int .u64 y2] 33)).alloc (.cells #[.slice p2 len2 cap2, .bool same2, .int .u64 v0, .int .u64 v1, .int .u64 v2] 33)).alloc (.cells #[.int .i64 op, .int .i64 d, .int .i64 n, .int .i64 m, .int .i64 imm, .int .i64 kind] 23)), x.at.cell? ⟨w.heap.size + 1, 2, none⟩ = some (.int .u64 v0) := fun x => by rw [cell_of_row _ _ 2 _ _ _ (KH.out x).2.1]; rfl
    have b3 : ∀ x : Wb (((w.alloc (.cells #[.slice p len cap, .bool same, .int .u64 y0, .int .u64 y1, .int .u64 y2] 33)).alloc (.cells #[.slice p2 len2 cap2, .bool same2, .int .u64 v0, .int .u64 v1, .int .u64 v2] 33)).alloc (.cells #[.int .i64 op, .int .i64 d, .int .i64 n, .int .i64 m, .int .i64 imm, .int .i64 kind] 23)), x.at.cell? ⟨w.heap.size + 1, 3, none⟩ = some (.int .u64 v1) := fun x => by rw [cell_of_row _ _ 3 _ _ _ (KH.out x).2.1]; rfl
    have b4 : ∀ x : Wb (((w.alloc (.cells #[.slice p len cap, .bool same, .int .u64 y0, .int .u64 y1, .int .u64 y2] 33)).alloc (.cells #[.slice p2 len2 cap2, .bool same2, .int .u64 v0, .int .u64 v1, .int .u64 v2] 33)).alloc (.cells #[.int .i64 op, .int .i64 d, .int .i64 n, .int .i64 m, .int .i64 imm, .int .i64 kind] 23)), x.at.cell? ⟨w.heap.size + 1, 4, none⟩ = some (.int .u64 v2) := fun x => by rw [cell_of_row _ _ 4 _ _ _ (KH.out x).2.1]; rfl
    have i0 : ∀ x : Wb (((w.alloc (.cells #[.slice p len cap, .bool same, .int .u64 y0, .int .u64 y1, .int .u64 y2] 33)).alloc (.cells #[.slice p2 len2 cap2, .bool same2, .int .u64 v0, .int .u64 v1, .int .u64 v2] 33)).alloc (.cells #[.int .i64 op, .int .i64 d, .int .i64 n, .int .i64 m, .int .i64 imm, .int .i64 kind] 23)), x.at.cell? ⟨w.heap.size + 2, 0, none⟩ = some (.int .i64 op) := fun x => by rw [cell_of_row _ _ 0 _ _ _ (KH.out x).2.2]; rfl
    have i1 : ∀ x : Wb (((w.alloc (.cells #[.slice p len cap, .bool same, .int .u64 y0, .int .u64 y1, .int .u64 y2] 33)).alloc (.cells #[.slice p2 len2 cap2, .bool same2, .int .u64 v0, .int .u64 v1, .int .u64 v2] 33)).alloc (.cells #[.int .i64 op, .int .i64 d, .int .i64 n, .int .i64 m, .int .i64 imm, .int .i64 kind] 23)), x.at.cell? ⟨w.heap.size + 2, 1, none⟩ = some (.int .i64 d) := fun x => by rw [cell_of_row _ _ 1 _ _ _ (KH.out x).2.2]; rfl
    have i2 : ∀ x : Wb (((w.alloc (.cells #[.slice p len cap, .bool same, .int .u64 y0, .int .u64 y1, .int .u64 y2] 33)).alloc (.cells #[.slice p2 len2 cap2, .bool same2, .int .u64 v0, .int .u64 v1, .int .u64 v2] 33)).alloc (.cells #[.int .i64 op, .int .i64 d, .int .i64 n, .int .i64 m, .int .i64 imm, .int .i64 kind] 23)), x.at.cell? ⟨w.heap.size + 2, 2, none⟩ = some (.int .i64 n) := fun x => by rw [cell_of_row _ _ 2 _ _ _ (KH.out x).2.2]; rfl
    have i3 : ∀ x : Wb (((w.alloc (.cells #[.slice p len cap, .bool same, .int .u64 y0, .int .u64 y1, .int .u64 y2] 33)).alloc (.cells #[.slice p2 len2 cap2, .bool same2, .int .u64 v0, .int .u64 v1, .int .u64 v2] 33)).alloc (.cells #[.int .i64 op, .int .i64 d, .int .i64 n, .int .i64 m, .int .i64 imm, .int .i64 kind] 23)), x.at.cell? ⟨w.heap.size + 2, 3, none⟩ = some (.int .i64 m) := fun x => by rw [cell_of_row _ _ 3 _ _ _ (KH.out x).2.2]; rfl
    have i4 : ∀ x : Wb (((w.alloc (.cells #[.slice p len cap, .bool same, .int .u64 y0, .int .u64 y1, .int .u64 y2] 33)).alloc (.cells #[.slice p2 len2 cap2, .bool same2, .int .u64 v0, .int .u64 v1, .int .u64 v2] 33)).alloc (.cells #[.int .i64 op, .int .i64 d, .int .i64 n, .int .i64 m, .int .i64 imm, .int .i64 kind] 23)), x.at.cell? ⟨w.heap.size + 2, 4, none⟩ = some (.int .i64 imm) := fun x => by rw [cell_of_row _ _ 4 _ _ _ (KH.out x).2.2]; rfl
    have i5 : ∀ x : Wb (((w.alloc (.cells #[.slice p len cap, .bool same, .int .u64 y0, .int .u64 y1, .int .u64 y2] 33)).alloc (.cells #[.slice p2 len2 cap2, .bool same2, .int .u64 v0, .int .u64 v1, .int .u64 v2] 33)).alloc (.cells #[.int .i64 op, .int .i64 d, .int .i64 n, .int .i64 m, .int .i64 imm, .int .i64 kind] 23)), x.at.cell? ⟨w.heap.size + 2, 5, none⟩ = some (.int .i64 kind) := fun x => by rw [cell_of_row _ _ 5 _ _ _ (KH.out x).2.2]; rfl
    rw [hx0]
    clear hx0
    go_wp2_with fail
    refine (gawake_any _).mono ?_
    rintro e w1 ⟨rfl, b⟩
    obtain ⟨x1, rfl⟩ := Wb.next b
    clear b
    go_wp2_with fail
    refine (PR0.out _).mono ?_
    rintro e w1 ⟨rfl, b⟩
    obtain ⟨x2, rfl⟩ := Wb.next b
    clear b
    go_wp2
    go_ret
    exact ⟨rfl, KB.out _⟩
  | true =>
    have PR0 := Lib.hid (pright_b op d n m imm kind true hr)
    have hrr : GrI.right ⟨op, d, n, m, imm, kind⟩ := by simpa using hr
    clear hr
    cases ha : (GrG.loadB op || GrG.storeB op) with
    | true =>
      clear hrr
      have AC0 := Lib.hid (fun w => ha ▸ access_any op d n m imm kind w)
      clear ha
      have HZ := Lib.hid hz
      have HZ2 := Lib.hid hz2
      clear hz hz2
      go_enter Try.func6, Try.ntmps6
      go_upto_region 1 with fail
      obtain ⟨x0, hx0⟩ : ∃ x : Wb (((w.alloc (.cells #[.slice p len cap, .bool same, .int .u64 y0, .int .u64 y1, .int .u64 y2] 33)).alloc (.cells #[.slice p2 len2 cap2, .bool same2, .int .u64 v0, .int .u64 v1, .int .u64 v2] 33)).alloc (.cells #[.int .i64 op, .int .i64 d, .int .i64 n, .int .i64 m, .int .i64 imm, .int .i64 kind] 23)), (((w.alloc (.cells #[.slice p len cap, .bool same, .int .u64 y0, .int .u64 y1, .int .u64 y2] 33)).alloc (.cells #[.slice p2 len2 cap2, .bool same2, .int .u64 v0, .int .u64 v1, .int .u64 v2] 33)).alloc (.cells #[.int .i64 op, .int .i64 d, .int .i64 n, .int .i64 m, .int .i64 imm, .int .i64 kind] 23)) = x.at := ⟨⟨_, Below.refl _ _⟩, rfl⟩
      have H0 := Lib.hid (box3 w (.cells #[.slice p len cap, .bool same, .int .u64 y0, .int .u64 y1, .int .u64 y2] 33) (.cells #[.slice p2 len2 cap2, .bool same2, .int .u64 v0, .int .u64 v1, .int .u64 v2] 33) (.cells #[.int .i64 op, .int .i64 d, .int .i64 n, .int .i64 m, .int .i64 imm, .int .i64 kind] 23))
      have KH := Lib.hid (fun x : Wb (((w.alloc (.cells #[.slice p len cap, .bool same, .int .u64 y0, .int .u64 y1, .int .u64 y2] 33)).alloc (.cells #[.slice p2 len2 cap2, .bool same2, .int .u64 v0, .int .u64 v1, .int .u64 v2] 33)).alloc (.cells #[.int .i64 op, .int .i64 d, .int .i64 n, .int .i64 m, .int .i64 imm, .int .i64 kind] 23)) => And.intro ((x.bel.block w.heap.size (by simp; omega)).trans H0.out.1) (And.intro ((x.bel.block (w.heap.size + 1) (by simp)).trans H0.out.2.1) ((x.bel.block (w.heap.size + 2) (by simp)).trans H0.out.2.2)))
      have KB := Lib.hid (fun x : Wb (((w.alloc (.cells #[.slice p len cap, .bool same, .int .u64 y0, .int .u64 y1, .int .u64 y2] 33)).alloc (.cells #[.slice p2 len2 cap2, .bool same2, .int .u64 v0, .int .u64 v1, .int .u64 v2] 33)).alloc (.cells #[.int .i64 op, .int .i64 d, .int .i64 n, .int .i64 m, .int .i64 imm, .int .i64 kind] 23)) => ((((Below.refl _ w).alloc (Nat.le_refl _) (.cells #[.slice p len cap, .bool same, .int .u64 y0, .int .u64 y1, .int .u64 y2] 33)).alloc (by simp) (.cells #[.slice p2 len2 cap2, .bool same2, .int .u64 v0, .int .u64 v1, .int .u64 v2] 33)).alloc (by simp; omega) (.cells #[.int .i64 op, .int .i64 d, .int .i64 n, .int .i64 m, .int .i64 imm, .int .i64 kind] 23)).trans (x.bel.mono (by simp; omega)))
      have a0 : ∀ x : Wb (((w.alloc (.cells #[.slice p len cap, .bool same, .int .u64 y0, .int .u64 y1, .int .u64 y2] 33)).alloc (.cells #[.slice p2 len2 cap2, .bool same2, .int .u64 v0, .int .u64 v1, .int .u64 v2] 33)).alloc (.cells #[.int .i64 op, .int .i64 d, .int .i64 n, .int .i64 m, .int .i64 imm, .int .i64 kind] 23)), x.at.cell? ⟨w.heap.size, 0, none⟩ = some (.slice p len cap) := fun x => by rw [cell_of_row _ _ 0 _ _ _ (KH.out x).1]; rfl
      have a1 : ∀ x : Wb (((w.alloc (.cells #[.slice p len cap, .bool same, .int .u64 y0, .int .u64 y1, .int .u64 y2] 33)).alloc (.cells #[.slice p2 len2 cap2, .bool same2, .int .u64 v0, .int .u64 v1, .int .u64 v2] 33)).alloc (.cells #[.int .i64 op, .int .i64 d, .int .i64 n, .int .i64 m, .int .i64 imm, .int .i64 kind] 23)), x.at.cell? ⟨w.heap.size, 1, none⟩ = some (.bool same) := fun x => by rw [cell_of_row _ _ 1 _ _ _ (KH.out x).1]; rfl
      have a2 : ∀ x : Wb (((w.alloc (.cells #[.slice p len cap, .bool same, .int .u64 y0, .int .u64 y1, .int .u64 y2] 33)).alloc (.cells #[.slice p2 len2 cap2, .bool same2, .int .u64 v0, .int .u64 v1, .int .u64 v2] 33)).alloc (.cells #[.int .i64 op, .int .i64 d, .int .i64 n, .int .i64 m, .int .i64 imm, .int .i64 kind] 23)), x.at.cell? ⟨w.heap.size, 2, none⟩ = some (.int .u64 y0) := fun x => by rw [cell_of_row _ _ 2 _ _ _ (KH.out x).1]; rfl
      have a3 : ∀ x : Wb (((w.alloc (.cells #[.slice p len cap, .bool same, .int .u64 y0, .int .u64 y1, .int .u64 y2] 33)).alloc (.cells #[.slice p2 len2 cap2, .bool same2, .int .u64 v0, .int .u64 v1, .int .u64 v2] 33)).alloc (.cells #[.int .i64 op, .int .i64 d, .int .i64 n, .int .i64 m, .int .i64 imm, .int .i64 kind] 23)), x.at.cell? ⟨w.heap.size, 3, none⟩ = some (.int .u64 y1) := fun x => by rw [cell_of_row _ _ 3 _ _ _ (KH.out x).1]; rfl
      have a4 : ∀ x : Wb (((w.alloc (.cells #[.slice p len cap, .bool same, .int .u64 y0, .int .u64 y1, .int .u64 y2] 33)).alloc (.cells #[.slice p2 len2 cap2, .bool same2, .int .u64 v0, .int .u64 v1, .int .u64 v2] 33)).alloc (.cells #[.int .i64 op, .int .i64 d, .int .i64 n, .int .i64 m, .int .i64 imm, .int .i64 kind] 23)), x.at.cell? ⟨w.heap.size, 4, none⟩ = some (.int .u64 y2) := fun x => by rw [cell_of_row _ _ 4 _ _ _ (KH.out x).1]; rfl
      have b0 : ∀ x : Wb (((w.alloc (.cells #[.slice p len cap, .bool same, .int .u64 y0, .int .u64 y1, .int .u64 y2] 33)).alloc (.cells #[.slice p2 len2 cap2, .bool same2, .int .u64 v0, .int .u64 v1, .int .u64 v2] 33)).alloc (.cells #[.int .i64 op, .int .i64 d, .int .i64 n, .int .i64 m, .int .i64 imm, .int .i64 kind] 23)), x.at.cell? ⟨w.heap.size + 1, 0, none⟩ = some (.slice p2 len2 cap2) := fun x => by rw [cell_of_row _ _ 0 _ _ _ (KH.out x).2.1]; rfl
      have b1 : ∀ x : Wb (((w.alloc (.cells #[.slice p len cap, .bool same, .int .u64 y0, .int .u64 y1, .int .u64 y2] 33)).alloc (.cells #[.slice p2 len2 cap2, .bool same2, .int .u64 v0, .int .u64 v1, .int .u64 v2] 33)).alloc (.cells #[.int .i64 op, .int .i64 d, .int .i64 n, .int .i64 m, .int .i64 imm, .int .i64 kind] 23)), x.at.cell? ⟨w.heap.size + 1, 1, none⟩ = some (.bool same2) := fun x => by rw [cell_of_row _ _ 1 _ _ _ (KH.out x).2.1]; rfl
      have b2 : ∀ x : Wb (((w.alloc (.cells #[.slice p len cap, .bool same, .int .u64 y0, .int .u64 y1, .int .u64 y2] 33)).alloc (.cells #[.slice p2 len2 cap2, .bool same2, .int .u64 v0, .int .u64 v1, .int .u64 v2] 33)).alloc (.cells #[.int .i64 op, .int .i64 d, .int .i64 n, .int .i64 m, .int .i64 imm, .int .i64 kind] 23)), x.at.cell? ⟨w.heap.size + 1, 2, none⟩ = some (.int .u64 v0) := fun x => by rw [cell_of_row _ _ 2 _ _ _ (KH.out x).2.1]; rfl
      have b3 : ∀ x : Wb (((w.alloc (.cells #[.slice p len cap, .bool same, .int .u64 y0, .int .u64 y1, .int .u64 y2] 33)).alloc (.cells #[.slice p2 len2 cap2, .bool same2, .int .u64 v0, .int .u64 v1, .int .u64 v2] 33)).alloc (.cells #[.int .i64 op, .int .i64 d, .int .i64 n, .int .i64 m, .int .i64 imm, .int .i64 kind] 23)), x.at.cell? ⟨w.heap.size + 1, 3, none⟩ = some (.int .u64 v1) := fun x => by rw [cell_of_row _ _ 3 _ _ _ (KH.out x).2.1]; rfl
      have b4 : ∀ x : Wb (((w.alloc (.cells #[.slice p len cap, .bool same, .int .u64 y0, .int .u64 y1, .int .u64 y2] 33)).alloc (.cells #[.slice p2 len2 cap2, .bool same2, .int .u64 v0, .int .u64 v1, .int .u64 v2] 33)).alloc (.cells #[.int .i64 op, .int .i64 d, .int .i64 n, .int .i64 m, .int .i64 imm, .int .i64 kind] 23)), x.at.cell? ⟨w.heap.size + 1, 4, none⟩ = some (.int .u64 v2) := fun x => by rw [cell_of_row _ _ 4 _ _ _ (KH.out x).2.1]; rfl
      have i0 : ∀ x : Wb (((w.alloc (.cells #[.slice p len cap, .bool same, .int .u64 y0, .int .u64 y1, .int .u64 y2] 33)).alloc (.cells #[.slice p2 len2 cap2, .bool same2, .int .u64 v0, .int .u64 v1, .int .u64 v2] 33)).alloc (.cells #[.int .i64 op, .int .i64 d, .int .i64 n, .int .i64 m, .int .i64 imm, .int .i64 kind] 23)), x.at.cell? ⟨w.heap.size + 2, 0, none⟩ = some (.int .i64 op) := fun x => by rw [cell_of_row _ _ 0 _ _ _ (KH.out x).2.2]; rfl
      have i1 : ∀ x : Wb (((w.alloc (.cells #[.slice p len cap, .bool same, .int .u64 y0, .int .u64 y1, .int .u64 y2] 33)).alloc (.cells #[.slice p2 len2 cap2, .bool same2, .int .u64 v0, .int .u64 v1, .int .u64 v2] 33)).alloc (.cells #[.int .i64 op, .int .i64 d, .int .i64 n, .int .i64 m, .int .i64 imm, .int .i64 kind] 23)), x.at.cell? ⟨w.heap.size + 2, 1, none⟩ = some (.int .i64 d) := fun x => by rw [cell_of_row _ _ 1 _ _ _ (KH.out x).2.2]; rfl
      have i2 : ∀ x : Wb (((w.alloc (.cells #[.slice p len cap, .bool same, .int .u64 y0, .int .u64 y1, .int .u64 y2] 33)).alloc (.cells #[.slice p2 len2 cap2, .bool same2, .int .u64 v0, .int .u64 v1, .int .u64 v2] 33)).alloc (.cells #[.int .i64 op, .int .i64 d, .int .i64 n, .int .i64 m, .int .i64 imm, .int .i64 kind] 23)), x.at.cell? ⟨w.heap.size + 2, 2, none⟩ = some (.int .i64 n) := fun x => by rw [cell_of_row _ _ 2 _ _ _ (KH.out x).2.2]; rfl
      have i3 : ∀ x : Wb (((w.alloc (.cells #[.slice p len cap, .bool same, .int .u64 y0, .int .u64 y1, .int .u64 y2] 33)).alloc (.cells #[.slice p2 len2 cap2, .bool same2, .int .u64 v0, .int .u64 v1, .int .u64 v2] 33)).alloc (.cells #[.int .i64 op, .int .i64 d, .int .i64 n, .int .i64 m, .int .i64 imm, .int .i64 kind] 23)), x.at.cell? ⟨w.heap.size + 2, 3, none⟩ = some (.int .i64 m) := fun x => by rw [cell_of_row _ _ 3 _ _ _ (KH.out x).2.2]; rfl
      have i4 : ∀ x : Wb (((w.alloc (.cells #[.slice p len cap, .bool same, .int .u64 y0, .int .u64 y1, .int .u64 y2] 33)).alloc (.cells #[.slice p2 len2 cap2, .bool same2, .int .u64 v0, .int .u64 v1, .int .u64 v2] 33)).alloc (.cells #[.int .i64 op, .int .i64 d, .int .i64 n, .int .i64 m, .int .i64 imm, .int .i64 kind] 23)), x.at.cell? ⟨w.heap.size + 2, 4, none⟩ = some (.int .i64 imm) := fun x => by rw [cell_of_row _ _ 4 _ _ _ (KH.out x).2.2]; rfl
      have i5 : ∀ x : Wb (((w.alloc (.cells #[.slice p len cap, .bool same, .int .u64 y0, .int .u64 y1, .int .u64 y2] 33)).alloc (.cells #[.slice p2 len2 cap2, .bool same2, .int .u64 v0, .int .u64 v1, .int .u64 v2] 33)).alloc (.cells #[.int .i64 op, .int .i64 d, .int .i64 n, .int .i64 m, .int .i64 imm, .int .i64 kind] 23)), x.at.cell? ⟨w.heap.size + 2, 5, none⟩ = some (.int .i64 kind) := fun x => by rw [cell_of_row _ _ 5 _ _ _ (KH.out x).2.2]; rfl
      rw [hx0]
      clear hx0
      go_wp2_with fail
      refine (gawake_any _).mono ?_
      rintro e w1 ⟨rfl, b⟩
      obtain ⟨x1, rfl⟩ := Wb.next b
      clear b
      go_wp2_with fail
      refine (PR0.out _).mono ?_
      rintro e w1 ⟨rfl, b⟩
      obtain ⟨x2, rfl⟩ := Wb.next b
      clear b
      go_wp2_with fail
      refine (AC0.out _).mono ?_
      rintro e w1 ⟨rfl, b⟩
      obtain ⟨x3, rfl⟩ := Wb.next b
      clear b
      go_wp2
      go_ret
      exact ⟨rfl, KB.out _⟩
    | false =>
      have AC0 := Lib.hid (fun w => ha ▸ access_any op d n m imm kind w)
      obtain ⟨hd0, hd, hn, hm⟩ := GrI.right_bds hrr
      have hl1 : op ≠ 2 := by rintro rfl; simp [GrG.loadB] at ha
      have hl2 : op ≠ 4 := by rintro rfl; simp [GrG.loadB] at ha
      clear ha
      have SE0 := Lib.hid (fun w => sets_any op d n m imm kind w (GrI.ops (x := ⟨op, d, n, m, imm, kind⟩) hrr))
      have DA0 := Lib.hid (fun w => data_any op d n m imm kind w (GrI.ops (x := ⟨op, d, n, m, imm, kind⟩) hrr))
      obtain ⟨R, hR⟩ : ∃ R, R = GrG.regsOf zs := ⟨_, rfl⟩
      have RL := Lib.hid (show R.length = 31 by rw [hR]; exact GrG.regsOf_len zs)
      have FI := Lib.hid (fun w h => hR ▸ file_any p len cap zs same y0 y1 y2 w h)
      obtain ⟨R2, hR2⟩ : ∃ R, R = GrG.regsOf zs2 := ⟨_, rfl⟩
      have RL2 := Lib.hid (show R2.length = 31 by rw [hR2]; exact GrG.regsOf_len zs2)
      have FI2 := Lib.hid (fun w h => hR2 ▸ file_any p2 len2 cap2 zs2 same2 v0 v1 v2 w h)
      obtain ⟨K, hK⟩ : ∃ K, K = GrG.fcells R same [y0, y1, y2] := ⟨_, rfl⟩
      have KE := Lib.hid hK
      have z1 := Lib.hid (show (Try.prog.info? 36).map (·.size) = some K.toArray.size by rw [sizeF, hK]; simp [GrG.fcells_len RL.out])
      have z2 := Lib.hid (show (#[.int .u64 0, .int .u64 0, .int .u64 0, .int .u64 0, .int .u64 0, .int .u64 0, .int .u64 0, .int .u64 0, .int .u64 0, .int .u64 0, .int .u64 0, .int .u64 0, .int .u64 0, .int .u64 0, .int .u64 0, .int .u64 0, .int .u64 0, .int .u64 0, .int .u64 0, .int .u64 0, .int .u64 0, .int .u64 0, .int .u64 0, .int .u64 0, .int .u64 0, .int .u64 0, .int .u64 0, .int .u64 0, .int .u64 0, .int .u64 0, .int .u64 0, .bool false, .int .u64 0, .int .u64 0, .int .u64 0] : Array Value).size = K.toArray.size by rw [hK]; simp [GrG.fcells_len RL.out])
      have z3 := Lib.hid (show K.toArray.all (·.oneCell') = true by rw [hK]; exact GrG.fcells_one _ _ _)
      obtain ⟨K2, hK2⟩ : ∃ K, K = GrG.fcells R2 same2 [v0, v1, v2] := ⟨_, rfl⟩
      have KE2 := Lib.hid hK2
      have u1 := Lib.hid (show (Try.prog.info? 36).map (·.size) = some K2.toArray.size by rw [sizeF, hK2]; simp [GrG.fcells_len RL2.out])
      have u2 := Lib.hid (show (#[.int .u64 0, .int .u64 0, .int .u64 0, .int .u64 0, .int .u64 0, .int .u64 0, .int .u64 0, .int .u64 0, .int .u64 0, .int .u64 0, .int .u64 0, .int .u64 0, .int .u64 0, .int .u64 0, .int .u64 0, .int .u64 0, .int .u64 0, .int .u64 0, .int .u64 0, .int .u64 0, .int .u64 0, .int .u64 0, .int .u64 0, .int .u64 0, .int .u64 0, .int .u64 0, .int .u64 0, .int .u64 0, .int .u64 0, .int .u64 0, .int .u64 0, .bool false, .int .u64 0, .int .u64 0, .int .u64 0] : Array Value).size = K2.toArray.size by rw [hK2]; simp [GrG.fcells_len RL2.out])
      have u3 := Lib.hid (show K2.toArray.all (·.oneCell') = true by rw [hK2]; exact GrG.fcells_one _ _ _)
      clear hR hR2 hK hK2
      have DO0 := Lib.hid (fun G X2 s2 (w : World) h => do_any G X2 [y0, y1, y2] s2 ⟨op, d, n, m, imm, kind⟩ w h hrr)
      simp only at DO0
      clear hrr
      have HZ := Lib.hid hz
      have HZ2 := Lib.hid hz2
      clear hz hz2
      go_enter Try.func6, Try.ntmps6
      go_upto_region 1 with fail
      obtain ⟨x0, hx0⟩ : ∃ x : Wb (((w.alloc (.cells #[.slice p len cap, .bool same, .int .u64 y0, .int .u64 y1, .int .u64 y2] 33)).alloc (.cells #[.slice p2 len2 cap2, .bool same2, .int .u64 v0, .int .u64 v1, .int .u64 v2] 33)).alloc (.cells #[.int .i64 op, .int .i64 d, .int .i64 n, .int .i64 m, .int .i64 imm, .int .i64 kind] 23)), (((w.alloc (.cells #[.slice p len cap, .bool same, .int .u64 y0, .int .u64 y1, .int .u64 y2] 33)).alloc (.cells #[.slice p2 len2 cap2, .bool same2, .int .u64 v0, .int .u64 v1, .int .u64 v2] 33)).alloc (.cells #[.int .i64 op, .int .i64 d, .int .i64 n, .int .i64 m, .int .i64 imm, .int .i64 kind] 23)) = x.at := ⟨⟨_, Below.refl _ _⟩, rfl⟩
      have H0 := Lib.hid (box3 w (.cells #[.slice p len cap, .bool same, .int .u64 y0, .int .u64 y1, .int .u64 y2] 33) (.cells #[.slice p2 len2 cap2, .bool same2, .int .u64 v0, .int .u64 v1, .int .u64 v2] 33) (.cells #[.int .i64 op, .int .i64 d, .int .i64 n, .int .i64 m, .int .i64 imm, .int .i64 kind] 23))
      have KH := Lib.hid (fun x : Wb (((w.alloc (.cells #[.slice p len cap, .bool same, .int .u64 y0, .int .u64 y1, .int .u64 y2] 33)).alloc (.cells #[.slice p2 len2 cap2, .bool same2, .int .u64 v0, .int .u64 v1, .int .u64 v2] 33)).alloc (.cells #[.int .i64 op, .int .i64 d, .int .i64 n, .int .i64 m, .int .i64 imm, .int .i64 kind] 23)) => And.intro ((x.bel.block w.heap.size (by simp; omega)).trans H0.out.1) (And.intro ((x.bel.block (w.heap.size + 1) (by simp)).trans H0.out.2.1) ((x.bel.block (w.heap.size + 2) (by simp)).trans H0.out.2.2)))
      have KB := Lib.hid (fun x : Wb (((w.alloc (.cells #[.slice p len cap, .bool same, .int .u64 y0, .int .u64 y1, .int .u64 y2] 33)).alloc (.cells #[.slice p2 len2 cap2, .bool same2, .int .u64 v0, .int .u64 v1, .int .u64 v2] 33)).alloc (.cells #[.int .i64 op, .int .i64 d, .int .i64 n, .int .i64 m, .int .i64 imm, .int .i64 kind] 23)) => ((((Below.refl _ w).alloc (Nat.le_refl _) (.cells #[.slice p len cap, .bool same, .int .u64 y0, .int .u64 y1, .int .u64 y2] 33)).alloc (by simp) (.cells #[.slice p2 len2 cap2, .bool same2, .int .u64 v0, .int .u64 v1, .int .u64 v2] 33)).alloc (by simp; omega) (.cells #[.int .i64 op, .int .i64 d, .int .i64 n, .int .i64 m, .int .i64 imm, .int .i64 kind] 23)).trans (x.bel.mono (by simp; omega)))
      have a0 : ∀ x : Wb (((w.alloc (.cells #[.slice p len cap, .bool same, .int .u64 y0, .int .u64 y1, .int .u64 y2] 33)).alloc (.cells #[.slice p2 len2 cap2, .bool same2, .int .u64 v0, .int .u64 v1, .int .u64 v2] 33)).alloc (.cells #[.int .i64 op, .int .i64 d, .int .i64 n, .int .i64 m, .int .i64 imm, .int .i64 kind] 23)), x.at.cell? ⟨w.heap.size, 0, none⟩ = some (.slice p len cap) := fun x => by rw [cell_of_row _ _ 0 _ _ _ (KH.out x).1]; rfl
      have a1 : ∀ x : Wb (((w.alloc (.cells #[.slice p len cap, .bool same, .int .u64 y0, .int .u64 y1, .int .u64 y2] 33)).alloc (.cells #[.slice p2 len2 cap2, .bool same2, .int .u64 v0, .int .u64 v1, .int .u64 v2] 33)).alloc (.cells #[.int .i64 op, .int .i64 d, .int .i64 n, .int .i64 m, .int .i64 imm, .int .i64 kind] 23)), x.at.cell? ⟨w.heap.size, 1, none⟩ = some (.bool same) := fun x => by rw [cell_of_row _ _ 1 _ _ _ (KH.out x).1]; rfl
      have a2 : ∀ x : Wb (((w.alloc (.cells #[.slice p len cap, .bool same, .int .u64 y0, .int .u64 y1, .int .u64 y2] 33)).alloc (.cells #[.slice p2 len2 cap2, .bool same2, .int .u64 v0, .int .u64 v1, .int .u64 v2] 33)).alloc (.cells #[.int .i64 op, .int .i64 d, .int .i64 n, .int .i64 m, .int .i64 imm, .int .i64 kind] 23)), x.at.cell? ⟨w.heap.size, 2, none⟩ = some (.int .u64 y0) := fun x => by rw [cell_of_row _ _ 2 _ _ _ (KH.out x).1]; rfl
      have a3 : ∀ x : Wb (((w.alloc (.cells #[.slice p len cap, .bool same, .int .u64 y0, .int .u64 y1, .int .u64 y2] 33)).alloc (.cells #[.slice p2 len2 cap2, .bool same2, .int .u64 v0, .int .u64 v1, .int .u64 v2] 33)).alloc (.cells #[.int .i64 op, .int .i64 d, .int .i64 n, .int .i64 m, .int .i64 imm, .int .i64 kind] 23)), x.at.cell? ⟨w.heap.size, 3, none⟩ = some (.int .u64 y1) := fun x => by rw [cell_of_row _ _ 3 _ _ _ (KH.out x).1]; rfl
      have a4 : ∀ x : Wb (((w.alloc (.cells #[.slice p len cap, .bool same, .int .u64 y0, .int .u64 y1, .int .u64 y2] 33)).alloc (.cells #[.slice p2 len2 cap2, .bool same2, .int .u64 v0, .int .u64 v1, .int .u64 v2] 33)).alloc (.cells #[.int .i64 op, .int .i64 d, .int .i64 n, .int .i64 m, .int .i64 imm, .int .i64 kind] 23)), x.at.cell? ⟨w.heap.size, 4, none⟩ = some (.int .u64 y2) := fun x => by rw [cell_of_row _ _ 4 _ _ _ (KH.out x).1]; rfl
      have b0 : ∀ x : Wb (((w.alloc (.cells #[.slice p len cap, .bool same, .int .u64 y0, .int .u64 y1, .int .u64 y2] 33)).alloc (.cells #[.slice p2 len2 cap2, .bool same2, .int .u64 v0, .int .u64 v1, .int .u64 v2] 33)).alloc (.cells #[.int .i64 op, .int .i64 d, .int .i64 n, .int .i64 m, .int .i64 imm, .int .i64 kind] 23)), x.at.cell? ⟨w.heap.size + 1, 0, none⟩ = some (.slice p2 len2 cap2) := fun x => by rw [cell_of_row _ _ 0 _ _ _ (KH.out x).2.1]; rfl
      have b1 : ∀ x : Wb (((w.alloc (.cells #[.slice p len cap, .bool same, .int .u64 y0, .int .u64 y1, .int .u64 y2] 33)).alloc (.cells #[.slice p2 len2 cap2, .bool same2, .int .u64 v0, .int .u64 v1, .int .u64 v2] 33)).alloc (.cells #[.int .i64 op, .int .i64 d, .int .i64 n, .int .i64 m, .int .i64 imm, .int .i64 kind] 23)), x.at.cell? ⟨w.heap.size + 1, 1, none⟩ = some (.bool same2) := fun x => by rw [cell_of_row _ _ 1 _ _ _ (KH.out x).2.1]; rfl
      have b2 : ∀ x : Wb (((w.alloc (.cells #[.slice p len cap, .bool same, .int .u64 y0, .int .u64 y1, .int .u64 y2] 33)).alloc (.cells #[.slice p2 len2 cap2, .bool same2, .int .u64 v0, .int .u64 v1, .int .u64 v2] 33)).alloc (.cells #[.int .i64 op, .int .i64 d, .int .i64 n, .int .i64 m, .int .i64 imm, .int .i64 kind] 23)), x.at.cell? ⟨w.heap.size + 1, 2, none⟩ = some (.int .u64 v0) := fun x => by rw [cell_of_row _ _ 2 _ _ _ (KH.out x).2.1]; rfl
      have b3 : ∀ x : Wb (((w.alloc (.cells #[.slice p len cap, .bool same, .int .u64 y0, .int .u64 y1, .int .u64 y2] 33)).alloc (.cells #[.slice p2 len2 cap2, .bool same2, .int .u64 v0, .int .u64 v1, .int .u64 v2] 33)).alloc (.cells #[.int .i64 op, .int .i64 d, .int .i64 n, .int .i64 m, .int .i64 imm, .int .i64 kind] 23)), x.at.cell? ⟨w.heap.size + 1, 3, none⟩ = some (.int .u64 v1) := fun x => by rw [cell_of_row _ _ 3 _ _ _ (KH.out x).2.1]; rfl
      have b4 : ∀ x : Wb (((w.alloc (.cells #[.slice p len cap, .bool same, .int .u64 y0, .int .u64 y1, .int .u64 y2] 33)).alloc (.cells #[.slice p2 len2 cap2, .bool same2, .int .u64 v0, .int .u64 v1, .int .u64 v2] 33)).alloc (.cells #[.int .i64 op, .int .i64 d, .int .i64 n, .int .i64 m, .int .i64 imm, .int .i64 kind] 23)), x.at.cell? ⟨w.heap.size + 1, 4, none⟩ = some (.int .u64 v2) := fun x => by rw [cell_of_row _ _ 4 _ _ _ (KH.out x).2.1]; rfl
      have i0 : ∀ x : Wb (((w.alloc (.cells #[.slice p len cap, .bool same, .int .u64 y0, .int .u64 y1, .int .u64 y2] 33)).alloc (.cells #[.slice p2 len2 cap2, .bool same2, .int .u64 v0, .int .u64 v1, .int .u64 v2] 33)).alloc (.cells #[.int .i64 op, .int .i64 d, .int .i64 n, .int .i64 m, .int .i64 imm, .int .i64 kind] 23)), x.at.cell? ⟨w.heap.size + 2, 0, none⟩ = some (.int .i64 op) := fun x => by rw [cell_of_row _ _ 0 _ _ _ (KH.out x).2.2]; rfl
      have i1 : ∀ x : Wb (((w.alloc (.cells #[.slice p len cap, .bool same, .int .u64 y0, .int .u64 y1, .int .u64 y2] 33)).alloc (.cells #[.slice p2 len2 cap2, .bool same2, .int .u64 v0, .int .u64 v1, .int .u64 v2] 33)).alloc (.cells #[.int .i64 op, .int .i64 d, .int .i64 n, .int .i64 m, .int .i64 imm, .int .i64 kind] 23)), x.at.cell? ⟨w.heap.size + 2, 1, none⟩ = some (.int .i64 d) := fun x => by rw [cell_of_row _ _ 1 _ _ _ (KH.out x).2.2]; rfl
      have i2 : ∀ x : Wb (((w.alloc (.cells #[.slice p len cap, .bool same, .int .u64 y0, .int .u64 y1, .int .u64 y2] 33)).alloc (.cells #[.slice p2 len2 cap2, .bool same2, .int .u64 v0, .int .u64 v1, .int .u64 v2] 33)).alloc (.cells #[.int .i64 op, .int .i64 d, .int .i64 n, .int .i64 m, .int .i64 imm, .int .i64 kind] 23)), x.at.cell? ⟨w.heap.size + 2, 2, none⟩ = some (.int .i64 n) := fun x => by rw [cell_of_row _ _ 2 _ _ _ (KH.out x).2.2]; rfl
      have i3 : ∀ x : Wb (((w.alloc (.cells #[.slice p len cap, .bool same, .int .u64 y0, .int .u64 y1, .int .u64 y2] 33)).alloc (.cells #[.slice p2 len2 cap2, .bool same2, .int .u64 v0, .int .u64 v1, .int .u64 v2] 33)).alloc (.cells #[.int .i64 op, .int .i64 d, .int .i64 n, .int .i64 m, .int .i64 imm, .int .i64 kind] 23)), x.at.cell? ⟨w.heap.size + 2, 3, none⟩ = some (.int .i64 m) := fun x => by rw [cell_of_row _ _ 3 _ _ _ (KH.out x).2.2]; rfl
      have i4 : ∀ x : Wb (((w.alloc (.cells #[.slice p len cap, .bool same, .int .u64 y0, .int .u64 y1, .int .u64 y2] 33)).alloc (.cells #[.slice p2 len2 cap2, .bool same2, .int .u64 v0, .int .u64 v1, .int .u64 v2] 33)).alloc (.cells #[.int .i64 op, .int .i64 d, .int .i64 n, .int .i64 m, .int .i64 imm, .int .i64 kind] 23)), x.at.cell? ⟨w.heap.size + 2, 4, none⟩ = some (.int .i64 imm) := fun x => by rw [cell_of_row _ _ 4 _ _ _ (KH.out x).2.2]; rfl
      have i5 : ∀ x : Wb (((w.alloc (.cells #[.slice p len cap, .bool same, .int .u64 y0, .int .u64 y1, .int .u64 y2] 33)).alloc (.cells #[.slice p2 len2 cap2, .bool same2, .int .u64 v0, .int .u64 v1, .int .u64 v2] 33)).alloc (.cells #[.int .i64 op, .int .i64 d, .int .i64 n, .int .i64 m, .int .i64 imm, .int .i64 kind] 23)), x.at.cell? ⟨w.heap.size + 2, 5, none⟩ = some (.int .i64 kind) := fun x => by rw [cell_of_row _ _ 5 _ _ _ (KH.out x).2.2]; rfl
      rw [hx0]
      clear hx0
      go_wp2_with fail
      refine (gawake_any _).mono ?_
      rintro e w1 ⟨rfl, b⟩
      obtain ⟨x1, rfl⟩ := Wb.next b
      clear b
      go_wp2_with fail
      refine (PR0.out _).mono ?_
      rintro e w1 ⟨rfl, b⟩
      obtain ⟨x2, rfl⟩ := Wb.next b
      clear b
      go_wp2_with fail
      refine (AC0.out _).mono ?_
      rintro e w1 ⟨rfl, b⟩
      obtain ⟨x3, rfl⟩ := Wb.next b
      clear b
      go_wp2_with fail
      refine (FI.out x3.at (HZ.out.keep (KB.out x3))).mono ?_
      rintro e w2 ⟨v, sb, rfl, hu, b⟩
      have B2 := Lib.hid ((KB.out x3).trans (b.mono (KB.out x3).size))
      have T2e := Lib.hid (show w2.heap[w.heap.size + 1]? = some (.cells #[.slice p2 len2 cap2, .bool same2, .int .u64 v0, .int .u64 v1, .int .u64 v2] 33) from (b.block _ (by have := x3.bel.size; simp at this; omega)).trans (KH.out x3).2.1)
      have X2e := Lib.hid (show w2.heap[w.heap.size + 2]? = some (.cells #[.int .i64 op, .int .i64 d, .int .i64 n, .int .i64 m, .int .i64 imm, .int .i64 kind] 23) from (b.block _ (by have := x3.bel.size; simp at this; omega)).trans (KH.out x3).2.2)
      have L2 := Lib.hid (show w.heap.size + 3 ≤ w2.heap.size by have := x3.bel.size; have := b.size; simp at *; omega)
      clear b a0 a1 a2 a3 a4 b0 b1 b2 b3 b4 i0 i1 i2 i3 i4 i5
      rw [← KE.out]
      obtain ⟨W3, hW3⟩ : ∃ W, W = ((w2.alloc (.cells #[.int .u64 0, .int .u64 0, .int .u64 0, .int .u64 0, .int .u64 0, .int .u64 0, .int .u64 0, .int .u64 0, .int .u64 0, .int .u64 0, .int .u64 0, .int .u64 0, .int .u64 0, .int .u64 0, .int .u64 0, .int .u64 0, .int .u64 0, .int .u64 0, .int .u64 0, .int .u64 0, .int .u64 0, .int .u64 0, .int .u64 0, .int .u64 0, .int .u64 0, .int .u64 0, .int .u64 0, .int .u64 0, .int .u64 0, .int .u64 0, .int .u64 0, .bool false, .int .u64 0, .int .u64 0, .int .u64 0] 36)).alloc (.cells #[.slice none 0 0, .bool false, .slice none 0 0] 38)).setRow w2.heap.size K.toArray := ⟨_, rfl⟩
      have F3 := Lib.hid (show W3.heap[w2.heap.size]? = some (.cells K.toArray 36 (0, 0)) by rw [hW3]; exact setRow_heap _ _ _ _ _ _ (heap_alloc2_old w2 _ _))
      have P3 := Lib.hid (show W3.heap[w2.heap.size + 1]? = some (.cells #[.slice none 0 0, .bool false, .slice none 0 0] 38 (0, 0)) by rw [hW3, setRow_other _ _ _ _ (by omega)]; exact heap_alloc2_new w2 _ _)
      have B3 := Lib.hid (show Below w2.heap.size w2 W3 by rw [hW3]; exact below_setRow (((Below.refl _ _).alloc (Nat.le_refl _) _).alloc (by simp) _) (Nat.le_refl _) _)
      have S3 := Lib.hid (show W3.heap.size = w2.heap.size + 2 by rw [hW3]; simp)
      have HW3 := Lib.hid hW3
      have e0 := cell_of_row W3 _ 0 _ _ _ P3.out
      have e1 := cell_of_row W3 _ 1 _ _ _ P3.out
      have e2 := cell_of_row W3 _ 2 _ _ _ P3.out
      have q0 := frozen_of_row W3 _ 0 _ _ P3.out
      have q1 := frozen_of_row W3 _ 1 _ _ P3.out
      have q2 := frozen_of_row W3 _ 2 _ _ P3.out
      simp only [List.getElem?_toArray, List.getElem?_cons_zero, List.getElem?_cons_succ] at e0 e1 e2
      clear hW3
      obtain ⟨g, cap3, rfl⟩ : ∃ g cap3, v = .slice (some ⟨g, 0, none⟩) 31 cap3 := by
        obtain ⟨_, g, cap3, e, _⟩ := hu
        exact ⟨g, cap3, e⟩
      clear hu
      go_upto_region 6 with (with_reducible refine wpList_store_row rfl 36 (.tmp 7) (.tmp 27) rfl w2.heap.size K.toArray rfl rfl 36 #[.int .u64 0, .int .u64 0, .int .u64 0, .int .u64 0, .int .u64 0, .int .u64 0, .int .u64 0, .int .u64 0, .int .u64 0, .int .u64 0, .int .u64 0, .int .u64 0, .int .u64 0, .int .u64 0, .int .u64 0, .int .u64 0, .int .u64 0, .int .u64 0, .int .u64 0, .int .u64 0, .int .u64 0, .int .u64 0, .int .u64 0, .int .u64 0, .int .u64 0, .int .u64 0, .int .u64 0, .int .u64 0, .int .u64 0, .int .u64 0, .int .u64 0, .bool false, .int .u64 0, .int .u64 0, .int .u64 0] (heap_alloc2_old w2 _ _) z1.out z2.out z3.out ?_; rw [← HW3.out])
      obtain ⟨W4, hW4⟩ : ∃ W, W = ((W3.setCell ⟨w2.heap.size + 1, 0, none⟩ (.slice (some ⟨g, 0, none⟩) 31 cap3)).setCell ⟨w2.heap.size + 1, 1, none⟩ (.bool same)).setCell ⟨w2.heap.size + 1, 2, none⟩ (.slice (some ⟨sb, 2, none⟩) 3 3) := ⟨_, rfl⟩
      rw [← hW4]
      have O4 := Lib.hid (show Only (w2.heap.size + 1) W3 W4 by rw [hW4]; exact ((Only.set _ _).trans (Only.set _ _)).trans (Only.set _ _))
      have F4 := Lib.hid (show W4.heap[w2.heap.size]? = some (.cells K.toArray 36 (0, 0)) from (O4.out.block _ (by have := S3.out; omega) (by omega)).trans F3.out)
      have X4 := Lib.hid (show W4.heap[w.heap.size + 2]? = some (.cells #[.int .i64 op, .int .i64 d, .int .i64 n, .int .i64 m, .int .i64 imm, .int .i64 kind] 23) from (O4.out.block _ (by have := S3.out; have := L2.out; omega) (by have := L2.out; omega)).trans ((B3.out.block _ (by have := L2.out; omega)).trans X2e.out))
      have T4 := Lib.hid (show W4.heap[w.heap.size + 1]? = some (.cells #[.slice p2 len2 cap2, .bool same2, .int .u64 v0, .int .u64 v1, .int .u64 v2] 33) from (O4.out.block _ (by have := S3.out; have := L2.out; omega) (by have := L2.out; omega)).trans ((B3.out.block _ (by have := L2.out; omega)).trans T2e.out))
      have B4 := Lib.hid (show Below w.heap.size w W4 from B2.out.trans ((B3.out.trans (O4.out.below (by omega) (by have := S3.out; omega))).mono B2.out.size))
      have Z4 := Lib.hid (show w2.heap.size + 2 ≤ W4.heap.size by have := O4.out.size; have := S3.out; omega)
      clear hW4 e0 e1 e2 q0 q1 q2
      obtain ⟨B, hB⟩ : ∃ B, B = w2.heap.size := ⟨_, rfl⟩
      rw [← hB] at F4 Z4 L2 ⊢
      clear hB O4 F3 P3 B3 S3 HW3 B2 X2e T2e
      have b0 : W4.cell? ⟨w.heap.size + 1, 0, none⟩ = some (.slice p2 len2 cap2) := by rw [cell_of_row _ _ 0 _ _ _ T4.out]; rfl
      have b1 : W4.cell? ⟨w.heap.size + 1, 1, none⟩ = some (.bool same2) := by rw [cell_of_row _ _ 1 _ _ _ T4.out]; rfl
      have b2 : W4.cell? ⟨w.heap.size + 1, 2, none⟩ = some (.int .u64 v0) := by rw [cell_of_row _ _ 2 _ _ _ T4.out]; rfl
      have b3 : W4.cell? ⟨w.heap.size + 1, 3, none⟩ = some (.int .u64 v1) := by rw [cell_of_row _ _ 3 _ _ _ T4.out]; rfl
      have b4 : W4.cell? ⟨w.heap.size + 1, 4, none⟩ = some (.int .u64 v2) := by rw [cell_of_row _ _ 4 _ _ _ T4.out]; rfl
      go_wp2_with fail
      refine (FI2.out W4 (HZ2.out.keep B4.out)).mono ?_
      rintro e w5 ⟨v, sb5, rfl, hu, b⟩
      have F5 := Lib.hid (show w5.heap[B]? = some (.cells K.toArray 36 (0, 0)) from (b.block _ (by have := Z4.out; omega)).trans F4.out)
      have X5 := Lib.hid (show w5.heap[w.heap.size + 2]? = some (.cells #[.int .i64 op, .int .i64 d, .int .i64 n, .int .i64 m, .int .i64 imm, .int .i64 kind] 23) from (b.block _ (by have := Z4.out; have := L2.out; omega)).trans X4.out)
      have B5 := Lib.hid (show Below w.heap.size w w5 from B4.out.trans (b.mono B4.out.size))
      have Z5 := Lib.hid (show B + 2 ≤ w5.heap.size by have := b.size; have := Z4.out; omega)
      clear b b0 b1 b2 b3 b4
      rw [← KE2.out]
      obtain ⟨W6, hW6⟩ : ∃ W, W = ((w5.alloc (.cells #[.int .u64 0, .int .u64 0, .int .u64 0, .int .u64 0, .int .u64 0, .int .u64 0, .int .u64 0, .int .u64 0, .int .u64 0, .int .u64 0, .int .u64 0, .int .u64 0, .int .u64 0, .int .u64 0, .int .u64 0, .int .u64 0, .int .u64 0, .int .u64 0, .int .u64 0, .int .u64 0, .int .u64 0, .int .u64 0, .int .u64 0, .int .u64 0, .int .u64 0, .int .u64 0, .int .u64 0, .int .u64 0, .int .u64 0, .int .u64 0, .int .u64 0, .bool false, .int .u64 0, .int .u64 0, .int .u64 0] 36)).alloc (.cells #[.slice none 0 0, .bool false, .slice none 0 0] 38)).setRow w5.heap.size K2.toArray := ⟨_, rfl⟩
      have F6 := Lib.hid (show W6.heap[w5.heap.size]? = some (.cells K2.toArray 36 (0, 0)) by rw [hW6]; exact setRow_heap _ _ _ _ _ _ (heap_alloc2_old w5 _ _))
      have P6 := Lib.hid (show W6.heap[w5.heap.size + 1]? = some (.cells #[.slice none 0 0, .bool false, .slice none 0 0] 38 (0, 0)) by rw [hW6, setRow_other _ _ _ _ (by omega)]; exact heap_alloc2_new w5 _ _)
      have B6 := Lib.hid (show Below w5.heap.size w5 W6 by rw [hW6]; exact below_setRow (((Below.refl _ _).alloc (Nat.le_refl _) _).alloc (by simp) _) (Nat.le_refl _) _)
      have S6 := Lib.hid (show W6.heap.size = w5.heap.size + 2 by rw [hW6]; simp)
      have HW6 := Lib.hid hW6
      have e0 := cell_of_row W6 _ 0 _ _ _ P6.out
      have e1 := cell_of_row W6 _ 1 _ _ _ P6.out
      have e2 := cell_of_row W6 _ 2 _ _ _ P6.out
      have q0 := frozen_of_row W6 _ 0 _ _ P6.out
      have q1 := frozen_of_row W6 _ 1 _ _ P6.out
      have q2 := frozen_of_row W6 _ 2 _ _ P6.out
      simp only [List.getElem?_toArray, List.getElem?_cons_zero, List.getElem?_cons_succ] at e0 e1 e2
      clear hW6
      obtain ⟨g6, cap6, rfl⟩ : ∃ g6 cap6, v = .slice (some ⟨g6, 0, none⟩) 31 cap6 := by
        obtain ⟨_, g6, cap6, e, _⟩ := hu
        exact ⟨g6, cap6, e⟩
      clear hu
      go_upto_region 7 with (with_reducible refine wpList_store_row rfl 36 (.tmp 9) (.tmp 32) rfl w5.heap.size K2.toArray rfl rfl 36 #[.int .u64 0, .int .u64 0, .int .u64 0, .int .u64 0, .int .u64 0, .int .u64 0, .int .u64 0, .int .u64 0, .int .u64 0, .int .u64 0, .int .u64 0, .int .u64 0, .int .u64 0, .int .u64 0, .int .u64 0, .int .u64 0, .int .u64 0, .int .u64 0, .int .u64 0, .int .u64 0, .int .u64 0, .int .u64 0, .int .u64 0, .int .u64 0, .int .u64 0, .int .u64 0, .int .u64 0, .int .u64 0, .int .u64 0, .int .u64 0, .int .u64 0, .bool false, .int .u64 0, .int .u64 0, .int .u64 0] (heap_alloc2_old w5 _ _) u1.out u2.out u3.out ?_; rw [← HW6.out])
      obtain ⟨W7, hW7⟩ : ∃ W, W = ((W6.setCell ⟨w5.heap.size + 1, 0, none⟩ (.slice (some ⟨g6, 0, none⟩) 31 cap6)).setCell ⟨w5.heap.size + 1, 1, none⟩ (.bool same2)).setCell ⟨w5.heap.size + 1, 2, none⟩ (.slice (some ⟨sb5, 2, none⟩) 3 3) := ⟨_, rfl⟩
      rw [← hW7]
      have O7 := Lib.hid (show Only (w5.heap.size + 1) W6 W7 by rw [hW7]; exact ((Only.set _ _).trans (Only.set _ _)).trans (Only.set _ _))
      have G7 := Lib.hid (show FAt W7 w5.heap.size R2 same2 [v0, v1, v2] from ⟨(O7.out.block _ (by have := S6.out; omega) (by omega)).trans (by rw [← KE2.out]; exact F6.out), RL2.out, rfl⟩)
      have F7 := Lib.hid (show FAt W7 B R same [y0, y1, y2] from ⟨(O7.out.block _ (by have := S6.out; have := Z5.out; omega) (by have := Z5.out; omega)).trans ((B6.out.block _ (by have := Z5.out; omega)).trans (by rw [← KE.out]; exact F5.out)), RL.out, rfl⟩)
      have X7 := Lib.hid (show W7.heap[w.heap.size + 2]? = some (.cells #[.int .i64 op, .int .i64 d, .int .i64 n, .int .i64 m, .int .i64 imm, .int .i64 kind] 23) from (O7.out.block _ (by have := S6.out; have := Z5.out; have := L2.out; omega) (by have := Z5.out; have := L2.out; omega)).trans ((B6.out.block _ (by have := Z5.out; have := L2.out; omega)).trans X5.out))
      have B7 := Lib.hid (show Below w.heap.size w W7 from B5.out.trans ((B6.out.trans (O7.out.below (by omega) (by have := S6.out; omega))).mono B5.out.size))
      clear hW7 e0 e1 e2 q0 q1 q2
      obtain ⟨G, hG⟩ : ∃ G, G = w5.heap.size := ⟨_, rfl⟩
      rw [← hG] at G7 Z5 ⊢
      clear hG O7 F6 P6 B6 S6 HW6 B5 X5 F5 B4 X4 T4 F4 Z4
      have r0 : W7.cell? ⟨B, 32, none⟩ = some (.int .u64 y0) := F7.out.sys 0 (by decide)
      have r1 : W7.cell? ⟨B, 33, none⟩ = some (.int .u64 y1) := F7.out.sys 1 (by decide)
      have r2 : W7.cell? ⟨B, 34, none⟩ = some (.int .u64 y2) := F7.out.sys 2 (by decide)
      have e0 : W7.cell? ⟨G, 32, none⟩ = some (.int .u64 v0) := G7.out.sys 0 (by decide)
      have e1 : W7.cell? ⟨G, 33, none⟩ = some (.int .u64 v1) := G7.out.sys 1 (by decide)
      have e2 : W7.cell? ⟨G, 34, none⟩ = some (.int .u64 v2) := G7.out.sys 2 (by decide)
      have q0 := G7.out.free 32
      have q1 := G7.out.free 33
      have q2 := G7.out.free 34
      go_upto_region 8 with fail
      obtain ⟨W8, hW8⟩ : ∃ W, W = ((W7.setCell ⟨G, 32, none⟩ (.int .u64 y0)).setCell ⟨G, 33, none⟩ (.int .u64 y1)).setCell ⟨G, 34, none⟩ (.int .u64 y2) := ⟨_, rfl⟩
      rw [← hW8]
      have O8 := Lib.hid (show Only G W7 W8 by rw [hW8]; exact ((Only.set _ _).trans (Only.set _ _)).trans (Only.set _ _))
      have G8 := Lib.hid (show FAt W8 G R2 same2 [y0, y1, y2] by rw [hW8]; exact ((G7.out.set_sys 0 (by decide) y0).set_sys 1 (by decide) y1).set_sys 2 (by decide) y2)
      have S8 := Lib.hid (show LD w W8 B G R R2 same same2 [y0, y1, y2] (.cells #[.int .i64 op, .int .i64 d, .int .i64 n, .int .i64 m, .int .i64 imm, .int .i64 kind] 23) from
        ⟨F7.out.other O8.out (by have := Z5.out; omega), G8.out, (O8.out.block _ (by have := F7.out.lt; have := L2.out; omega) (by have := Z5.out; have := L2.out; omega)).trans X7.out,
         B7.out.trans ((O8.out.below (by have := Z5.out; have := L2.out; omega) B7.out.size).mono (Nat.le_refl _)), L2.out, by have := Z5.out; have := L2.out; omega, by have := Z5.out; omega⟩)
      clear hW8 r0 r1 r2 e0 e1 e2 q0 q1 q2 O8 G8 F7 G7 X7 B7
      have c0 : W8.cell? ⟨w.heap.size + 2, 0, none⟩ = some (.int .i64 op) := by rw [cell_of_row _ _ 0 _ _ _ S8.out.xb]; rfl
      have c1 : W8.cell? ⟨w.heap.size + 2, 1, none⟩ = some (.int .i64 d) := by rw [cell_of_row _ _ 1 _ _ _ S8.out.xb]; rfl
      have c2 : W8.cell? ⟨w.heap.size + 2, 2, none⟩ = some (.int .i64 n) := by rw [cell_of_row _ _ 2 _ _ _ S8.out.xb]; rfl
      have c3 : W8.cell? ⟨w.heap.size + 2, 3, none⟩ = some (.int .i64 m) := by rw [cell_of_row _ _ 3 _ _ _ S8.out.xb]; rfl
      have c4 : W8.cell? ⟨w.heap.size + 2, 4, none⟩ = some (.int .i64 imm) := by rw [cell_of_row _ _ 4 _ _ _ S8.out.xb]; rfl
      have c5 : W8.cell? ⟨w.heap.size + 2, 5, none⟩ = some (.int .i64 kind) := by rw [cell_of_row _ _ 5 _ _ _ S8.out.xb]; rfl
      go_wp2_with fail
      refine (DA0.out W8).mono ?_
      rintro e w9 ⟨v9, rfl, hv9, b9⟩
      have S9 := Lib.hid (S8.out.below b9)
      have V9 := Lib.hid hv9
      clear b9 hv9 c0 c1 c2 c3 c4 c5 S8
      obtain ⟨L, hL⟩ : ∃ L, L = GrG.toldL (GrG.dataA op d n m) := ⟨_, rfl⟩
      have HL := Lib.hid hL
      rw [← hL] at V9
      have Ll := Lib.hid (show L.length ≤ 2 by rw [hL]; have := GrG.toldL_len (GrG.dataA op d n m) (GrG.dataA op d n m).length; rw [List.take_of_length_le (Nat.le_refl _)] at this; have := GrG.len_data op d n m; omega)
      clear hL
      rcases V9.out with ⟨rfl, hLn⟩ | ⟨gl, capl, rfl, hal⟩
      · have HLe := Lib.hid (show (0 : Nat) = L.length by rw [hLn]; rfl)
        clear hLn
        go_wp2_with fail
        go_loopw [12] (fun i wr => ∃ (q : Nat) (X2 : List Int) (s2 : Bool), q ≤ 0 ∧ i = .int .i64 q ∧ LD w wr B G R X2 same s2 [y0, y1, y2] (.cells #[.int .i64 op, .int .i64 d, .int .i64 n, .int .i64 m, .int .i64 imm, .int .i64 kind] 23) ∧ GrG.Agr R X2 same s2 L q) (fun i _ => 0 - (intOf i).toNat)
        case atStart => exact ⟨0, R2, same2, by omega, rfl, S9.out, GrG.Agr.start _ _ _ _ _⟩
        case round =>
          obtain ⟨q, X2, s2, hq, rfl, hs, hag⟩ := hrel
          have SR := Lib.hid hs
          have AG := Lib.hid hag
          clear hs hag
          by_cases cq : q < 0
          · omega
          · obtain rfl : 0 = q := by omega
            have AE := Lib.hid (show GrG.Agr R X2 same s2 (GrG.toldL (GrG.dataA op d n m)) (GrG.toldL (GrG.dataA op d n m)).length by rw [← HL.out, ← HLe.out]; exact AG.out)
            have l2 := Lib.hid SR.out.g.lX
            have TK := Lib.hid (GrG.hang_taken (kind := kind) AE.out hd)
            have HS := Lib.hid (GrG.hang_s AE.out hd hn hm)
            have HX := Lib.hid (fun z hz hne => GrG.hang_x (imm := imm) (kind := kind) (Y := [y0, y1, y2]) AE.out RL.out l2.out hd0 hd hn hm hl1 hl2 (z := z) hz hne)
            have S10 := Lib.hid SR.out
            clear SR AG AE S9 HLe HL Ll
            have T1 := Lib.hid (fun w h => taken_any B R [y0, y1, y2] same op d n m imm kind w h)
            have T2 := Lib.hid (fun w h => taken_any G X2 [y0, y1, y2] s2 op d n m imm kind w h)
            rw [TK.out] at T2
            obtain ⟨tb, htb⟩ : ∃ tb, tb = GrG.takenB op kind R same d := ⟨_, rfl⟩
            rw [← htb] at T1 T2
            clear htb TK
            have tt : (tb != tb) = false := by simp
            have KX := Lib.hid (fun y : Wb wr => S10.out.below y.bel)
            have c0 : ∀ y : Wb wr, y.at.cell? ⟨w.heap.size + 2, 0, none⟩ = some (.int .i64 op) := fun y => by rw [cell_of_row _ _ 0 _ _ _ (KX.out y).xb]; rfl
            have c1 : ∀ y : Wb wr, y.at.cell? ⟨w.heap.size + 2, 1, none⟩ = some (.int .i64 d) := fun y => by rw [cell_of_row _ _ 1 _ _ _ (KX.out y).xb]; rfl
            have c2 : ∀ y : Wb wr, y.at.cell? ⟨w.heap.size + 2, 2, none⟩ = some (.int .i64 n) := fun y => by rw [cell_of_row _ _ 2 _ _ _ (KX.out y).xb]; rfl
            have c3 : ∀ y : Wb wr, y.at.cell? ⟨w.heap.size + 2, 3, none⟩ = some (.int .i64 m) := fun y => by rw [cell_of_row _ _ 3 _ _ _ (KX.out y).xb]; rfl
            have c4 : ∀ y : Wb wr, y.at.cell? ⟨w.heap.size + 2, 4, none⟩ = some (.int .i64 imm) := fun y => by rw [cell_of_row _ _ 4 _ _ _ (KX.out y).xb]; rfl
            have c5 : ∀ y : Wb wr, y.at.cell? ⟨w.heap.size + 2, 5, none⟩ = some (.int .i64 kind) := fun y => by rw [cell_of_row _ _ 5 _ _ _ (KX.out y).xb]; rfl
            go_wp2_with fail
            refine wp_region_wb (by kernel_rfl) (by kernel_rfl) ?_
            repeat (go_big_quiet_step (first | (go_at_call 31; with_reducible exact Calls.wb (x := _) (T1.out _ (KX.out _).f)) | (go_at_call 31; with_reducible exact Calls.wb (x := _) (T2.out _ (KX.out _).g))))
            refine wpQuiet_nil ?_
            rintro _ ⟨x4, rfl⟩
            have S11 := Lib.hid (KX.out x4)
            go_wp2_with fail
            refine (DO0.out B R same _ S11.out.f).mono ?_
            rintro e w12 ⟨rfl, o, f⟩
            have S12 := Lib.hid (S11.out.onlyB o f)
            clear o f c0 c1 c2 c3 c4 c5 KX S10 S11
            have c0 : w12.cell? ⟨w.heap.size + 2, 0, none⟩ = some (.int .i64 op) := by rw [cell_of_row _ _ 0 _ _ _ S12.out.xb]; rfl
            have c1 : w12.cell? ⟨w.heap.size + 2, 1, none⟩ = some (.int .i64 d) := by rw [cell_of_row _ _ 1 _ _ _ S12.out.xb]; rfl
            have c2 : w12.cell? ⟨w.heap.size + 2, 2, none⟩ = some (.int .i64 n) := by rw [cell_of_row _ _ 2 _ _ _ S12.out.xb]; rfl
            have c3 : w12.cell? ⟨w.heap.size + 2, 3, none⟩ = some (.int .i64 m) := by rw [cell_of_row _ _ 3 _ _ _ S12.out.xb]; rfl
            have c4 : w12.cell? ⟨w.heap.size + 2, 4, none⟩ = some (.int .i64 imm) := by rw [cell_of_row _ _ 4 _ _ _ S12.out.xb]; rfl
            have c5 : w12.cell? ⟨w.heap.size + 2, 5, none⟩ = some (.int .i64 kind) := by rw [cell_of_row _ _ 5 _ _ _ S12.out.xb]; rfl
            go_wp2_with fail
            refine (DO0.out G X2 s2 _ S12.out.g).mono ?_
            rintro e w13 ⟨rfl, o, f⟩
            have S13 := Lib.hid (S12.out.onlyG o f)
            clear o f c0 c1 c2 c3 c4 c5 S12
            have c0 : w13.cell? ⟨w.heap.size + 2, 0, none⟩ = some (.int .i64 op) := by rw [cell_of_row _ _ 0 _ _ _ S13.out.xb]; rfl
            have c1 : w13.cell? ⟨w.heap.size + 2, 1, none⟩ = some (.int .i64 d) := by rw [cell_of_row _ _ 1 _ _ _ S13.out.xb]; rfl
            have c2 : w13.cell? ⟨w.heap.size + 2, 2, none⟩ = some (.int .i64 n) := by rw [cell_of_row _ _ 2 _ _ _ S13.out.xb]; rfl
            have c3 : w13.cell? ⟨w.heap.size + 2, 3, none⟩ = some (.int .i64 m) := by rw [cell_of_row _ _ 3 _ _ _ S13.out.xb]; rfl
            have c4 : w13.cell? ⟨w.heap.size + 2, 4, none⟩ = some (.int .i64 imm) := by rw [cell_of_row _ _ 4 _ _ _ S13.out.xb]; rfl
            have c5 : w13.cell? ⟨w.heap.size + 2, 5, none⟩ = some (.int .i64 kind) := by rw [cell_of_row _ _ 5 _ _ _ S13.out.xb]; rfl
            go_wp2_with fail
            refine (SE0.out w13).mono ?_
            rintro e w14 ⟨v14, rfl, hv14, b⟩
            have S14 := Lib.hid (S13.out.below b)
            have V14 := Lib.hid hv14
            clear b hv14 c0 c1 c2 c3 c4 c5 S13
            obtain ⟨X3, hX3⟩ : ∃ X3, X3 = GrG.doX op d n m imm kind R [y0, y1, y2] := ⟨_, rfl⟩
            obtain ⟨X4, hX4⟩ : ∃ X4, X4 = GrG.doX op d n m imm kind X2 [y0, y1, y2] := ⟨_, rfl⟩
            obtain ⟨s3, hs3⟩ : ∃ s3, s3 = GrG.doS op n m R same := ⟨_, rfl⟩
            obtain ⟨s4, hs4⟩ : ∃ s4, s4 = GrG.doS op n m X2 s2 := ⟨_, rfl⟩
            rw [← hX3, ← hX4] at HX
            rw [← hs3, ← hs4] at HS
            rw [← hX3, ← hX4, ← hs3, ← hs4] at S14
            clear hX3 hX4 hs3 hs4
            obtain ⟨L3, hL3⟩ : ∃ L3, L3 = GrG.toldL (GrG.setsA op d) := ⟨_, rfl⟩
            rw [← hL3] at V14 HX HS
            have L3l := Lib.hid (show L3.length ≤ 2 by rw [hL3]; have := GrG.toldL_len (GrG.setsA op d) (GrG.setsA op d).length; rw [List.take_of_length_le (Nat.le_refl _)] at this; have := GrG.len_sets op d; omega)
            clear hL3
            rcases V14.out with ⟨rfl, hLn⟩ | ⟨g3, cap9, rfl, hal3⟩
            · clear hLn
              go_wp2_with fail
              go_loopw [14] (fun i wr => ∃ q : Nat, q ≤ 0 ∧ i = .int .i64 q ∧ LD w wr B G X3 X4 s3 s4 [y0, y1, y2] (.cells #[.int .i64 op, .int .i64 d, .int .i64 n, .int .i64 m, .int .i64 imm, .int .i64 kind] 23)) (fun i _ => 0 - (intOf i).toNat)
              case atStart => exact ⟨0, by omega, rfl, S14.out⟩
              case round =>
                obtain ⟨q, hq, rfl, hs⟩ := hrel
                have SR := Lib.hid hs
                clear hs
                by_cases cq : q < 0
                · omega
                · obtain rfl : 0 = q := by omega
                  go_wp2
                  go_ret
                  exact ⟨rfl, SR.out.bel⟩
            · have HLA3 := Lib.hid hal3
              clear hal3
              obtain ⟨Q3, hQ3⟩ : ∃ Q, Q = L3.length := ⟨_, rfl⟩
              have HLe3 := Lib.hid hQ3
              rw [← hQ3]
              have Q32 : Q3 ≤ 2 := by rw [hQ3]; exact L3l.out
              clear hQ3
              go_wp2_with fail
              go_loopw [14] (fun i wr => ∃ q : Nat, q ≤ Q3 ∧ i = .int .i64 q ∧ LD w wr B G X3 X4 s3 s4 [y0, y1, y2] (.cells #[.int .i64 op, .int .i64 d, .int .i64 n, .int .i64 m, .int .i64 imm, .int .i64 kind] 23) ∧ IAt wr g3 L3) (fun i _ => Q3 - (intOf i).toNat)
              case atStart => exact ⟨0, by omega, rfl, S14.out, HLA3.out⟩
              case round =>
                obtain ⟨q, hq, rfl, hs, hi⟩ := hrel
                have SR := Lib.hid hs
                clear hs
                have HI := Lib.hid hi
                clear hi
                by_cases cq : q < Q3
                · have hc := HI.out q (by rw [← HLe3.out]; exact cq)
                  have HM := Lib.hid (show L3.getD q 0 ∈ L3 by rw [List.getD_eq_getElem?_getD, List.getElem?_eq_getElem (by rw [← HLe3.out]; exact cq)]; exact List.getElem_mem _)
                  obtain ⟨z, hz⟩ : ∃ z, z = L3.getD q 0 := ⟨_, rfl⟩
                  rw [← hz] at hc HM
                  clear hz
                  have l0 : (0 : Int) ≤ (q : Int) := by omega
                  have l1 : (q : Int) < (Q3 : Int) := by omega
                  have KX := Lib.hid (fun y : Wb wr => SR.out.below y.bel)
                  have cl : ∀ y : Wb wr, y.at.cell? ⟨g3, q, none⟩ = some (.int .i64 z) := fun y => (y.cell _ (World.block_lt_of_cell? wr _ hc)).trans hc
                  clear hc
                  by_cases c32 : z = 32
                  · subst c32
                    have e4 := HS.out HM.out
                    subst e4
                    have e31 : ∀ y : Wb wr, y.at.cell? ⟨B, 31, none⟩ = some (.bool s4) := fun y => (KX.out y).f.same
                    have e31g : ∀ y : Wb wr, y.at.cell? ⟨G, 31, none⟩ = some (.bool s4) := fun y => (KX.out y).g.same
                    have tt3 : (s4 != s4) = false := by simp
                    go_wp2_with fail
                    refine wp_region_wb (by kernel_rfl) (by kernel_rfl) ?_
                    repeat (go_big_quiet_step (fail))
                    refine wpQuiet_nil ?_
                    rintro _ ⟨x5, rfl⟩
                    go_wp2
                    go_roundw
                    case rel => exact ⟨q + 1, by omega, by go_num, KX.out x5, HI.out.keep x5.bel⟩
                    case measure => simp [intOf]; omega
                  · have cb : (z == 32) = false := by simpa using c32
                    have cb2 : (z != 32) = true := by simpa using c32
                    have GA := Lib.hid (fun w h => get_below B X3 [y0, y1, y2] s3 z w h)
                    have GB := Lib.hid (fun w h => get_below G X4 [y0, y1, y2] s4 z w h)
                    rw [HX.out z HM.out c32] at GB
                    clear c32
                    obtain ⟨u, hu⟩ : ∃ u, u = GrG.getL X3 z := ⟨_, rfl⟩
                    rw [← hu] at GA GB
                    clear hu
                    have tt3 : (u != u) = false := by simp
                    go_wp2_with fail
                    refine wp_region_wb (by kernel_rfl) (by kernel_rfl) ?_
                    repeat (go_big_quiet_step (first | (go_at_call 25; with_reducible exact Calls.wb (x := _) (GA.out _ (KX.out _).f)) | (go_at_call 25; with_reducible exact Calls.wb (x := _) (GB.out _ (KX.out _).g))))
                    refine wpQuiet_nil ?_
                    rintro _ ⟨x5, rfl⟩
                    go_wp2
                    go_roundw
                    case rel => exact ⟨q + 1, by omega, by go_num, KX.out x5, HI.out.keep x5.bel⟩
                    case measure => simp [intOf]; omega
                · obtain rfl : Q3 = q := by omega
                  go_wp2
                  go_ret
                  exact ⟨rfl, SR.out.bel⟩
      · have HLA := Lib.hid hal
        clear hal
        obtain ⟨Q, hQ⟩ : ∃ Q, Q = L.length := ⟨_, rfl⟩
        have HLe := Lib.hid hQ
        rw [← hQ]
        have Q2 : Q ≤ 2 := by rw [hQ]; exact Ll.out
        clear hQ
        go_wp2_with fail
        go_loopw [12] (fun i wr => ∃ (q : Nat) (X2 : List Int) (s2 : Bool), q ≤ Q ∧ i = .int .i64 q ∧ LD w wr B G R X2 same s2 [y0, y1, y2] (.cells #[.int .i64 op, .int .i64 d, .int .i64 n, .int .i64 m, .int .i64 imm, .int .i64 kind] 23) ∧ GrG.Agr R X2 same s2 L q ∧ IAt wr gl L) (fun i _ => Q - (intOf i).toNat)
        case atStart => exact ⟨0, R2, same2, by omega, rfl, S9.out, GrG.Agr.start _ _ _ _ _, HLA.out⟩
        case round =>
          obtain ⟨q, X2, s2, hq, rfl, hs, hag, hi⟩ := hrel
          have SR := Lib.hid hs
          have AG := Lib.hid hag
          clear hs hag
          have HI := Lib.hid hi
          clear hi
          by_cases cq : q < Q
          · have hc := HI.out q (by rw [← HLe.out]; exact cq)
            have g0 := Lib.hid (iat_ne hc (by omega) SR.out.g)
            have AF := Lib.hid (fun (e : L.getD q 0 = 32) => AG.out.flag (by rw [← HLe.out]; exact cq) e)
            have AR := Lib.hid (fun (e : L.getD q 0 ≠ 32) => AG.out.reg (by rw [← HLe.out]; exact cq) SR.out.g.lX e)
            obtain ⟨z, hz⟩ : ∃ z, z = L.getD q 0 := ⟨_, rfl⟩
            rw [← hz] at hc AF AR
            clear hz
            have l0 : (0 : Int) ≤ (q : Int) := by omega
            have l1 : (q : Int) < (Q : Int) := by omega
            by_cases c32 : z = 32
            · subst c32
              have e31 := SR.out.f.same
              have e31g := SR.out.g.same
              have f31 := SR.out.g.free 31
              go_wp2
              go_roundw
              case rel => exact ⟨q + 1, X2, same, by omega, by go_num, SR.out.onlyG (Only.set _ _) (SR.out.g.set_same same), AF.out rfl, HI.out.only (Only.set _ _) g0.out⟩
              case measure => simp [intOf]; omega
            · have cb : (z == 32) = false := by simpa using c32
              have CZ := Lib.hid c32
              clear c32
              obtain ⟨u, hu⟩ : ∃ u, u = GrG.getL R z := ⟨_, rfl⟩
              have GA := Lib.hid (fun w h => hu ▸ get_below B R [y0, y1, y2] same z w h)
              rw [← hu] at AR
              clear hu
              have SE := Lib.hid (fun w h => set_any G X2 [y0, y1, y2] s2 z u w h)
              have KX := Lib.hid (fun y : Wb wr => SR.out.below y.bel)
              have cl : ∀ y : Wb wr, y.at.cell? ⟨gl, q, none⟩ = some (.int .i64 z) := fun y => (y.cell _ (World.block_lt_of_cell? wr _ hc)).trans hc
              go_wp2_with fail
              clear hc
              refine wp_region_wb_tail 9 (by kernel_rfl) (by kernel_rfl) ?_
              simp only [List.take_succ_cons, List.take_zero, List.drop_succ_cons, List.drop_zero]
              repeat (go_big_quiet_step ((go_at_call 25; exact Calls.wb (GA.out _ (KX.out _).f))))
              refine wpQuiet_nil ?_
              rintro _ ⟨x4, rfl⟩
              go_wp2_with fail
              refine (SE.out _ (KX.out x4).g).mono ?_
              rintro e w10 ⟨rfl, o2, f2⟩
              have O2 := Lib.hid o2
              have F2 := Lib.hid f2
              clear o2 f2
              go_wp2
              go_roundw
              case rel => exact ⟨q + 1, GrG.setL X2 z u, s2, by omega, by go_num, (KX.out x4).onlyG O2.out F2.out, AR.out CZ.out, (HI.out.keep x4.bel).only O2.out g0.out⟩
              case measure => simp [intOf]; omega
          · obtain rfl : Q = q := by omega
            have AE := Lib.hid (show GrG.Agr R X2 same s2 (GrG.toldL (GrG.dataA op d n m)) (GrG.toldL (GrG.dataA op d n m)).length by rw [← HL.out, ← HLe.out]; exact AG.out)
            have l2 := Lib.hid SR.out.g.lX
            have TK := Lib.hid (GrG.hang_taken (kind := kind) AE.out hd)
            have HS := Lib.hid (GrG.hang_s AE.out hd hn hm)
            have HX := Lib.hid (fun z hz hne => GrG.hang_x (imm := imm) (kind := kind) (Y := [y0, y1, y2]) AE.out RL.out l2.out hd0 hd hn hm hl1 hl2 (z := z) hz hne)
            have S10 := Lib.hid SR.out
            clear SR AG AE S9 HLe HL Ll
            have T1 := Lib.hid (fun w h => taken_any B R [y0, y1, y2] same op d n m imm kind w h)
            have T2 := Lib.hid (fun w h => taken_any G X2 [y0, y1, y2] s2 op d n m imm kind w h)
            rw [TK.out] at T2
            obtain ⟨tb, htb⟩ : ∃ tb, tb = GrG.takenB op kind R same d := ⟨_, rfl⟩
            rw [← htb] at T1 T2
            clear htb TK
            have tt : (tb != tb) = false := by simp
            have KX := Lib.hid (fun y : Wb wr => S10.out.below y.bel)
            have c0 : ∀ y : Wb wr, y.at.cell? ⟨w.heap.size + 2, 0, none⟩ = some (.int .i64 op) := fun y => by rw [cell_of_row _ _ 0 _ _ _ (KX.out y).xb]; rfl
            have c1 : ∀ y : Wb wr, y.at.cell? ⟨w.heap.size + 2, 1, none⟩ = some (.int .i64 d) := fun y => by rw [cell_of_row _ _ 1 _ _ _ (KX.out y).xb]; rfl
            have c2 : ∀ y : Wb wr, y.at.cell? ⟨w.heap.size + 2, 2, none⟩ = some (.int .i64 n) := fun y => by rw [cell_of_row _ _ 2 _ _ _ (KX.out y).xb]; rfl
            have c3 : ∀ y : Wb wr, y.at.cell? ⟨w.heap.size + 2, 3, none⟩ = some (.int .i64 m) := fun y => by rw [cell_of_row _ _ 3 _ _ _ (KX.out y).xb]; rfl
            have c4 : ∀ y : Wb wr, y.at.cell? ⟨w.heap.size + 2, 4, none⟩ = some (.int .i64 imm) := fun y => by rw [cell_of_row _ _ 4 _ _ _ (KX.out y).xb]; rfl
            have c5 : ∀ y : Wb wr, y.at.cell? ⟨w.heap.size + 2, 5, none⟩ = some (.int .i64 kind) := fun y => by rw [cell_of_row _ _ 5 _ _ _ (KX.out y).xb]; rfl
            go_wp2_with fail
            refine wp_region_wb (by kernel_rfl) (by kernel_rfl) ?_
            repeat (go_big_quiet_step (first | (go_at_call 31; with_reducible exact Calls.wb (x := _) (T1.out _ (KX.out _).f)) | (go_at_call 31; with_reducible exact Calls.wb (x := _) (T2.out _ (KX.out _).g))))
            refine wpQuiet_nil ?_
            rintro _ ⟨x4, rfl⟩
            have S11 := Lib.hid (KX.out x4)
            go_wp2_with fail
            refine (DO0.out B R same _ S11.out.f).mono ?_
            rintro e w12 ⟨rfl, o, f⟩
            have S12 := Lib.hid (S11.out.onlyB o f)
            clear o f c0 c1 c2 c3 c4 c5 KX S10 S11
            have c0 : w12.cell? ⟨w.heap.size + 2, 0, none⟩ = some (.int .i64 op) := by rw [cell_of_row _ _ 0 _ _ _ S12.out.xb]; rfl
            have c1 : w12.cell? ⟨w.heap.size + 2, 1, none⟩ = some (.int .i64 d) := by rw [cell_of_row _ _ 1 _ _ _ S12.out.xb]; rfl
            have c2 : w12.cell? ⟨w.heap.size + 2, 2, none⟩ = some (.int .i64 n) := by rw [cell_of_row _ _ 2 _ _ _ S12.out.xb]; rfl
            have c3 : w12.cell? ⟨w.heap.size + 2, 3, none⟩ = some (.int .i64 m) := by rw [cell_of_row _ _ 3 _ _ _ S12.out.xb]; rfl
            have c4 : w12.cell? ⟨w.heap.size + 2, 4, none⟩ = some (.int .i64 imm) := by rw [cell_of_row _ _ 4 _ _ _ S12.out.xb]; rfl
            have c5 : w12.cell? ⟨w.heap.size + 2, 5, none⟩ = some (.int .i64 kind) := by rw [cell_of_row _ _ 5 _ _ _ S12.out.xb]; rfl
            go_wp2_with fail
            refine (DO0.out G X2 s2 _ S12.out.g).mono ?_
            rintro e w13 ⟨rfl, o, f⟩
            have S13 := Lib.hid (S12.out.onlyG o f)
            clear o f c0 c1 c2 c3 c4 c5 S12
            have c0 : w13.cell? ⟨w.heap.size + 2, 0, none⟩ = some (.int .i64 op) := by rw [cell_of_row _ _ 0 _ _ _ S13.out.xb]; rfl
            have c1 : w13.cell? ⟨w.heap.size + 2, 1, none⟩ = some (.int .i64 d) := by rw [cell_of_row _ _ 1 _ _ _ S13.out.xb]; rfl
            have c2 : w13.cell? ⟨w.heap.size + 2, 2, none⟩ = some (.int .i64 n) := by rw [cell_of_row _ _ 2 _ _ _ S13.out.xb]; rfl
            have c3 : w13.cell? ⟨w.heap.size + 2, 3, none⟩ = some (.int .i64 m) := by rw [cell_of_row _ _ 3 _ _ _ S13.out.xb]; rfl
            have c4 : w13.cell? ⟨w.heap.size + 2, 4, none⟩ = some (.int .i64 imm) := by rw [cell_of_row _ _ 4 _ _ _ S13.out.xb]; rfl
            have c5 : w13.cell? ⟨w.heap.size + 2, 5, none⟩ = some (.int .i64 kind) := by rw [cell_of_row _ _ 5 _ _ _ S13.out.xb]; rfl
            go_wp2_with fail
            refine (SE0.out w13).mono ?_
            rintro e w14 ⟨v14, rfl, hv14, b⟩
            have S14 := Lib.hid (S13.out.below b)
            have V14 := Lib.hid hv14
            clear b hv14 c0 c1 c2 c3 c4 c5 S13
            obtain ⟨X3, hX3⟩ : ∃ X3, X3 = GrG.doX op d n m imm kind R [y0, y1, y2] := ⟨_, rfl⟩
            obtain ⟨X4, hX4⟩ : ∃ X4, X4 = GrG.doX op d n m imm kind X2 [y0, y1, y2] := ⟨_, rfl⟩
            obtain ⟨s3, hs3⟩ : ∃ s3, s3 = GrG.doS op n m R same := ⟨_, rfl⟩
            obtain ⟨s4, hs4⟩ : ∃ s4, s4 = GrG.doS op n m X2 s2 := ⟨_, rfl⟩
            rw [← hX3, ← hX4] at HX
            rw [← hs3, ← hs4] at HS
            rw [← hX3, ← hX4, ← hs3, ← hs4] at S14
            clear hX3 hX4 hs3 hs4
            obtain ⟨L3, hL3⟩ : ∃ L3, L3 = GrG.toldL (GrG.setsA op d) := ⟨_, rfl⟩
            rw [← hL3] at V14 HX HS
            have L3l := Lib.hid (show L3.length ≤ 2 by rw [hL3]; have := GrG.toldL_len (GrG.setsA op d) (GrG.setsA op d).length; rw [List.take_of_length_le (Nat.le_refl _)] at this; have := GrG.len_sets op d; omega)
            clear hL3
            rcases V14.out with ⟨rfl, hLn⟩ | ⟨g3, cap9, rfl, hal3⟩
            · clear hLn
              go_wp2_with fail
              go_loopw [14] (fun i wr => ∃ q : Nat, q ≤ 0 ∧ i = .int .i64 q ∧ LD w wr B G X3 X4 s3 s4 [y0, y1, y2] (.cells #[.int .i64 op, .int .i64 d, .int .i64 n, .int .i64 m, .int .i64 imm, .int .i64 kind] 23)) (fun i _ => 0 - (intOf i).toNat)
              case atStart => exact ⟨0, by omega, rfl, S14.out⟩
              case round =>
                obtain ⟨q, hq, rfl, hs⟩ := hrel
                have SR := Lib.hid hs
                clear hs
                by_cases cq : q < 0
                · omega
                · obtain rfl : 0 = q := by omega
                  go_wp2
                  go_ret
                  exact ⟨rfl, SR.out.bel⟩
            · have HLA3 := Lib.hid hal3
              clear hal3
              obtain ⟨Q3, hQ3⟩ : ∃ Q, Q = L3.length := ⟨_, rfl⟩
              have HLe3 := Lib.hid hQ3
              rw [← hQ3]
              have Q32 : Q3 ≤ 2 := by rw [hQ3]; exact L3l.out
              clear hQ3
              go_wp2_with fail
              go_loopw [14] (fun i wr => ∃ q : Nat, q ≤ Q3 ∧ i = .int .i64 q ∧ LD w wr B G X3 X4 s3 s4 [y0, y1, y2] (.cells #[.int .i64 op, .int .i64 d, .int .i64 n, .int .i64 m, .int .i64 imm, .int .i64 kind] 23) ∧ IAt wr g3 L3) (fun i _ => Q3 - (intOf i).toNat)
              case atStart => exact ⟨0, by omega, rfl, S14.out, HLA3.out⟩
              case round =>
                obtain ⟨q, hq, rfl, hs, hi⟩ := hrel
                have SR := Lib.hid hs
                clear hs
                have HI := Lib.hid hi
                clear hi
                by_cases cq : q < Q3
                · have hc := HI.out q (by rw [← HLe3.out]; exact cq)
                  have HM := Lib.hid (show L3.getD q 0 ∈ L3 by rw [List.getD_eq_getElem?_getD, List.getElem?_eq_getElem (by rw [← HLe3.out]; exact cq)]; exact List.getElem_mem _)
                  obtain ⟨z, hz⟩ : ∃ z, z = L3.getD q 0 := ⟨_, rfl⟩
                  rw [← hz] at hc HM
                  clear hz
                  have l0 : (0 : Int) ≤ (q : Int) := by omega
                  have l1 : (q : Int) < (Q3 : Int) := by omega
                  have KX := Lib.hid (fun y : Wb wr => SR.out.below y.bel)
                  have cl : ∀ y : Wb wr, y.at.cell? ⟨g3, q, none⟩ = some (.int .i64 z) := fun y => (y.cell _ (World.block_lt_of_cell? wr _ hc)).trans hc
                  clear hc
                  by_cases c32 : z = 32
                  · subst c32
                    have e4 := HS.out HM.out
                    subst e4
                    have e31 : ∀ y : Wb wr, y.at.cell? ⟨B, 31, none⟩ = some (.bool s4) := fun y => (KX.out y).f.same
                    have e31g : ∀ y : Wb wr, y.at.cell? ⟨G, 31, none⟩ = some (.bool s4) := fun y => (KX.out y).g.same
                    have tt3 : (s4 != s4) = false := by simp
                    go_wp2_with fail
                    refine wp_region_wb (by kernel_rfl) (by kernel_rfl) ?_
                    repeat (go_big_quiet_step (fail))
                    refine wpQuiet_nil ?_
                    rintro _ ⟨x5, rfl⟩
                    go_wp2
                    go_roundw
                    case rel => exact ⟨q + 1, by omega, by go_num, KX.out x5, HI.out.keep x5.bel⟩
                    case measure => simp [intOf]; omega
                  · have cb : (z == 32) = false := by simpa using c32
                    have cb2 : (z != 32) = true := by simpa using c32
                    have GA := Lib.hid (fun w h => get_below B X3 [y0, y1, y2] s3 z w h)
                    have GB := Lib.hid (fun w h => get_below G X4 [y0, y1, y2] s4 z w h)
                    rw [HX.out z HM.out c32] at GB
                    clear c32
                    obtain ⟨u, hu⟩ : ∃ u, u = GrG.getL X3 z := ⟨_, rfl⟩
                    rw [← hu] at GA GB
                    clear hu
                    have tt3 : (u != u) = false := by simp
                    go_wp2_with fail
                    refine wp_region_wb (by kernel_rfl) (by kernel_rfl) ?_
                    repeat (go_big_quiet_step (first | (go_at_call 25; with_reducible exact Calls.wb (x := _) (GA.out _ (KX.out _).f)) | (go_at_call 25; with_reducible exact Calls.wb (x := _) (GB.out _ (KX.out _).g))))
                    refine wpQuiet_nil ?_
                    rintro _ ⟨x5, rfl⟩
                    go_wp2
                    go_roundw
                    case rel => exact ⟨q + 1, by omega, by go_num, KX.out x5, HI.out.keep x5.bel⟩
                    case measure => simp [intOf]; omega
                · obtain rfl : Q3 = q := by omega
                  go_wp2
                  go_ret
                  exact ⟨rfl, SR.out.bel⟩
end Go.Proofs.Ytnehdgapcgbdeaa
