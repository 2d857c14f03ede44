/-
  Layer 10, the walks: strings.SplitSeq's iterator tells the lines.
-/
import Derived.Test.YtagbhhfflgikkaaDoorEm
set_option linter.unusedSimpArgs false
set_option linter.unusedVariables false
namespace Go.Proofs.YtagbhhfflgikkaaDoor
open Go.RowKit GrP GrL Go.Shelf
attribute [local go_sem] Oper.semAt_some

/-- the iterator's three blocks, between two rounds -/
structure SplitAt (W : World) (b : Nat) (t : Tx) : Prop where
  s : Row W b [.string (strL t)] 9
  sep : Row W (b + 1) [.string ⟨#[10]⟩] 9
  save : Row W (b + 2) [.int .i64 0] 3
def KpS (b : Nat) (U W : World) : Prop := U.heap.size ≤ W.heap.size ∧ ∀ k, b ≤ k → k < b + 3 → W.heap[k]? = U.heap[k]?
theorem SplitAt.keep {U W : World} {b : Nat} {t : Tx} (h : SplitAt U b t) (k : KpS b U W) : SplitAt W b t := ⟨(k.2 b (by omega) (by omega)).trans h.s, (k.2 (b + 1) (by omega) (by omega)).trans h.sep, (k.2 (b + 2) (by omega) (by omega)).trans h.save⟩
theorem SplitAt.set {W : World} {b : Nat} {t : Tx} (h : SplitAt W b t) (u : Tx) : SplitAt (W.setCell ⟨b, 0, none⟩ (.string (strL u))) b u := ⟨h.s.set 0 _, h.sep.oth (by omega) 0 _, h.save.oth (by omega) 0 _⟩
def leftW (b : Nat) (W : World) : Nat := match W.cell? ⟨b, 0, none⟩ with
  | some (.string t) => t.size
  | _ => 0
theorem SplitAt.left {W : World} {b : Nat} {t : Tx} (h : SplitAt W b t) : leftW b W = t.length := by
  unfold leftW
  rw [h.s.cell 0]
  simp [strL_size]

set_option maxRecDepth 100000 in
set_option maxHeartbeats 3200000 in
theorem split_in (n : Nat) (h1 : 1 ≤ n) (s : Tx) (hs : s.length ≤ 4194304) (b : Nat) (w0 : World) (hb : b + 3 ≤ w0.heap.size) (h0 : SplitAt w0 b s) :
    SeqBox Fence.wide n Tryd.prog 42 #[.pointer (some ⟨b + 1, 0, none⟩), .pointer (some ⟨b, 0, none⟩), .pointer (some ⟨b + 2, 0, none⟩)] (fun x : Tx => #[.string (strL x)]) (KpS b) (linesL s) b w0 := by
  intro l J W hW hJ hJb hY hJ0
  have HS := Lib.hid (show SplitAt W b s from ⟨h0.s.below hW, h0.sep.below hW, h0.save.below hW⟩)
  have HY := Lib.hid hY
  have HJB := Lib.hid hJb
  have HJ0 := Lib.hid hJ0
  have q1 := HS.out.sep.cell 0
  simp only [List.getElem?_cons_zero] at q1
  have hN := Lib.hid hs
  clear hY hJb hJ0 h0 hs hJ
  refine callsIn_of_wp Tryd.func42 rfl trivial ?_ rfl
  simp only [Tryd.ntmps42, List.size_toArray, List.length_cons, List.length_nil, Nat.reduceAdd, Nat.reduceSub, Array.replicate_succ, Array.replicate_zero, List.push_toArray, List.append_toArray, List.nil_append, List.cons_append]
  gi_wp2_with fail
  gi_loopw [] (fun wr => ∃ pre f, f ≤ s.length ∧ Lns s pre f ∧ SplitAt wr b (s.drop f) ∧ J pre wr) (fun wr => leftW b wr)
  case atStart => exact ⟨[], 0, by omega, Lns.start s, HS.out, HJ0.out⟩
  case round =>
    obtain ⟨pre, f, hf, hl, hsp, hj⟩ := hrel
    have HL := Lib.hid hl
    have HP := Lib.hid hsp
    have hx := hl.split hf
    have LN := Lib.hid (lineN_le s f hf)
    have HF := Lib.hid hf
    obtain ⟨fn, tmps, assign, body, hy, hR⟩ := HY.out pre _ _ wr hx hj
    have HR := Lib.hid hR
    have IB := Lib.hid (indexByte_line s f)
    have s0 := hsp.s.cell 0
    have p0 := hsp.sep.cell 0
    have v0 := hsp.save.cell 0
    simp only [List.getElem?_cons_zero] at s0 p0 v0
    obtain ⟨t, ht⟩ : ∃ t, t = s.drop f := ⟨_, rfl⟩
    have TL := Lib.hid (show t.length = s.length - f by rw [ht, List.length_drop])
    obtain ⟨m, hm⟩ : ∃ m, m = lineN s f := ⟨_, rfl⟩
    rw [← hm, ← ht] at IB
    have HT := Lib.hid ht
    have HM := Lib.hid hm
    rw [← ht] at s0
    rw [← ht, ← hm] at hy HR
    rw [← hm] at LN
    clear hx hl hsp hf hR hj hm
    by_cases c : m < s.length - f
    · rw [if_pos c] at IB
      have IX := Lib.hid (fun w => idx_any t w)
      rw [IB.out] at IX
      have m0 : (0 : Int) ≤ (m : Int) := by omega
      have m1 : ¬ (m : Int) < 0 := by omega
      have m2 : (m : Int) ≤ 4194304 := by have := LN.out; have := hN.out; omega
      have T1 := fun w => s_to t m (by have := TL.out; omega) w
      have T2 := fun w => s_from t (m + 1) (by have := TL.out; omega) w
      rw [show ((m + 1 : Nat) : Int) = (m : Int) + 1 by omega] at T2
      have C := Lib.hid c
      clear c ht
      have fnI : Fence.wide.fn 44 := trivial
      gi_wp2_with (gi_at_call 44; refine (callsIn_wide.2 (IX.out _)).mono ?_; rintro e w9 ⟨rfl, rfl⟩)
      refine HR.out.mono ?_
      rintro e W3 ⟨rfl, hj3, hk3⟩
      have S3 := Lib.hid (HP.out.keep hk3)
      have J3 := Lib.hid hj3
      clear s0 p0 v0 hj3 hk3
      have s0 := S3.out.s.cell 0
      have p0 := S3.out.sep.cell 0
      have f0 := S3.out.s.free 0
      rw [← HT.out] at s0
      simp only [List.getElem?_cons_zero] at s0 p0
      gi_wp2
      go_roundw
      case rel => exact ⟨_, f + m + 1, by have := LN.out; have := C.out; omega, by rw [HT.out, HM.out]; exact HL.out.next HF.out, by rw [show s.drop (f + m + 1) = t.drop (m + 1) by rw [HT.out, List.drop_drop, Nat.add_assoc]]; exact S3.out.set _, HJB.out _ _ _ J3.out⟩
      case measure =>
        rw [(S3.out.set (t.drop (m + 1))).left, HP.out.left, ← HT.out, List.length_drop]
        have := TL.out; have := C.out
        omega
    · rw [if_neg c] at IB
      have IX := Lib.hid (fun w => idx_any t w)
      rw [IB.out] at IX
      have TM := Lib.hid (show t.take m = t by rw [List.take_of_length_le]; have := TL.out; omega)
      rw [TM.out] at hy HR
      have C := Lib.hid (show s.length < f + m + 1 by omega)
      clear c ht
      have fnI : Fence.wide.fn 44 := trivial
      gi_wp2_with (gi_at_call 44; refine (callsIn_wide.2 (IX.out _)).mono ?_; rintro e w9 ⟨rfl, rfl⟩)
      refine HR.out.mono ?_
      rintro e W3 ⟨rfl, hj3, hk3⟩
      have J3 := Lib.hid hj3
      clear hj3 hk3 s0 p0 v0
      gi_wp2
      go_end0
      exact ⟨⟨_, rfl⟩, by rw [Lns.done (f := f + m + 1) (by rw [HM.out]; exact HL.out.next HF.out) C.out, ← HT.out, ← HM.out, TM.out]; exact J3.out⟩
end Go.Proofs.YtagbhhfflgikkaaDoor
