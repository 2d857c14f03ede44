/-
  Layer 19, the walks: New, Drain.
-/
import Derived.Test.YtjmkkidlaebpmabQc
import Derived.Test.YtjmkkidlaebpmabSl
import Derived.Deep.AppendLies
import Derived.LoopTactic
import Derived.Laws.AppendOwn
set_option linter.unusedSimpArgs false
set_option linter.unusedVariables false
namespace Go.Proofs.Ytjmkkidlaebpmab
open Go.Conc Go.RowKit

/-- how many things wait in a channel -/
def chanLen (w : World) (c : Nat) : Nat := match w.heap[c]? with
  | some (.chan _ buf _ _ _ _) => buf.size
  | _ => 0
theorem Ch.len {V : World} {c cap : Nat} {L : List Value} (h : Ch V c cap L) : chanLen V c = L.length := by
  obtain ⟨s, r, h⟩ := h
  simp [chanLen, h]
theorem Row.ne_ch {V : World} {B c cap : Nat} {L M : List Value} {T : TypeId} (h : Row V B L T) (k : Ch V c cap M) : B ≠ c := by
  rintro rfl
  obtain ⟨s, r, k⟩ := k
  rw [h.heap] at k
  cases k
/-- an append to an own slice leaves the channel and all older blocks -/
theorem drain_rel {w wr w1 w2 : World} {c cap : Nat} {N xs : List Value} {e : TypeId} {size : Nat} {v : Value} {n : Nat} {o : Obj} (h0 : w.heap.size ≤ wr.heap.size) (h1 : Only c wr w1) (h2 : Ch w1 c cap N) (hc : c < w.heap.size)
    (h3 : w1.ownsRow w.heap.size e size v n xs) (h4 : (w1.alloc o).grownBy w2 v.ownBlock) : Ch w2 c cap N ∧ Below w.heap.size w1 w2 := by
  have B : Below w.heap.size w1 w2 := ((Below.refl w.heap.size w1).alloc (Nat.le_trans h0 h1.size) o).grown h4 (by have := h1.size; simp; omega) (fun k hk => (h3.lt k hk).1)
  exact ⟨h2.keep (B.block c hc), B⟩

/-! ### queues of int -/
theorem ibytes : (Try.prog.info? 3).map (fun i => (i.zero, i.size, i.bytes)) = some (some (.int .i64 0), 1, 8) := by kernel_rfl
theorem imk (w : World) (n : Nat) (h : n ≤ 200000) : (Instr.makeChan 55 (.int .i64 (n : Int))).run Try.prog w = .ok (.chan (some w.heap.size)) (w.alloc (.chan n #[] false 0 0 false)) := by
  obtain ⟨i, hi, _, _, hb⟩ := info_parts ibytes
  have := run_makeChan (P := Try.prog) (w := w) Try.underlying55 hi .i64 n (by omega) (by rw [hb]; omega)
  simpa using this
theorem inew_any (n : Nat) (w : World) (h0 : 0 < n) (h1 : n ≤ 200000) :
    Calls Try.prog 7 #[.int .i64 (n : Int)] w fun e w' => e = .returned (.tuple #[.pointer (some ⟨w.heap.size + 1, 0, none⟩), .int .i64 0]) ∧ ((w.alloc (.chan n #[] false 0 0 false)).alloc (.cells #[.chan (some w.heap.size)] 57)) = w' := by
  have M := imk w n h1
  have d0 : decide ((n : Int) < 1) = false := by simp; omega
  have d1 : decide (200000 < (n : Int)) = false := by simp; omega
  clear h0 h1
  go_enter Try.func7, Try.ntmps7
  go_wp2
  exact bodyPost_ret (v := .tuple #[.pointer (some ⟨w.heap.size + 1, 0, none⟩), .int .i64 0]) (by simp [results, Try.results7, go_sem, *]) rfl ⟨rfl, rfl⟩
theorem inew_no (n : Int) (w : World) (h : n < 1 ∨ 200000 < n) :
    Calls Try.prog 7 #[.int .i64 n] w fun e w' => e = .returned (.tuple #[.pointer none, .int .i64 1]) ∧ w = w' := by
  by_cases c : n < 1
  · have d0 : decide (n < 1) = true := by simpa using c
    clear h c
    go_enter Try.func7, Try.ntmps7
    go_wp2
    exact bodyPost_ret (v := .tuple #[.pointer none, .int .i64 1]) (by simp [results, Try.results7, go_sem, *]) rfl ⟨rfl, rfl⟩
  · have d0 : decide (n < 1) = false := by simpa using c
    have d1 : decide (200000 < n) = true := by simp; omega
    clear h c
    go_enter Try.func7, Try.ntmps7
    go_wp2
    exact bodyPost_ret (v := .tuple #[.pointer none, .int .i64 1]) (by simp [results, Try.results7, go_sem, *]) rfl ⟨rfl, rfl⟩

set_option maxRecDepth 100000 in
set_option maxHeartbeats 1600000 in
theorem idrain_any (q c cap : Nat) (L : List Int) (w : World) (hL : L.length ≤ 400000) (h : Row w q [.chan (some c)] 57) (k : Ch w c cap (L.map (Value.int .i64))) :
    Calls Try.prog 13 #[.pointer (some ⟨q, 0, none⟩)] w fun e w' => ∃ v, e = .returned v ∧ (Only c w w' ∧ Ch w' c cap [] ∧ w'.ownsRow w.heap.size 3 1 v L.length (L.map (Value.int .i64))) := by
  obtain ⟨i0, hi, hz0, hz1, hz2⟩ := info_parts ibytes
  have QC := h.ne_ch k
  have H := Lib.hid h
  have K := Lib.hid k
  have LL := Lib.hid hL
  clear h k hL
  go_enter Try.func13, Try.ntmps13
  go_wp2_with fail
  go_loopw [3] (fun v wr => ∃ M N : List Int, L = M ++ N ∧ wr.ownsRow w.heap.size 3 1 v M.length (M.map (Value.int .i64)) ∧ Ch wr c cap (N.map (Value.int .i64)) ∧ Only c w wr) (fun _ wr => chanLen wr c)
  case atStart => exact ⟨[], L, rfl, World.ownsRow_nil _ _ _ _, K.out, Only.refl _ _⟩
  case round =>
    obtain ⟨M, N, hMN, hown, hch, ho⟩ := hrel
    have E := Lib.hid hMN
    have HO := Lib.hid hown
    have HC := Lib.hid hch
    have OO := Lib.hid ho
    clear hMN hown hch ho
    have HR := Lib.hid (H.out.only OO.out QC)
    cases N with
    | nil =>
      go_wp2_with fail
      refine (itake_none q c cap wr HR.out HC.out).mono ?_
      rintro e w1 ⟨rfl, rfl⟩
      go_wp2
      go_ret
      rw [E.out, List.append_nil]
      exact ⟨_, rfl, OO.out, HC.out, HO.out⟩
    | cons x N =>
      go_wp2_with fail
      refine (itake_some q c cap (N.map (Value.int .i64)) x wr HR.out HC.out).mono ?_
      rintro e w1 ⟨rfl, o1, c1⟩
      have lenE := Lib.hid (show M.length + (N.length + 1) = L.length by rw [E.out]; simp)
      have O1 := Lib.hid o1
      have C1 := Lib.hid c1
      have HO1 := Lib.hid (own_keep HO.out (fun g hb hg => o1.block g hg (by have := K.out.lt; omega)))
      have k2 := Lib.hid (app_cell w1 (Value.int .i64 x))
      have k3 := Lib.hid (show ∀ u ∈ [Value.int .i64 x], u.oneCell' = true by simp [Value.oneCell'])
      have k4 := Lib.hid (show M.length + 1 ≤ maxLen by have := LL.out; have := lenE.out; unfold maxLen; omega)
      have k5 := Lib.hid (show (M.length + 1) * 8 ≤ 140737488355328 by have := LL.out; have := lenE.out; omega)
      have k6 := Lib.hid (show ∀ o : Obj, w.heap.size ≤ (w1.alloc o).heap.size from fun o => by have := OO.out.size; have := O1.out.size; simp; omega)
      clear o1 c1
      go_wp2_with (at_builtin; refine wpList_append_own _ rfl (.tmp 14) (.tmp 16) 28 rfl w.heap.size 3 i0 (.int .i64 0) 1 8 Try.underlying28 hi hz0 hz1 hz2 rfl (by decide) _ _ _ rfl (HO1.out.alloc _) ⟨w1.heap.size, 0, none⟩ 1 1 [Value.int .i64 x] rfl rfl (k2.out _) k3.out k4.out k5.out (k6.out _) ?_)
      intro v1 w2 h1 hg1 _
      have CC := Lib.hid (show Ch w2 c cap (N.map (Value.int .i64)) ∧ Below w.heap.size w1 w2 from drain_rel (OO.out.size) O1.out C1.out K.out.lt HO1.out hg1)
      have HH := Lib.hid h1
      clear h1 hg1
      go_wp2
      go_roundw
      case rel => exact ⟨M ++ [x], N, by rw [E.out]; simp, by simpa using HH.out, CC.out.1, (OO.out.trans O1.out).bel CC.out.2⟩
      case measure =>
        have a1 := CC.out.1.len
        have a2 := HC.out.len
        simp only [List.length_map, List.length_cons] at a1 a2
        omega

/-! ### queues of string -/
theorem sbytes : (Try.prog.info? 9).map (fun i => (i.zero, i.size, i.bytes)) = some (some (.string ⟨#[]⟩), 1, 16) := by kernel_rfl
theorem smk (w : World) (n : Nat) (h : n ≤ 200000) : (Instr.makeChan 59 (.int .i64 (n : Int))).run Try.prog w = .ok (.chan (some w.heap.size)) (w.alloc (.chan n #[] false 0 0 false)) := by
  obtain ⟨i, hi, _, _, hb⟩ := info_parts sbytes
  have := run_makeChan (P := Try.prog) (w := w) Try.underlying59 hi .i64 n (by omega) (by rw [hb]; omega)
  simpa using this
theorem snew_any (n : Nat) (w : World) (h0 : 0 < n) (h1 : n ≤ 200000) :
    Calls Try.prog 17 #[.int .i64 (n : Int)] w fun e w' => e = .returned (.tuple #[.pointer (some ⟨w.heap.size + 1, 0, none⟩), .int .i64 0]) ∧ ((w.alloc (.chan n #[] false 0 0 false)).alloc (.cells #[.chan (some w.heap.size)] 61)) = w' := by
  have M := smk w n h1
  have d0 : decide ((n : Int) < 1) = false := by simp; omega
  have d1 : decide (200000 < (n : Int)) = false := by simp; omega
  clear h0 h1
  go_enter Try.func17, Try.ntmps17
  go_wp2
  exact bodyPost_ret (v := .tuple #[.pointer (some ⟨w.heap.size + 1, 0, none⟩), .int .i64 0]) (by simp [results, Try.results17, go_sem, *]) rfl ⟨rfl, rfl⟩
theorem snew_no (n : Int) (w : World) (h : n < 1 ∨ 200000 < n) :
    Calls Try.prog 17 #[.int .i64 n] w fun e w' => e = .returned (.tuple #[.pointer none, .int .i64 1]) ∧ w = w' := by
  by_cases c : n < 1
  · have d0 : decide (n < 1) = true := by simpa using c
    clear h c
    go_enter Try.func17, Try.ntmps17
    go_wp2
    exact bodyPost_ret (v := .tuple #[.pointer none, .int .i64 1]) (by simp [results, Try.results17, go_sem, *]) rfl ⟨rfl, rfl⟩
  · have d0 : decide (n < 1) = false := by simpa using c
    have d1 : decide (200000 < n) = true := by simp; omega
    clear h c
    go_enter Try.func17, Try.ntmps17
    go_wp2
    exact bodyPost_ret (v := .tuple #[.pointer none, .int .i64 1]) (by simp [results, Try.results17, go_sem, *]) rfl ⟨rfl, rfl⟩

set_option maxRecDepth 100000 in
set_option maxHeartbeats 1600000 in
theorem sdrain_any (q c cap : Nat) (L : List ByteArray) (w : World) (hL : L.length ≤ 400000) (h : Row w q [.chan (some c)] 61) (k : Ch w c cap (L.map (Value.string))) :
    Calls Try.prog 26 #[.pointer (some ⟨q, 0, none⟩)] w fun e w' => ∃ v, e = .returned v ∧ (Only c w w' ∧ Ch w' c cap [] ∧ w'.ownsRow w.heap.size 9 1 v L.length (L.map (Value.string))) := by
  obtain ⟨i0, hi, hz0, hz1, hz2⟩ := info_parts sbytes
  have QC := h.ne_ch k
  have H := Lib.hid h
  have K := Lib.hid k
  have LL := Lib.hid hL
  clear h k hL
  go_enter Try.func26, Try.ntmps26
  go_wp2_with fail
  go_loopw [3] (fun v wr => ∃ M N : List ByteArray, L = M ++ N ∧ wr.ownsRow w.heap.size 9 1 v M.length (M.map (Value.string)) ∧ Ch wr c cap (N.map (Value.string)) ∧ Only c w wr) (fun _ wr => chanLen wr c)
  case atStart => exact ⟨[], L, rfl, World.ownsRow_nil _ _ _ _, K.out, Only.refl _ _⟩
  case round =>
    obtain ⟨M, N, hMN, hown, hch, ho⟩ := hrel
    have E := Lib.hid hMN
    have HO := Lib.hid hown
    have HC := Lib.hid hch
    have OO := Lib.hid ho
    clear hMN hown hch ho
    have HR := Lib.hid (H.out.only OO.out QC)
    cases N with
    | nil =>
      go_wp2_with fail
      refine (stake_none q c cap wr HR.out HC.out).mono ?_
      rintro e w1 ⟨rfl, rfl⟩
      go_wp2
      go_ret
      rw [E.out, List.append_nil]
      exact ⟨_, rfl, OO.out, HC.out, HO.out⟩
    | cons x N =>
      go_wp2_with fail
      refine (stake_some q c cap (N.map (Value.string)) x wr HR.out HC.out).mono ?_
      rintro e w1 ⟨rfl, o1, c1⟩
      have lenE := Lib.hid (show M.length + (N.length + 1) = L.length by rw [E.out]; simp)
      have O1 := Lib.hid o1
      have C1 := Lib.hid c1
      have HO1 := Lib.hid (own_keep HO.out (fun g hb hg => o1.block g hg (by have := K.out.lt; omega)))
      have k2 := Lib.hid (app_cell w1 (Value.string x))
      have k3 := Lib.hid (show ∀ u ∈ [Value.string x], u.oneCell' = true by simp [Value.oneCell'])
      have k4 := Lib.hid (show M.length + 1 ≤ maxLen by have := LL.out; have := lenE.out; unfold maxLen; omega)
      have k5 := Lib.hid (show (M.length + 1) * 16 ≤ 140737488355328 by have := LL.out; have := lenE.out; omega)
      have k6 := Lib.hid (show ∀ o : Obj, w.heap.size ≤ (w1.alloc o).heap.size from fun o => by have := OO.out.size; have := O1.out.size; simp; omega)
      clear o1 c1
      go_wp2_with (at_builtin; refine wpList_append_own _ rfl (.tmp 14) (.tmp 16) 63 rfl w.heap.size 9 i0 (.string ⟨#[]⟩) 1 16 Try.underlying63 hi hz0 hz1 hz2 rfl (by decide) _ _ _ rfl (HO1.out.alloc _) ⟨w1.heap.size, 0, none⟩ 1 1 [Value.string x] rfl rfl (k2.out _) k3.out k4.out k5.out (k6.out _) ?_)
      intro v1 w2 h1 hg1 _
      have CC := Lib.hid (show Ch w2 c cap (N.map (Value.string)) ∧ Below w.heap.size w1 w2 from drain_rel (OO.out.size) O1.out C1.out K.out.lt HO1.out hg1)
      have HH := Lib.hid h1
      clear h1 hg1
      go_wp2
      go_roundw
      case rel => exact ⟨M ++ [x], N, by rw [E.out]; simp, by simpa using HH.out, CC.out.1, (OO.out.trans O1.out).bel CC.out.2⟩
      case measure =>
        have a1 := CC.out.1.len
        have a2 := HC.out.len
        simp only [List.length_map, List.length_cons] at a1 a2
        omega
end Go.Proofs.Ytjmkkidlaebpmab
