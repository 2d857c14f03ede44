/-
  Layer 6, the page's lists: numbers; Read, Check.
-/
import Derived.Test.YtnpgpbcpgniloaaSi
import Derived.Laws.AppendOwnNone
import Derived.Test.YtnpgpbcpgniloaaWn
set_option linter.unusedSimpArgs false
set_option linter.unusedVariables false
namespace GrS
open Go
def cellsL (L : List (Int × Int)) : List Value := L.flatMap fun p => [.int .u64 p.1, .int .u64 p.2]
theorem cellsL_len (L : List (Int × Int)) : (cellsL L).length = L.length * 2 := by
  induction L with
  | nil => rfl
  | cons p L ih => simp only [cellsL, List.flatMap_cons, List.length_append, List.length_cons, List.length_nil] at ih ⊢; omega
theorem cellsL_app (A B : List (Int × Int)) : cellsL (A ++ B) = cellsL A ++ cellsL B := List.flatMap_append
theorem cellsL_get (L : List (Int × Int)) (k : Nat) (h : k < L.length) : (cellsL L)[k * 2]? = some (.int .u64 L[k].1) ∧ (cellsL L)[k * 2 + 1]? = some (.int .u64 L[k].2) := by
  induction L generalizing k with
  | nil => simp at h
  | cons p L ih =>
    cases k with
    | zero => exact ⟨rfl, rfl⟩
    | succ k =>
      have := ih k (by simpa using h)
      have e : cellsL (p :: L) = .int .u64 p.1 :: .int .u64 p.2 :: cellsL L := rfl
      rw [e, show (k + 1) * 2 = k * 2 + 1 + 1 by omega]
      simp only [List.getElem?_cons_succ, List.getElem_cons_succ]
      exact this
theorem cellsL_take (L : List (Int × Int)) (n : Nat) : (cellsL L).take (n * 2) = cellsL (L.take n) := by
  by_cases h : n ≤ L.length
  · have e := cellsL_app (L.take n) (L.drop n)
    rw [List.take_append_drop] at e
    rw [e, List.take_append_of_le_length (by rw [cellsL_len]; simp; omega), List.take_of_length_le (by rw [cellsL_len]; simp; omega)]
  · rw [List.take_of_length_le (by rw [cellsL_len]; omega), List.take_of_length_le (by omega)]
theorem cellsL_drop (L : List (Int × Int)) (n : Nat) : (cellsL L).drop (n * 2) = cellsL (L.drop n) := by
  by_cases h : n ≤ L.length
  · have e := cellsL_app (L.take n) (L.drop n)
    rw [List.take_append_drop] at e
    rw [e, List.drop_append_of_le_length (by rw [cellsL_len]; simp; omega), List.drop_of_length_le (by rw [cellsL_len]; simp; omega), List.nil_append]
  · rw [List.drop_of_length_le (by rw [cellsL_len]; omega), List.drop_of_length_le (by omega)]
    rfl
theorem cellsL_one (L : List (Int × Int)) : ∀ u ∈ cellsL L, u.oneCell' = true := fun u hu => by
  obtain ⟨p, _, hp⟩ := List.mem_flatMap.1 hu
  simp at hp
  rcases hp with rfl | rfl <;> rfl
/-- the last write's value -/
def readL (L : List (Int × Int)) (a : Int) : Int := match L.reverse.find? (fun p => p.1 == a) with | some p => p.2 | none => 0
theorem readL_at (L : List (Int × Int)) (a : Int) (k : Nat) (h : k < L.length) (e : L[k].1 = a) (no : ∀ p ∈ L.drop (k + 1), p.1 ≠ a) : readL L a = L[k].2 := by
  have e1 : L = L.take k ++ (L[k] :: L.drop (k + 1)) := by rw [← List.drop_eq_getElem_cons h, List.take_append_drop]
  unfold readL
  have e2 : L.reverse.find? (fun p => p.1 == a) = some L[k] := by
    rw [congrArg List.reverse e1, List.reverse_append, List.reverse_cons, List.append_assoc, List.find?_append, List.find?_eq_none.2 (fun p hp => by simpa using no p (List.mem_reverse.1 hp))]
    simp [e]
  rw [e2]
theorem readL_no (L : List (Int × Int)) (a : Int) (no : ∀ p ∈ L, p.1 ≠ a) : readL L a = 0 := by
  unfold readL
  rw [List.find?_eq_none.2 (fun p hp => by simpa using no p (List.mem_reverse.1 hp))]
theorem readL_app (L : List (Int × Int)) (a v x : Int) : readL (L ++ [(a, v)]) x = if a = x then v else readL L x := by
  unfold readL
  rw [List.reverse_append]
  by_cases c : a = x
  · simp [c]
  · rw [if_neg c]
    simp [List.find?, c]
end GrS
namespace Go.Proofs.Ytnpgpbcpgniloaa
open Go.RowKit GrS

/-- a slice of cells -/
def SlP (W : World) (v : Value) (L : List (Int × Int)) : Prop := SlAt W v 2 L.length (cellsL L)
theorem SlP.below {W U : World} {v : Value} {L : List (Int × Int)} (h : SlP W v L) (k : Below W.heap.size W U) : SlP U v L := SlAt.below h k
theorem SlP.at {W : World} {a : Addr} {n c : Nat} {L : List (Int × Int)} (h : SlP W (.slice (some a) n c) L) (k : Nat) (hk : k < L.length) : W.cell? (a.add (k * 2)) = some (.int .u64 L[k].1) ∧ W.cell? ⟨(a.add (k * 2)).block, (a.add (k * 2)).off + 1, none⟩ = some (.int .u64 L[k].2) := by
  obtain ⟨_, ⟨e, _⟩ | ⟨a', c', e, _, _, hx⟩⟩ := h
  · cases e
  · injection e with e1 e2 e3
    injection e1 with e1
    subst e1
    have g := cellsL_get L k hk
    refine ⟨hx _ _ g.1, ?_⟩
    have := hx _ _ g.2
    rw [← add_add, add_one] at this
    exact this
theorem SlP.len {W : World} {a : Option Addr} {n c : Nat} {L : List (Int × Int)} (h : SlP W (.slice a n c) L) : n = L.length := by
  obtain ⟨_, ⟨e, e2⟩ | ⟨a', c', e, _⟩⟩ := h
  · injection e with e1 e3 e4; omega
  · injection e

set_option maxRecDepth 100000 in
set_option maxHeartbeats 1600000 in
theorem rread_some (a : Addr) (n c : Nat) (L : List (Int × Int)) (x : Int) (w : World) (h : SlP w (.slice (some a) n c) L) (hn : n ≤ 1000000) :
    Calls Try.prog 27 #[.slice (some a) n c, .int .u64 x] w fun e w' => e = .returned (.int .u64 (readL L x)) ∧ Below w.heap.size w w' := by
  have HN := Lib.hid h.len
  have HS := Lib.hid h
  clear h
  go_enter Try.func27, Try.ntmps27
  go_wp2_with fail
  go_loopw [5] (fun i wr => ∃ k : Nat, k ≤ n ∧ i = .int .i64 ((k : Int) - 1) ∧ (∀ p ∈ L.drop k, p.1 ≠ x) ∧ Below w.heap.size w wr) (fun i _ => (intOf i + 1).toNat)
  case atStart => exact ⟨n, Nat.le_refl _, by go_num, fun p hp => by rw [HN.out, List.drop_length] at hp; simp at hp, Below.refl _ _⟩
  case round =>
    obtain ⟨k, hk, rfl, hno, hb⟩ := hrel
    have NO := Lib.hid hno
    have HB := Lib.hid hb
    clear hno hb
    cases k with
    | zero =>
      have R := Lib.hid (readL_no L x (by simpa using NO.out))
      have K1 := Lib.hid (show (((0 : Nat) : Int) - 1) = -1 from rfl)
      rw [K1.out]
      have d0 : decide ((0 : Int) ≤ -1) = false := by decide
      go_wp2
      go_ret
      exact ⟨by rw [R.out]; rfl, HB.out⟩
    | succ k =>
      have lk : k < L.length := by have := HN.out; omega
      obtain ⟨y0, y1⟩ := (HS.out.below HB.out).at k lk
      have K1 := Lib.hid (show (((k + 1 : Nat) : Int) - 1) = (k : Int) by omega)
      have R := Lib.hid (fun e no => readL_at L x k lk e no)
      have D := Lib.hid (show L.drop k = L[k] :: L.drop (k + 1) from List.drop_eq_getElem_cons lk)
      obtain ⟨p, hp⟩ : ∃ p, p = L[k] := ⟨_, rfl⟩
      rw [← hp] at y0 y1 R D
      clear hp lk
      rw [K1.out]
      have i0 : (0 : Int) ≤ (k : Int) := by omega
      have i1 : (k : Int) < (n : Int) := by omega
      by_cases ce : p.1 = x
      · have cb : (p.1 == x) = true := by simpa using ce
        have E := Lib.hid ce
        clear ce
        go_wp2
        go_ret
        exact ⟨by rw [R.out E.out NO.out]; rfl, HB.out⟩
      · have cb : (p.1 == x) = false := by simpa using ce
        have E := Lib.hid ce
        clear ce
        go_wp2
        go_roundw
        case rel => exact ⟨k, by omega, by go_num, fun q hq => by rw [D.out] at hq; rcases List.mem_cons.1 hq with rfl | hq; exact E.out; exact NO.out q hq, HB.out⟩
        case measure => simp [intOf]
theorem rread_any (v : Value) (L : List (Int × Int)) (x : Int) (w : World) (h : SlP w v L) (hn : L.length ≤ 1000000) :
    Calls Try.prog 27 #[v, .int .u64 x] w fun e w' => e = .returned (.int .u64 (readL L x)) ∧ Below w.heap.size w w' := by
  have h' := h
  obtain ⟨_, ⟨rfl, h0⟩ | ⟨a, c, rfl, _⟩⟩ := h'
  · obtain rfl : L = [] := List.eq_nil_of_length_eq_zero h0
    go_enter Try.func27, Try.ntmps27
    go_wp2_with fail
    refine wp_loop_rounds 2 ?_
    rw [rounds_succ]
    go_wp2
    go_ret
    exact ⟨rfl, Below.refl _ _⟩
  · exact rread_some a _ c L x w h hn
theorem rcheck_any (a : Int) (w : World) (h0 : 0 ≤ a) (h1 : a < 18446744073709551616) :
    Calls Try.prog 22 #[.int .u64 a] w fun e w' => e = .returned (.int .i64 (codeA a)) ∧ w = w' := by
  have e8 : GrF.alignedB a 3 = (a % 8 == 0) := GrW.aligned8 a h0 h1
  unfold codeA
  rw [e8]
  clear e8
  by_cases c : a % 8 = 0
  · have cb : (a % 8 == 0) = true := by simpa using c
    have cn : (a % 8 != 0) = false := by simpa using c
    rw [cb, if_pos rfl]
    clear c
    by_cases d : a < 4294967296
    · have e0 : decide (4294967296 ≤ a) = false := by simp; omega
      rw [if_pos d]
      clear d
      go_enter Try.func22, Try.ntmps22
      go_wp2
      go_ret
      exact ⟨by simp, rfl⟩
    · have e0 : decide (4294967296 ≤ a) = true := by simp; omega
      rw [if_neg d]
      clear d
      go_enter Try.func22, Try.ntmps22
      go_wp2
      go_ret
      exact ⟨by simp, rfl⟩
  · have cb : (a % 8 == 0) = false := by simpa using c
    have cn : (a % 8 != 0) = true := by simpa using c
    rw [cb, if_neg (by decide)]
    clear c
    go_enter Try.func22, Try.ntmps22
    go_wp2
    go_ret
    exact ⟨by simp, rfl⟩
end Go.Proofs.Ytnpgpbcpgniloaa
