/-
  Layer 9, the walks: the program's Single.
-/
import Derived.Test.YteiokenijmaloaaUq
import Derived.Test.YteiokenijmaloaaUf
set_option linter.unusedSimpArgs false
set_option linter.unusedVariables false
namespace Go.Proofs.Yteiokenijmaloaa
open Go.RowKit GrT

/-- it returned a truth of P -/
def SaysB (P : Prop) (e : Ending) : Prop := ∃ b : Bool, e = .returned (.bool b) ∧ (b = true ↔ P)
/-- no two of a row meet -/
def Apart (L : List E) : Prop := L.Pairwise (fun a b => meets b a = false)
theorem apart_snoc {L : List E} {j : Nat} (hj : j < L.length) (h : (L.take j).Pairwise (fun a b => meets b a = false)) (k : ∀ x ∈ L.take j, meets L[j] x = false) : (L.take (j + 1)).Pairwise (fun a b => meets b a = false) := by
  rw [List.take_succ_eq_append_getElem hj, List.pairwise_append]
  exact ⟨h, List.pairwise_singleton _ _, fun a ha b hb => by rw [List.mem_singleton] at hb; subst hb; exact k a ha⟩
theorem apart_snoc1 {L : List E} {e : E} {k : Nat} (hk : k < L.length) (h : ∀ x ∈ L.take k, meets e x = false) (c : meets e L[k] = false) : ∀ x ∈ L.take (k + 1), meets e x = false := fun x hx => by
  rw [List.take_succ_eq_append_getElem hk, List.mem_append, List.mem_singleton] at hx
  rcases hx with hx | rfl
  · exact h x hx
  · exact c
theorem apart_not {L : List E} {j k : Nat} (hj : j < L.length) (hk : k < j) (c : meets L[j] (L[k]'(Nat.lt_trans hk hj)) = true) : ¬ L.Pairwise (fun a b => meets b a = false) := fun h => by
  rw [List.pairwise_iff_getElem] at h
  have := h k j (Nat.lt_trans hk hj) hj hk
  rw [c] at this
  cases this

set_option maxRecDepth 100000 in
set_option maxHeartbeats 6400000 in
theorem single_any (v : Value) (L : List E) (w : World) (h : SlE w v L) (hn : L.length ≤ 500) (hlb : LB L) :
    Calls Try.prog 22 #[.agg #[v]] w fun e w' => SaysB (Apart L) e ∧ Below w.heap.size w w' := by
  obtain ⟨p, n, c, rfl⟩ := SlAt.form h
  have HN := Lib.hid h.len
  have HS := Lib.hid h
  have HL := Lib.hid hlb
  have q9 : (n : Int) ≤ 500 := by have := h.len; omega
  clear h hn hlb
  go_enter Try.func22, Try.ntmps22
  go_upto_region 1 with fail
  refine to_cls ?_
  intro U0 hU0 z0
  have r_b : ∀ z : Wb U0, Row z.at w.heap.size [.slice p n c] 29 := Row.next (Row.new _ [.slice p n c] _) hU0
  have KK := Lib.hid (KB.next (KB.alloc (Below.refl _ _) _) hU0)
  clear hU0
  have c_b : ∀ z : Wb U0, z.at.cell? ⟨w.heap.size, 0, none⟩ = some (.slice p n c) := fun z => (r_b z).cell 0
  go_wp2_with fail
  go_loopw [10] (fun i wr => ∃ (j : Nat) (y : Wb U0), j ≤ n ∧ i = .int .i64 (j : Int) ∧ wr = y.at ∧ (L.take j).Pairwise (fun a b => meets b a = false)) (fun i _ => n - (intOf i).toNat)
  case atStart => exact ⟨0, z0, by omega, rfl, rfl, by simp⟩
  case round =>
    obtain ⟨j, y, hj, rfl, rfl, hp⟩ := hrel
    have PW := Lib.hid hp
    clear hp
    by_cases cj : j < n
    · have lj : j < L.length := by have := HN.out; omega
      obtain ⟨a, rfl⟩ := SlE.addr HS.out (by omega)
      obtain ⟨f0, f1, f2, f3⟩ := (HS.out.below (KK.out y)).at j lj
      have AS := Lib.hid (apart_snoc lj PW.out)
      have A1 := Lib.hid (fun (k : Nat) => @apart_snoc1 L L[j] k)
      have AN := Lib.hid (fun (k : Nat) (hk : k < j) (h2 : k < L.length) (e : meets L[j] L[k] = true) => apart_not lj hk e)
      have BX := Lib.hid (HL.out L[j] (List.getElem_mem lj))
      obtain ⟨⟨x0, x1, x2, x3⟩, hx⟩ : ∃ x, x = L[j] := ⟨_, rfl⟩
      rw [← hx] at f0 f1 f2 f3 AS A1 AN BX
      simp only at f0 f1 f2 f3
      clear hx lj
      have j0 : (0 : Int) ≤ (j : Int) := by omega
      have j1 : (j : Int) < (n : Int) := by omega
      go_upto_region 4 with fail
      refine to_cls ?_
      intro U1 hU1 z1
      have r_e : ∀ z : Wb U1, Row z.at y.at.heap.size [.int .i64 x0, .int .u64 x1, .int .u64 x2, .int .u64 x3] 25 := Row.next (Row.new _ [.int .i64 x0, .int .u64 x1, .int .u64 x2, .int .u64 x3] _) hU1
      have r_b1 : ∀ z : Wb U1, Row z.at w.heap.size [.slice (some a) n c] 29 := Row.next ((r_b y).old _) hU1
      have K0 := Lib.hid (fun z : Wb U1 => (show Below U0.heap.size U0 z.at from y.bel.trans (((KB.alloc (Below.refl _ _) _ : Below y.at.heap.size y.at _).trans ((hU1.trans (z.bel.mono hU1.size)).mono (by simp))).mono y.bel.size)))
      have K1 := Lib.hid (KB.next (KB.alloc (KK.out y) _) hU1)
      clear hU1 f0 f1 f2 f3 c_b
      have c_b : ∀ z : Wb U1, z.at.cell? ⟨w.heap.size, 0, none⟩ = some (.slice (some a) n c) := fun z => (r_b1 z).cell 0
      have c_e0 : ∀ z : Wb U1, z.at.cell? ⟨y.at.heap.size, 0, none⟩ = some (.int .i64 x0) := fun z => (r_e z).cell 0
      have c_e1 : ∀ z : Wb U1, z.at.cell? ⟨y.at.heap.size, 1, none⟩ = some (.int .u64 x1) := fun z => (r_e z).cell 1
      have c_e2 : ∀ z : Wb U1, z.at.cell? ⟨y.at.heap.size, 2, none⟩ = some (.int .u64 x2) := fun z => (r_e z).cell 2
      have c_e3 : ∀ z : Wb U1, z.at.cell? ⟨y.at.heap.size, 3, none⟩ = some (.int .u64 x3) := fun z => (r_e z).cell 3
      obtain ⟨eA, hA⟩ : ∃ b, b = y.at.heap.size := ⟨_, rfl⟩
      rw [← hA] at r_e c_e0 c_e1 c_e2 c_e3
      simp only [← hA]
      clear hA
      have cap : (j : Int) ≤ (c : Int) := by have := HS.out.cap; omega
      go_wp2_with fail
      go_loopw [20] (fun i wr => ∃ (k : Nat) (t : Wb U1), k ≤ j ∧ i = .int .i64 (k : Int) ∧ wr = t.at ∧ ∀ x ∈ L.take k, meets ⟨x0, x1, x2, x3⟩ x = false) (fun i _ => j - (intOf i).toNat)
      case atStart => exact ⟨0, z1, by omega, rfl, rfl, by simp⟩
      case round =>
        obtain ⟨k, t, hk, rfl, rfl, ha⟩ := hrel
        have AA := Lib.hid ha
        clear ha
        by_cases ck : k < j
        · have lk : k < L.length := by have := HN.out; omega
          obtain ⟨g0, g1, g2, g3⟩ := (HS.out.below (K1.out t)).at k lk
          have A2 := Lib.hid (A1.out k lk AA.out)
          have N2 := Lib.hid (AN.out k ck lk)
          have BY := Lib.hid (HL.out L[k] (List.getElem_mem lk))
          obtain ⟨⟨u0, u1, u2, u3⟩, hu⟩ : ∃ x, x = L[k] := ⟨_, rfl⟩
          rw [← hu] at g0 g1 g2 g3 A2 N2 BY
          simp only at g0 g1 g2 g3
          clear hu lk
          have k0 : (0 : Int) ≤ (k : Int) := by omega
          have k1 : (k : Int) < (j : Int) := by omega
          go_upto_region 7 with fail
          refine to_cls ?_
          intro U2 hU2 z2
          have r_o : ∀ z : Wb U2, Row z.at t.at.heap.size [.int .i64 u0, .int .u64 u1, .int .u64 u2, .int .u64 u3] 25 := Row.next (Row.new _ [.int .i64 u0, .int .u64 u1, .int .u64 u2, .int .u64 u3] _) hU2
          have r_e2 : ∀ z : Wb U2, Row z.at eA [.int .i64 x0, .int .u64 x1, .int .u64 x2, .int .u64 x3] 25 := Row.next ((r_e t).old _) hU2
          have K2 := Lib.hid (fun z : Wb U2 => (show Below U1.heap.size U1 z.at from t.bel.trans (((KB.alloc (Below.refl _ _) _ : Below t.at.heap.size t.at _).trans ((hU2.trans (z.bel.mono hU2.size)).mono (by simp))).mono t.bel.size)))
          have K3 := Lib.hid (KB.next (KB.alloc (K1.out t) _) hU2)
          clear hU2 g0 g1 g2 g3 c_b c_e0 c_e1 c_e2 c_e3
          have c_e0 : ∀ z : Wb U2, z.at.cell? ⟨eA, 0, none⟩ = some (.int .i64 x0) := fun z => (r_e2 z).cell 0
          have c_e1 : ∀ z : Wb U2, z.at.cell? ⟨eA, 1, none⟩ = some (.int .u64 x1) := fun z => (r_e2 z).cell 1
          have c_e2 : ∀ z : Wb U2, z.at.cell? ⟨eA, 2, none⟩ = some (.int .u64 x2) := fun z => (r_e2 z).cell 2
          have c_e3 : ∀ z : Wb U2, z.at.cell? ⟨eA, 3, none⟩ = some (.int .u64 x3) := fun z => (r_e2 z).cell 3
          have c_o0 : ∀ z : Wb U2, z.at.cell? ⟨t.at.heap.size, 0, none⟩ = some (.int .i64 u0) := fun z => (r_o z).cell 0
          have c_o1 : ∀ z : Wb U2, z.at.cell? ⟨t.at.heap.size, 1, none⟩ = some (.int .u64 u1) := fun z => (r_o z).cell 1
          have c_o2 : ∀ z : Wb U2, z.at.cell? ⟨t.at.heap.size, 2, none⟩ = some (.int .u64 u2) := fun z => (r_o z).cell 2
          have c_o3 : ∀ z : Wb U2, z.at.cell? ⟨t.at.heap.size, 3, none⟩ = some (.int .u64 u3) := fun z => (r_o z).cell 3
          go_wp2_with fail
          refine (meet_any x0 x1 x2 x3 u0 u1 u2 u3 BX.out BY.out _).mono ?_
          rintro e w1 ⟨rfl, g1⟩
          obtain ⟨z3, rfl⟩ := Wb.next (x := z2) g1
          clear g1
          obtain ⟨b, hb⟩ : ∃ b, b = meets ⟨x0, x1, x2, x3⟩ ⟨u0, u1, u2, u3⟩ := ⟨_, rfl⟩
          rw [← hb] at A2 N2
          simp only [← hb]
          clear hb
          cases b with
          | true =>
            go_wp2
            go_ret
            exact ⟨⟨false, by first | rfl | simp, fun q => (by cases q), fun q => absurd q (N2.out (by first | rfl | trivial))⟩, K3.out z3⟩
          | false =>
            go_wp2
            go_roundw
            case rel => exact ⟨k + 1, ⟨z3.at, K2.out z3⟩, by omega, by go_num, rfl, A2.out (by first | rfl | trivial)⟩
            case measure => simp [intOf]; omega
        · obtain rfl : j = k := by omega
          go_wp2
          go_roundw
          case rel => exact ⟨j + 1, ⟨t.at, K0.out t⟩, by omega, by go_num, rfl, AS.out AA.out⟩
          case measure => simp [intOf]; omega
    · obtain rfl : n = j := by omega
      have E := Lib.hid (show L.take n = L by rw [HN.out, List.take_length])
      go_wp2
      go_ret
      exact ⟨⟨true, by first | rfl | simp, fun _ => by have := PW.out; rw [E.out] at this; exact this, fun _ => rfl⟩, KK.out y⟩
end Go.Proofs.Yteiokenijmaloaa
