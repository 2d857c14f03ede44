/-
  Layer 6, the walks: Write.
-/
import Derived.Test.YtnpgpbcpgniloaaSh
set_option linter.unusedSimpArgs false
set_option linter.unusedVariables false
namespace Go.Proofs.Ytnpgpbcpgniloaa
open Go.RowKit GrS

/-- what a write makes of a memory's tree, and the error's number -/
def wrM (t : Option Tr) (a : Nat) (v : Int) : Option Tr × Int :=
  if codeA (a : Int) = 0 then (if v = 0 then (delO t a, 0) else if 256 < (insO t a v).toL.length then (t, 2) else (some (insO t a v), 0)) else (t, codeA (a : Int))

set_option maxRecDepth 100000 in
set_option maxHeartbeats 3200000 in
theorem Write_any (p : Option Addr) (n : Int) (t : Option Tr) (a v : Int) (w : World) (h : MAt w p n t) (a0 : 0 ≤ a) (a1 : a < 18446744073709551616) (hn : n ≤ 1000) :
    Calls Try.prog 28 #[.agg #[.pointer p, .int .i64 n], .int .u64 a, .int .u64 v] w fun e w' => ∃ p2 n2, e = .returned (.tuple #[.agg #[.pointer p2, .int .i64 n2], .int .i64 (wrM t a.toNat v).2]) ∧ Below w.heap.size w w' ∧ MAt w' p2 n2 (wrM t a.toNat v).1 := by
  by_cases c : codeA a = 0
  · by_cases d : v = 0
    · subst d
      have EW := Lib.hid (show wrM t a.toNat 0 = (delO t a.toNat, 0) by unfold wrM; rw [if_pos (by rw [Int.toNat_of_nonneg a0]; exact c), if_pos rfl])
      have HC := Lib.hid c
      clear c
      go_enter Try.func28, Try.ntmps28
      go_upto_region 1 with fail
      refine to_cls ?_
      intro U hU z
      have rM : ∀ z : Wb U, Row z.at w.heap.size [.pointer p, .int .i64 n] 38 := Row.next ((Row.new w [.pointer p, .int .i64 n] _).old _) hU
      have rR : ∀ z : Wb U, Row z.at (w.heap.size + 1) [.pointer none, .int .i64 0] 38 := Row.next (Row.new' _ [.pointer none, .int .i64 0] _ _ (by simp)) hU
      have bU : Below w.heap.size w U := (KB.alloc (KB.alloc (Below.refl _ _) _) _).trans (hU.mono (by simp; omega))
      clear hU
      obtain ⟨M, hM⟩ : ∃ M, M = w.heap.size := ⟨_, rfl⟩
      obtain ⟨R, hR⟩ : ∃ R, R = w.heap.size + 1 := ⟨_, rfl⟩
      rw [← hR] at rR
      simp only [← hR]
      rw [← hM] at rM
      simp only [← hM]
      have HM := Lib.hid hM
      have HR := Lib.hid (show R = M + 1 by rw [hR, hM])
      clear hM hR
      have cM0 : ∀ z : Wb U, z.at.cell? ⟨M, 0, none⟩ = some (.pointer p) := fun z => (rM z).cell 0
      have cM1 : ∀ z : Wb U, z.at.cell? ⟨M, 1, none⟩ = some (.int .i64 n) := fun z => (rM z).cell 1
      have fM : ∀ (z : Wb U) (i : Nat), z.at.frozen? ⟨M, i, none⟩ = false := fun z i => (rM z).free i
      have cR0 : ∀ z : Wb U, z.at.cell? ⟨R, 0, none⟩ = some (.pointer none) := fun z => (rR z).cell 0
      have cR1 : ∀ z : Wb U, z.at.cell? ⟨R, 1, none⟩ = some (.int .i64 0) := fun z => (rR z).cell 1
      have fR : ∀ (z : Wb U) (i : Nat), z.at.frozen? ⟨R, i, none⟩ = false := fun z i => (rR z).free i
      go_wp2_with fail
      refine (show Calls _ _ _ _ _ from HC.out ▸ check_any a z.at a0 a1).mono ?_
      rintro e w2 ⟨rfl, rfl⟩
      have bz : Below w.heap.size w z.at := bU.trans (z.bel.mono bU.size)
      have wR : w.heap.size ≤ R := by have := HR.out; have := HM.out; omega
      go_wp2_with fail
      refine (show Calls _ _ #[_, .int .u64 a] _ _ from Int.toNat_of_nonneg a0 ▸ Without_any p n t a.toNat z.at (h.below bz) (by omega) (by omega)).mono ?_
      rintro e w3 ⟨p2, n2, rfl, b3, m3⟩
      have M3 := Lib.hid m3
      clear m3
      obtain ⟨z3, rfl⟩ := Wb.next (x := z) b3
      clear b3
      have q3 : Below w.heap.size w z3.at := bU.trans (z3.bel.mono bU.size)
      go_wp2
      refine bodyPost_ret (v := .tuple #[.agg #[.pointer p2, .int .i64 n2], .int .i64 0]) (by simp [results, Try.results28, go_sem, *]) rfl ⟨_, _, by rw [EW.out], KB.put (KB.put q3 wR 0 _) wR 1 _, ?_⟩
      rw [EW.out]
      exact ((M3.out).set (rR z3) (by simp) 0 _).set ((rR z3).set 0 _) (by simp) 1 _
    · by_cases g : 256 < (insO t a.toNat v).toL.length
      · have EW := Lib.hid (show wrM t a.toNat v = (t, 2) by unfold wrM; rw [if_pos (by rw [Int.toNat_of_nonneg a0]; exact c), if_neg d, if_pos g])
        have HC := Lib.hid c
        have HG := Lib.hid g
        have vb : (v == 0) = false := by simpa using d
        clear c d g
        go_enter Try.func28, Try.ntmps28
        go_upto_region 1 with fail
        refine to_cls ?_
        intro U hU z
        have rM : ∀ z : Wb U, Row z.at w.heap.size [.pointer p, .int .i64 n] 38 := Row.next ((Row.new w [.pointer p, .int .i64 n] _).old _) hU
        have rR : ∀ z : Wb U, Row z.at (w.heap.size + 1) [.pointer none, .int .i64 0] 38 := Row.next (Row.new' _ [.pointer none, .int .i64 0] _ _ (by simp)) hU
        have bU : Below w.heap.size w U := (KB.alloc (KB.alloc (Below.refl _ _) _) _).trans (hU.mono (by simp; omega))
        clear hU
        obtain ⟨M, hM⟩ : ∃ M, M = w.heap.size := ⟨_, rfl⟩
        obtain ⟨R, hR⟩ : ∃ R, R = w.heap.size + 1 := ⟨_, rfl⟩
        rw [← hR] at rR
        simp only [← hR]
        rw [← hM] at rM
        simp only [← hM]
        have HM := Lib.hid hM
        have HR := Lib.hid (show R = M + 1 by rw [hR, hM])
        clear hM hR
        have cM0 : ∀ z : Wb U, z.at.cell? ⟨M, 0, none⟩ = some (.pointer p) := fun z => (rM z).cell 0
        have cM1 : ∀ z : Wb U, z.at.cell? ⟨M, 1, none⟩ = some (.int .i64 n) := fun z => (rM z).cell 1
        have fM : ∀ (z : Wb U) (i : Nat), z.at.frozen? ⟨M, i, none⟩ = false := fun z i => (rM z).free i
        have cR0 : ∀ z : Wb U, z.at.cell? ⟨R, 0, none⟩ = some (.pointer none) := fun z => (rR z).cell 0
        have cR1 : ∀ z : Wb U, z.at.cell? ⟨R, 1, none⟩ = some (.int .i64 0) := fun z => (rR z).cell 1
        have fR : ∀ (z : Wb U) (i : Nat), z.at.frozen? ⟨R, i, none⟩ = false := fun z i => (rR z).free i
        go_wp2_with fail
        refine (show Calls _ _ _ _ _ from HC.out ▸ check_any a z.at a0 a1).mono ?_
        rintro e w2 ⟨rfl, rfl⟩
        have bz : Below w.heap.size w z.at := bU.trans (z.bel.mono bU.size)
        have wR : w.heap.size ≤ R := by have := HR.out; have := HM.out; omega
        go_wp2_with fail
        refine (show Calls _ _ #[_, .int .u64 a, _] _ _ from Int.toNat_of_nonneg a0 ▸ With_any p n t a.toNat v z.at (h.below bz) (by omega) (by omega)).mono ?_
        rintro e w3 ⟨p2, n2, rfl, b3, m3⟩
        have M3 := Lib.hid m3
        clear m3
        obtain ⟨z3, rfl⟩ := Wb.next (x := z) b3
        clear b3
        go_upto_region 7 with fail
        refine to_cls ?_
        intro U2 hU2 z4
        have q3 : Below w.heap.size w z3.at := bU.trans (z3.bel.mono bU.size)
        have bU2 : Below w.heap.size w U2 := (KB.alloc q3 _).trans (hU2.mono (KB.alloc q3 _).size)
        clear cM0 cM1 fM cR0 cR1 fR
        have rQ : ∀ z : Wb U2, Row z.at z3.at.heap.size [.pointer p2, .int .i64 n2] 36 := Row.next (Row.new _ [.pointer p2, .int .i64 n2] _) hU2
        have rM : ∀ z : Wb U2, Row z.at M [.pointer p, .int .i64 n] 38 := Row.next ((rM z3).old _) hU2
        have rR : ∀ z : Wb U2, Row z.at R [.pointer none, .int .i64 0] 38 := Row.next ((rR z3).old _) hU2
        have M4 := Lib.hid (fun z : Wb U2 => MAt.below (M3.out.below (KB.alloc (Below.refl _ _) _ : Below z3.at.heap.size z3.at _)) (hU2.trans (z.bel.mono hU2.size)))
        clear hU2
        obtain ⟨Q, hQ⟩ : ∃ Q, Q = z3.at.heap.size := ⟨_, rfl⟩
        rw [← hQ] at rQ
        simp only [← hQ]
        clear hQ
        have cM0 : ∀ z : Wb U2, z.at.cell? ⟨M, 0, none⟩ = some (.pointer p) := fun z => (rM z).cell 0
        have cM1 : ∀ z : Wb U2, z.at.cell? ⟨M, 1, none⟩ = some (.int .i64 n) := fun z => (rM z).cell 1
        have fM : ∀ (z : Wb U2) (i : Nat), z.at.frozen? ⟨M, i, none⟩ = false := fun z i => (rM z).free i
        have cR0 : ∀ z : Wb U2, z.at.cell? ⟨R, 0, none⟩ = some (.pointer none) := fun z => (rR z).cell 0
        have cR1 : ∀ z : Wb U2, z.at.cell? ⟨R, 1, none⟩ = some (.int .i64 0) := fun z => (rR z).cell 1
        have fR : ∀ (z : Wb U2) (i : Nat), z.at.frozen? ⟨R, i, none⟩ = false := fun z i => (rR z).free i
        have cQ0 : ∀ z : Wb U2, z.at.cell? ⟨Q, 0, none⟩ = some (.pointer p2) := fun z => (rQ z).cell 0
        have cQ1 : ∀ z : Wb U2, z.at.cell? ⟨Q, 1, none⟩ = some (.int .i64 n2) := fun z => (rQ z).cell 1
        have NB := Lib.hid (show decide (256 < n2) = true by have e := M3.out.n; change n2 = ((insO t a.toNat v).toL.length : Int) at e; have := HG.out; simp; omega)
        have nb := NB.out
        go_wp2_with fail
        refine (maplen_any p2 n2 z4.at).mono ?_
        rintro e w5 ⟨rfl, b5⟩
        obtain ⟨z5, rfl⟩ := Wb.next (x := z4) b5
        clear b5
        have q5 : Below w.heap.size w z5.at := bU2.trans (z5.bel.mono bU2.size)
        go_wp2
        refine bodyPost_ret (v := .tuple #[.agg #[.pointer p, .int .i64 n], .int .i64 2]) (by simp [results, Try.results28, go_sem, *]) rfl ⟨_, _, by rw [EW.out], KB.put (KB.put q5 wR 0 _) wR 1 _, ?_⟩
        rw [EW.out]
        exact ((h.below q5).set (rR z5) (by simp) 0 _).set ((rR z5).set 0 _) (by simp) 1 _
      · have EW := Lib.hid (show wrM t a.toNat v = (some (insO t a.toNat v), 0) by unfold wrM; rw [if_pos (by rw [Int.toNat_of_nonneg a0]; exact c), if_neg d, if_neg g])
        have HC := Lib.hid c
        have HG := Lib.hid g
        have vb : (v == 0) = false := by simpa using d
        clear c d g
        go_enter Try.func28, Try.ntmps28
        go_upto_region 1 with fail
        refine to_cls ?_
        intro U hU z
        have rM : ∀ z : Wb U, Row z.at w.heap.size [.pointer p, .int .i64 n] 38 := Row.next ((Row.new w [.pointer p, .int .i64 n] _).old _) hU
        have rR : ∀ z : Wb U, Row z.at (w.heap.size + 1) [.pointer none, .int .i64 0] 38 := Row.next (Row.new' _ [.pointer none, .int .i64 0] _ _ (by simp)) hU
        have bU : Below w.heap.size w U := (KB.alloc (KB.alloc (Below.refl _ _) _) _).trans (hU.mono (by simp; omega))
        clear hU
        obtain ⟨M, hM⟩ : ∃ M, M = w.heap.size := ⟨_, rfl⟩
        obtain ⟨R, hR⟩ : ∃ R, R = w.heap.size + 1 := ⟨_, rfl⟩
        rw [← hR] at rR
        simp only [← hR]
        rw [← hM] at rM
        simp only [← hM]
        have HM := Lib.hid hM
        have HR := Lib.hid (show R = M + 1 by rw [hR, hM])
        clear hM hR
        have cM0 : ∀ z : Wb U, z.at.cell? ⟨M, 0, none⟩ = some (.pointer p) := fun z => (rM z).cell 0
        have cM1 : ∀ z : Wb U, z.at.cell? ⟨M, 1, none⟩ = some (.int .i64 n) := fun z => (rM z).cell 1
        have fM : ∀ (z : Wb U) (i : Nat), z.at.frozen? ⟨M, i, none⟩ = false := fun z i => (rM z).free i
        have cR0 : ∀ z : Wb U, z.at.cell? ⟨R, 0, none⟩ = some (.pointer none) := fun z => (rR z).cell 0
        have cR1 : ∀ z : Wb U, z.at.cell? ⟨R, 1, none⟩ = some (.int .i64 0) := fun z => (rR z).cell 1
        have fR : ∀ (z : Wb U) (i : Nat), z.at.frozen? ⟨R, i, none⟩ = false := fun z i => (rR z).free i
        go_wp2_with fail
        refine (show Calls _ _ _ _ _ from HC.out ▸ check_any a z.at a0 a1).mono ?_
        rintro e w2 ⟨rfl, rfl⟩
        have bz : Below w.heap.size w z.at := bU.trans (z.bel.mono bU.size)
        have wR : w.heap.size ≤ R := by have := HR.out; have := HM.out; omega
        go_wp2_with fail
        refine (show Calls _ _ #[_, .int .u64 a, _] _ _ from Int.toNat_of_nonneg a0 ▸ With_any p n t a.toNat v z.at (h.below bz) (by omega) (by omega)).mono ?_
        rintro e w3 ⟨p2, n2, rfl, b3, m3⟩
        have M3 := Lib.hid m3
        clear m3
        obtain ⟨z3, rfl⟩ := Wb.next (x := z) b3
        clear b3
        go_upto_region 7 with fail
        refine to_cls ?_
        intro U2 hU2 z4
        have q3 : Below w.heap.size w z3.at := bU.trans (z3.bel.mono bU.size)
        have bU2 : Below w.heap.size w U2 := (KB.alloc q3 _).trans (hU2.mono (KB.alloc q3 _).size)
        clear cM0 cM1 fM cR0 cR1 fR
        have rQ : ∀ z : Wb U2, Row z.at z3.at.heap.size [.pointer p2, .int .i64 n2] 36 := Row.next (Row.new _ [.pointer p2, .int .i64 n2] _) hU2
        have rM : ∀ z : Wb U2, Row z.at M [.pointer p, .int .i64 n] 38 := Row.next ((rM z3).old _) hU2
        have rR : ∀ z : Wb U2, Row z.at R [.pointer none, .int .i64 0] 38 := Row.next ((rR z3).old _) hU2
        have M4 := Lib.hid (fun z : Wb U2 => MAt.below (M3.out.below (KB.alloc (Below.refl _ _) _ : Below z3.at.heap.size z3.at _)) (hU2.trans (z.bel.mono hU2.size)))
        clear hU2
        obtain ⟨Q, hQ⟩ : ∃ Q, Q = z3.at.heap.size := ⟨_, rfl⟩
        rw [← hQ] at rQ
        simp only [← hQ]
        clear hQ
        have cM0 : ∀ z : Wb U2, z.at.cell? ⟨M, 0, none⟩ = some (.pointer p) := fun z => (rM z).cell 0
        have cM1 : ∀ z : Wb U2, z.at.cell? ⟨M, 1, none⟩ = some (.int .i64 n) := fun z => (rM z).cell 1
        have fM : ∀ (z : Wb U2) (i : Nat), z.at.frozen? ⟨M, i, none⟩ = false := fun z i => (rM z).free i
        have cR0 : ∀ z : Wb U2, z.at.cell? ⟨R, 0, none⟩ = some (.pointer none) := fun z => (rR z).cell 0
        have cR1 : ∀ z : Wb U2, z.at.cell? ⟨R, 1, none⟩ = some (.int .i64 0) := fun z => (rR z).cell 1
        have fR : ∀ (z : Wb U2) (i : Nat), z.at.frozen? ⟨R, i, none⟩ = false := fun z i => (rR z).free i
        have cQ0 : ∀ z : Wb U2, z.at.cell? ⟨Q, 0, none⟩ = some (.pointer p2) := fun z => (rQ z).cell 0
        have cQ1 : ∀ z : Wb U2, z.at.cell? ⟨Q, 1, none⟩ = some (.int .i64 n2) := fun z => (rQ z).cell 1
        have NB := Lib.hid (show decide (256 < n2) = false by have e := M3.out.n; change n2 = ((insO t a.toNat v).toL.length : Int) at e; have := HG.out; simp; omega)
        have nb := NB.out
        go_wp2_with fail
        refine (maplen_any p2 n2 z4.at).mono ?_
        rintro e w5 ⟨rfl, b5⟩
        obtain ⟨z5, rfl⟩ := Wb.next (x := z4) b5
        clear b5
        have q5 : Below w.heap.size w z5.at := bU2.trans (z5.bel.mono bU2.size)
        go_wp2
        refine bodyPost_ret (v := .tuple #[.agg #[.pointer p2, .int .i64 n2], .int .i64 0]) (by simp [results, Try.results28, go_sem, *]) rfl ⟨_, _, by rw [EW.out], KB.put (KB.put q5 wR 0 _) wR 1 _, ?_⟩
        rw [EW.out]
        exact ((M4.out z5).set (rR z5) (by simp) 0 _).set ((rR z5).set 0 _) (by simp) 1 _
  · have EW := Lib.hid (show wrM t a.toNat v = (t, codeA a) by unfold wrM; rw [if_neg (by rw [Int.toNat_of_nonneg a0]; exact c), Int.toNat_of_nonneg a0])
    obtain ⟨C, hC⟩ : ∃ C, C = codeA a := ⟨_, rfl⟩
    rw [← hC] at EW c
    have cb : (C != 0) = true := by simpa using c
    have HC := Lib.hid hC
    clear hC c
    go_enter Try.func28, Try.ntmps28
    go_upto_region 1 with fail
    refine to_cls ?_
    intro U hU z
    have rM : ∀ z : Wb U, Row z.at w.heap.size [.pointer p, .int .i64 n] 38 := Row.next ((Row.new w [.pointer p, .int .i64 n] _).old _) hU
    have rR : ∀ z : Wb U, Row z.at (w.heap.size + 1) [.pointer none, .int .i64 0] 38 := Row.next (Row.new' _ [.pointer none, .int .i64 0] _ _ (by simp)) hU
    have bU : Below w.heap.size w U := (KB.alloc (KB.alloc (Below.refl _ _) _) _).trans (hU.mono (by simp; omega))
    clear hU
    obtain ⟨M, hM⟩ : ∃ M, M = w.heap.size := ⟨_, rfl⟩
    obtain ⟨R, hR⟩ : ∃ R, R = w.heap.size + 1 := ⟨_, rfl⟩
    rw [← hR] at rR
    simp only [← hR]
    rw [← hM] at rM
    simp only [← hM]
    have HM := Lib.hid hM
    have HR := Lib.hid (show R = M + 1 by rw [hR, hM])
    clear hM hR
    have cM0 : ∀ z : Wb U, z.at.cell? ⟨M, 0, none⟩ = some (.pointer p) := fun z => (rM z).cell 0
    have cM1 : ∀ z : Wb U, z.at.cell? ⟨M, 1, none⟩ = some (.int .i64 n) := fun z => (rM z).cell 1
    have fM : ∀ (z : Wb U) (i : Nat), z.at.frozen? ⟨M, i, none⟩ = false := fun z i => (rM z).free i
    have cR0 : ∀ z : Wb U, z.at.cell? ⟨R, 0, none⟩ = some (.pointer none) := fun z => (rR z).cell 0
    have cR1 : ∀ z : Wb U, z.at.cell? ⟨R, 1, none⟩ = some (.int .i64 0) := fun z => (rR z).cell 1
    have fR : ∀ (z : Wb U) (i : Nat), z.at.frozen? ⟨R, i, none⟩ = false := fun z i => (rR z).free i
    go_wp2_with fail
    refine (show Calls _ _ _ _ _ from HC.out ▸ check_any a z.at a0 a1).mono ?_
    rintro e w2 ⟨rfl, rfl⟩
    have bz : Below w.heap.size w z.at := bU.trans (z.bel.mono bU.size)
    have wR : w.heap.size ≤ R := by have := HR.out; have := HM.out; omega
    go_wp2
    refine bodyPost_ret (v := .tuple #[.agg #[.pointer p, .int .i64 n], .int .i64 C]) (by simp [results, Try.results28, go_sem, *]) rfl ⟨_, _, by rw [EW.out], KB.put (KB.put bz wR 0 _) wR 1 _, ?_⟩
    rw [EW.out]
    exact ((h.below bz).set (rR z) (by simp) 0 _).set ((rR z).set 0 _) (by simp) 1 _
end Go.Proofs.Ytnpgpbcpgniloaa
