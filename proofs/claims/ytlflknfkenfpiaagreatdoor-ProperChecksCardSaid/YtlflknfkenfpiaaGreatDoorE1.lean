/-
  Texts of one claim, merged.
-/
import Derived.Test.YtlflknfkenfpiaaGreatDoorB1
import Derived.Test.YtlflknfkenfpiaaGreatDoorE0
import Derived.Test.YtlflknfkenfpiaaGreatDoorB7
set_option linter.unusedSimpArgs false
set_option linter.unusedVariables false
namespace GrN
open Go
structure K where
  regs : Nat
  space : Int
  tab : Int
  code : List GrI.I
  hand : List GrI.I
def baseB (a : Int) : Bool := a % 4096 == 0
def plc (L : List Int) (n : Nat) : Int := L.getD n 0
def firstF (f : Nat → Int) (n : Nat) : Option (Nat × Int) := ((List.range n).find? fun i => decide (f i ≠ 0)).map fun i => (i, f i)
theorem first_none {f : Nat → Int} {n : Nat} (h : ∀ j, j < n → f j = 0) : firstF f n = none := by
  unfold firstF
  rw [List.find?_eq_none.2 fun x hx => by simpa using h x (List.mem_range.1 hx)]
  rfl
theorem first_some {f : Nat → Int} {n i : Nat} (hi : i < n) (h : ∀ j, j < i → f j = 0) (h2 : f i ≠ 0) : firstF f n = some (i, f i) := by
  unfold firstF
  have : (List.range n).find? (fun i => decide (f i ≠ 0)) = some i := by
    rw [List.find?_range_eq_some]
    exact ⟨by simpa using h2, by simpa using hi, fun j hj => by simpa using h j hj⟩
  rw [this]
  rfl
def ans (o : Option (Nat × Int)) (pl : List Int) : Int × Int := match o with
  | none => (0, 0)
  | some (i, c) => (c, plc pl i)
end GrN
namespace Go.Proofs.YtlflknfkenfpiaaGreatDoor
open Go.RowKit GrN
def NAt (k : IntKind) (W : World) (p : Option Addr) (L : List Int) : Prop := ∀ j (h : j < L.length), ∃ a, p = some a ∧ W.cell? (a.add j) = some (.int k (L[j]'h))
theorem NAt.below {k : IntKind} {W U : World} {p : Option Addr} {L : List Int} (h : NAt k W p L) (b : Below W.heap.size W U) : NAt k U p L := fun j hj => by
  obtain ⟨a, e, c⟩ := h j hj
  exact ⟨a, e, keep_below b _ _ c⟩
set_option maxRecDepth 100000 in
set_option maxHeartbeats 1600000 in
theorem place_any (L : List Int) (p : Option Addr) (n c : Nat) (i : Nat) (w : World) (hn : n = L.length) (hl : NAt .i64 w p L) (hm : n ≤ maxLen) :
    Calls Tryz.prog 15 #[.slice p n c, .int .i64 (i : Int)] w fun e w' => e = .returned (.int .i64 (plc L i)) ∧ w = w' := by
  have m9 : (n : Int) ≤ 9223372036854775807 := by unfold maxLen at hm; omega
  have i0 : (0 : Int) ≤ (i : Int) := by omega
  have i1 : ¬ (i : Int) < 0 := by omega
  have m0 : (0 : Int) ≤ (n : Int) := by omega
  by_cases h : i < n
  · have hil : i < L.length := by omega
    obtain ⟨a, rfl, hc⟩ := hl i hil
    have E := Lib.hid (show plc L i = L[i]'hil by simp [plc, hil])
    obtain ⟨v, hv⟩ : ∃ v, v = L[i]'hil := ⟨_, rfl⟩
    rw [← hv] at hc E
    have g1 : (i : Int) < (n : Int) := by omega
    have g2 : ¬ (n : Int) ≤ (i : Int) := by omega
    clear hv hn hl hm h hil
    go_enter Tryz.func15, Tryz.ntmps15
    go_wp2
    go_ret
    exact ⟨by rw [E.out]; rfl, rfl⟩
  · have E := Lib.hid (show plc L i = 0 by simp [plc, show L.length ≤ i by omega])
    have g2 : (n : Int) ≤ (i : Int) := by omega
    clear hn hl hm h
    go_enter Tryz.func15, Tryz.ntmps15
    go_wp2
    go_ret
    exact ⟨by rw [E.out]; rfl, rfl⟩
set_option maxRecDepth 100000 in
set_option maxHeartbeats 1600000 in
theorem at_any (L : List Int) (p : Option Addr) (n c : Nat) (i : Nat) (w : World) (hn : n = L.length) (hl : NAt .i64 w p L) (hm : n ≤ maxLen) :
    Calls Tryz.prog 18 #[.slice p n c, .int .i64 (i : Int)] w fun e w' => e = .returned (.int .i64 (plc L i)) ∧ w = w' := by
  have m9 : (n : Int) ≤ 9223372036854775807 := by unfold maxLen at hm; omega
  have i0 : (0 : Int) ≤ (i : Int) := by omega
  have i1 : ¬ (i : Int) < 0 := by omega
  have m0 : (0 : Int) ≤ (n : Int) := by omega
  by_cases h : i < n
  · have hil : i < L.length := by omega
    obtain ⟨a, rfl, hc⟩ := hl i hil
    have E := Lib.hid (show plc L i = L[i]'hil by simp [plc, hil])
    obtain ⟨v, hv⟩ : ∃ v, v = L[i]'hil := ⟨_, rfl⟩
    rw [← hv] at hc E
    have g1 : (i : Int) < (n : Int) := by omega
    clear hv hn hl hm h hil
    go_enter Tryz.func18, Tryz.ntmps18
    go_wp2
    go_ret
    exact ⟨by rw [E.out]; rfl, rfl⟩
  · have E := Lib.hid (show plc L i = 0 by simp [plc, show L.length ≤ i by omega])
    have g2 : ¬ (i : Int) < (n : Int) := by omega
    clear hn hl hm h
    go_enter Tryz.func18, Tryz.ntmps18
    go_wp2
    go_ret
    exact ⟨by rw [E.out]; rfl, rfl⟩
def pbV (x : Int × Int) : Value := .agg #[.int .i64 x.1, .int .i64 x.2]
def pbS (e at_ : Int) : Int × Int := if e = 0 then (0, 0) else (e, at_)
set_option maxRecDepth 100000 in
set_option maxHeartbeats 1600000 in
theorem problem_any (e a : Int) (w : World) :
    Calls Tryz.prog 14 #[.int .i64 e, .int .i64 a] w fun x w' => x = .returned (pbV (pbS e a)) ∧ Below w.heap.size w w' := by
  cases c : decide (e = 0) with
  | true =>
    have e0 : e = 0 := of_decide_eq_true c
    subst e0
    clear c
    go_enter Tryz.func14, Tryz.ntmps14
    go_wp2
    refine bodyPost_ret (v := pbV (pbS 0 a)) (by simp [results, Tryz.results14, go_sem, pbV, pbS, *]) rfl ⟨rfl, ?_⟩
    exact KB.alloc (Below.refl w.heap.size w) _
  | false =>
    have e0 : ¬ e = 0 := of_decide_eq_false c
    have E := Lib.hid (show pbS e a = (e, a) by simp [pbS, e0])
    clear c
    go_enter Tryz.func14, Tryz.ntmps14
    go_wp2
    refine bodyPost_ret (v := .agg #[.int .i64 e, .int .i64 a]) (by simp [results, Tryz.results14, go_sem, *]) rfl ⟨by rw [E.out]; rfl, ?_⟩
    exact KB.alloc (Below.refl w.heap.size w) _
theorem problem_at (e a : Int) (h : e ≠ 0) (U : World) : Calls Tryz.prog 14 #[.int .i64 e, .int .i64 a] U fun x w' => x = .returned (.agg #[.int .i64 e, .int .i64 a]) ∧ Below U.heap.size U w' :=
  (show pbV (pbS e a) = .agg #[.int .i64 e, .int .i64 a] by simp [pbV, pbS, h]) ▸ problem_any e a U
set_option maxHeartbeats 1600000 in
theorem base_any (a : Int) (w : World) (h0 : 0 ≤ a) (h1 : a < 18446744073709551616) :
    Calls Tryz.prog 30 #[.int .u64 a] w fun x w' => x = .returned (.bool (baseB a)) ∧ w = w' := by
  have E := Lib.hid (show Int.tmod a 4096 = a % 4096 by rw [Int.tmod_eq_emod_of_nonneg h0])
  cases c : baseB a with
  | true =>
    have e1 : Int.tmod a 4096 = 0 := by rw [E.out]; simpa [baseB] using c
    have e2 : a % 4096 = 0 := by rw [← E.out]; exact e1
    clear c
    go_enter Tryz.func30, Tryz.ntmps30
    go_wp2
    go_ret
    exact ⟨by simp [*], rfl⟩
  | false =>
    have e1 : ¬ Int.tmod a 4096 = 0 := by rw [E.out]; simpa [baseB] using c
    have e2 : ¬ a % 4096 = 0 := by rw [← E.out]; exact e1
    clear c
    go_enter Tryz.func30, Tryz.ntmps30
    go_wp2
    go_ret
    exact ⟨by simp [*], rfl⟩
end Go.Proofs.YtlflknfkenfpiaaGreatDoor
namespace GrN
def loadB (op : Int) : Bool := decide (op ∈ [(2 : Int), 4])
def storeB (op : Int) : Bool := decide (op ∈ [(3 : Int), 5])
def branchB (op : Int) : Bool := decide (op ∈ [(15 : Int), 16, 17])
def instrS (r : Bool) (op imm left : Int) (h : Bool) : Int :=
  if r = false then 30 else if op = 22 ∧ h = false then 30 else if op = 14 ∨ branchB op = true then (if imm < 1 then 134 else if left < imm then 1 else 0) else 0
def eventsS (x : GrI.I) (cores : Int) : Int := if (loadB x.op || storeB x.op) = true then 3 else if x.op = 21 then (if x.kind < 4 then 1 + cores else 2) else 0
end GrN
namespace Go.Proofs.YtlflknfkenfpiaaGreatDoor
open Go.RowKit GrN
theorem ret_bb {a b : Bool} (h : a = b) : Ending.returned (.bool a) = .returned (.bool b) := by rw [h]
def IAt (w : World) (b : Nat) (zs : List Int) : Prop := ∀ j, j < zs.length → w.cell? ⟨b, j, none⟩ = some (.int .i64 (zs.getD j 0))
theorem IAt.keep {w w' : World} {b : Nat} {zs : List Int} (h : IAt w b zs) (k : Below w.heap.size w w') : IAt w' b zs := fun j hj => (k.cell (p := ⟨b, j, none⟩) (World.block_lt_of_cell? w _ (h j hj))).trans (h j hj)
theorem contains_take (zs : List Int) (op : Int) (k : Nat) (h : k < zs.length) (hn : ∀ j, j < k → zs.getD j 0 ≠ op) : (zs.getD k 0 ≠ op → ∀ j, j < k + 1 → zs.getD j 0 ≠ op) := fun h1 j hj => by
  by_cases e : j = k
  · rw [e]; exact h1
  · exact hn j (by omega)
set_option maxHeartbeats 1600000 in
theorem is_any (op : Int) (b cap : Nat) (zs : List Int) (w : World) (hl : zs.length ≤ 100) (hz : IAt w b zs) :
    Calls Tryz.prog 61 #[.int .i64 op, .slice (some ⟨b, 0, none⟩) zs.length cap] w fun e w' => e = .returned (.bool (decide (op ∈ zs))) ∧ w = w' := by
  have HZ := Lib.hid hz
  clear hz
  go_enter Tryz.func61, Tryz.ntmps61
  go_wp2
  go_loop [5] (fun i => ∃ k : Nat, k ≤ zs.length ∧ i = .int .i64 k ∧ ∀ j, j < k → zs.getD j 0 ≠ op) (fun i => zs.length - (intOf i).toNat)
  case atStart => exact ⟨0, by omega, rfl, fun j hj => absurd hj (by omega)⟩
  case round =>
    obtain ⟨k, hk, rfl, hn⟩ := hrel
    have HN := Lib.hid hn
    clear hn
    by_cases c : k < zs.length
    · have hc := HZ.out k c
      have hg : zs.getD k 0 = zs[k] := by rw [List.getD_eq_getElem?_getD, List.getElem?_eq_getElem c]; rfl
      have HM := Lib.hid (show zs.getD k 0 ∈ zs by rw [hg]; exact List.getElem_mem c)
      clear hg
      obtain ⟨z, hzz⟩ : ∃ z, z = zs.getD k 0 := ⟨_, rfl⟩
      rw [← hzz] at hc HM
      have HE := Lib.hid hzz
      clear hzz
      by_cases e : z = op
      · subst e
        have R := Lib.hid (show decide (z ∈ zs) = true by simpa using HM.out)
        go_wp2
        go_ret
        exact ⟨ret_bb R.out.symm, rfl⟩
      · have eb : (z == op) = false := by simpa using e
        have NE := Lib.hid e
        clear e
        go_wp2
        go_round
        case rel => exact ⟨k + 1, by omega, by go_num, contains_take zs op k c HN.out (by rw [← HE.out]; exact NE.out)⟩
        case measure => simp [intOf]; omega
    · have R := Lib.hid (show decide (op ∈ zs) = false by
        simp only [decide_eq_false_iff_not]
        intro hm
        obtain ⟨j, hj, e⟩ := List.getElem_of_mem hm
        exact HN.out j (by omega) (by rw [List.getD_eq_getElem?_getD, List.getElem?_eq_getElem hj]; exact e))
      go_wp2
      go_ret
      exact ⟨ret_bb R.out.symm, rfl⟩
theorem ibox6 (w : World) (op d n m imm kind : Int) (W : World) (hW : W = w.alloc (.cells #[.int .i64 op, .int .i64 d, .int .i64 n, .int .i64 m, .int .i64 imm, .int .i64 kind] 84)) :
    (∀ x : Wb W, x.at.cell? ⟨w.heap.size, 0, none⟩ = some (.int .i64 op)) ∧ (∀ x : Wb W, x.at.cell? ⟨w.heap.size, 1, none⟩ = some (.int .i64 d)) ∧ (∀ x : Wb W, x.at.cell? ⟨w.heap.size, 2, none⟩ = some (.int .i64 n)) ∧
    (∀ x : Wb W, x.at.cell? ⟨w.heap.size, 3, none⟩ = some (.int .i64 m)) ∧ (∀ x : Wb W, x.at.cell? ⟨w.heap.size, 4, none⟩ = some (.int .i64 imm)) ∧ (∀ x : Wb W, x.at.cell? ⟨w.heap.size, 5, none⟩ = some (.int .i64 kind)) ∧ (∀ x : Wb W, Below w.heap.size w x.at) := by
  subst hW
  refine ⟨fun x => ?_, fun x => ?_, fun x => ?_, fun x => ?_, fun x => ?_, fun x => ?_, fun x => ?_⟩
  case refine_7 => exact ((Below.refl _ _).alloc (Nat.le_refl _) _).trans (x.bel.mono (by simp))
  all_goals
    rw [x.cell _ (by simp)]
    simp [World.cell?_alloc_new]
theorem Wb.next1 {W w2 : World} {x : Wb W} {o : Obj} (h : Below (x.at.alloc o).heap.size (x.at.alloc o) w2) : ∃ y : Wb W, w2 = y.at :=
  Wb.next (x := x) (((Below.refl _ _).alloc (Nat.le_refl _) o).trans (h.mono (by simp)))
theorem iat_new (w : World) (zs : List Int) (T : TypeId) : IAt (w.alloc (.cells (zs.map (Value.int .i64)).toArray T)) w.heap.size zs := fun j hj => by
  rw [World.cell?_alloc_new, List.getElem?_toArray, List.getElem?_map, List.getElem?_eq_getElem hj, List.getD_eq_getElem?_getD, List.getElem?_eq_getElem hj]
  rfl
theorem is_below (op : Int) (b cap : Nat) (zs : List Int) (w : World) (hl : zs.length ≤ 100) (hz : IAt w b zs) :
    Calls Tryz.prog 61 #[.int .i64 op, .slice (some ⟨b, 0, none⟩) zs.length cap] w fun e w' => e = .returned (.bool (decide (op ∈ zs))) ∧ Below w.heap.size w w' :=
  Calls.same_below (is_any op b cap zs w hl hz) (Below.refl _ _)
set_option maxHeartbeats 800000 in
theorem pload_any (op d n m imm kind : Int) (w : World) : Calls Tryz.prog 41 #[.agg #[.int .i64 op, .int .i64 d, .int .i64 n, .int .i64 m, .int .i64 imm, .int .i64 kind]] w fun e w' => e = .returned (.bool (GrN.loadB op)) ∧ Below w.heap.size w w' := by
  obtain ⟨a0, a1, a2, a3, a4, a5, kb⟩ := ibox6 w op d n m imm kind _ rfl
  have KB := Lib.hid kb
  clear kb
  go_enter Tryz.func41, Tryz.ntmps41
  go_upto_region 1 with fail
  obtain ⟨x0, hx0⟩ : ∃ x : Wb (w.alloc (.cells #[.int .i64 op, .int .i64 d, .int .i64 n, .int .i64 m, .int .i64 imm, .int .i64 kind] 84)), w.alloc (.cells #[.int .i64 op, .int .i64 d, .int .i64 n, .int .i64 m, .int .i64 imm, .int .i64 kind] 84) = x.at := ⟨⟨_, Below.refl _ _⟩, rfl⟩
  rw [hx0]
  clear hx0
  go_wp2_with fail
  refine (is_below op _ 2 [2, 4] _ (by decide) (iat_new _ _ _)).mono ?_
  rintro e w1 ⟨rfl, b⟩
  obtain ⟨x1, rfl⟩ := Wb.next1 b
  clear b
  go_wp2
  go_ret
  exact ⟨ret_bb (by simp [GrN.loadB]), KB.out x1⟩
set_option maxHeartbeats 800000 in
theorem load_any (op d n m imm kind : Int) (w : World) : Calls Tryz.prog 59 #[.agg #[.int .i64 op, .int .i64 d, .int .i64 n, .int .i64 m, .int .i64 imm, .int .i64 kind]] w fun e w' => e = .returned (.bool (GrN.loadB op)) ∧ Below w.heap.size w w' := by
  by_cases e2 : op = 2
  · subst e2
    go_enter Tryz.func59, Tryz.ntmps59
    go_wp2
    go_ret
    exact ⟨rfl, (Below.refl _ _).alloc (Nat.le_refl _) _⟩
  by_cases e4 : op = 4
  · subst e4
    go_enter Tryz.func59, Tryz.ntmps59
    go_wp2
    go_ret
    exact ⟨rfl, (Below.refl _ _).alloc (Nat.le_refl _) _⟩
  have E := Lib.hid (show GrN.loadB op = false by simp [GrN.loadB]; omega)
  have q2 : (op == 2) = false := by simpa using e2
  have q4 : (op == 4) = false := by simpa using e4
  clear e2 e4
  go_enter Tryz.func59, Tryz.ntmps59
  go_wp2
  go_ret
  exact ⟨ret_bb (by rw [E.out]), (Below.refl _ _).alloc (Nat.le_refl _) _⟩
set_option maxHeartbeats 800000 in
theorem pstore_any (op d n m imm kind : Int) (w : World) : Calls Tryz.prog 42 #[.agg #[.int .i64 op, .int .i64 d, .int .i64 n, .int .i64 m, .int .i64 imm, .int .i64 kind]] w fun e w' => e = .returned (.bool (GrN.storeB op)) ∧ Below w.heap.size w w' := by
  obtain ⟨a0, a1, a2, a3, a4, a5, kb⟩ := ibox6 w op d n m imm kind _ rfl
  have KB := Lib.hid kb
  clear kb
  go_enter Tryz.func42, Tryz.ntmps42
  go_upto_region 1 with fail
  obtain ⟨x0, hx0⟩ : ∃ x : Wb (w.alloc (.cells #[.int .i64 op, .int .i64 d, .int .i64 n, .int .i64 m, .int .i64 imm, .int .i64 kind] 84)), w.alloc (.cells #[.int .i64 op, .int .i64 d, .int .i64 n, .int .i64 m, .int .i64 imm, .int .i64 kind] 84) = x.at := ⟨⟨_, Below.refl _ _⟩, rfl⟩
  rw [hx0]
  clear hx0
  go_wp2_with fail
  refine (is_below op _ 2 [3, 5] _ (by decide) (iat_new _ _ _)).mono ?_
  rintro e w1 ⟨rfl, b⟩
  obtain ⟨x1, rfl⟩ := Wb.next1 b
  clear b
  go_wp2
  go_ret
  exact ⟨ret_bb (by simp [GrN.storeB]), KB.out x1⟩
set_option maxHeartbeats 800000 in
theorem store_any (op d n m imm kind : Int) (w : World) : Calls Tryz.prog 60 #[.agg #[.int .i64 op, .int .i64 d, .int .i64 n, .int .i64 m, .int .i64 imm, .int .i64 kind]] w fun e w' => e = .returned (.bool (GrN.storeB op)) ∧ Below w.heap.size w w' := by
  by_cases e3 : op = 3
  · subst e3
    go_enter Tryz.func60, Tryz.ntmps60
    go_wp2
    go_ret
    exact ⟨rfl, (Below.refl _ _).alloc (Nat.le_refl _) _⟩
  by_cases e5 : op = 5
  · subst e5
    go_enter Tryz.func60, Tryz.ntmps60
    go_wp2
    go_ret
    exact ⟨rfl, (Below.refl _ _).alloc (Nat.le_refl _) _⟩
  have E := Lib.hid (show GrN.storeB op = false by simp [GrN.storeB]; omega)
  have q3 : (op == 3) = false := by simpa using e3
  have q5 : (op == 5) = false := by simpa using e5
  clear e3 e5
  go_enter Tryz.func60, Tryz.ntmps60
  go_wp2
  go_ret
  exact ⟨ret_bb (by rw [E.out]), (Below.refl _ _).alloc (Nat.le_refl _) _⟩
set_option maxHeartbeats 800000 in
theorem pbranch_any (op d n m imm kind : Int) (w : World) : Calls Tryz.prog 58 #[.agg #[.int .i64 op, .int .i64 d, .int .i64 n, .int .i64 m, .int .i64 imm, .int .i64 kind]] w fun e w' => e = .returned (.bool (GrN.branchB op)) ∧ Below w.heap.size w w' := by
  obtain ⟨a0, a1, a2, a3, a4, a5, kb⟩ := ibox6 w op d n m imm kind _ rfl
  have KB := Lib.hid kb
  clear kb
  go_enter Tryz.func58, Tryz.ntmps58
  go_upto_region 1 with fail
  obtain ⟨x0, hx0⟩ : ∃ x : Wb (w.alloc (.cells #[.int .i64 op, .int .i64 d, .int .i64 n, .int .i64 m, .int .i64 imm, .int .i64 kind] 84)), w.alloc (.cells #[.int .i64 op, .int .i64 d, .int .i64 n, .int .i64 m, .int .i64 imm, .int .i64 kind] 84) = x.at := ⟨⟨_, Below.refl _ _⟩, rfl⟩
  rw [hx0]
  clear hx0
  go_wp2_with fail
  refine (is_below op _ 3 [15, 16, 17] _ (by decide) (iat_new _ _ _)).mono ?_
  rintro e w1 ⟨rfl, b⟩
  obtain ⟨x1, rfl⟩ := Wb.next1 b
  clear b
  go_wp2
  go_ret
  exact ⟨ret_bb (by simp [GrN.branchB]), KB.out x1⟩
set_option maxHeartbeats 800000 in
theorem branch_any (op d n m imm kind : Int) (w : World) : Calls Tryz.prog 87 #[.agg #[.int .i64 op, .int .i64 d, .int .i64 n, .int .i64 m, .int .i64 imm, .int .i64 kind]] w fun e w' => e = .returned (.bool (GrN.branchB op)) ∧ Below w.heap.size w w' := by
  by_cases e15 : op = 15
  · subst e15
    go_enter Tryz.func87, Tryz.ntmps87
    go_wp2
    go_ret
    exact ⟨rfl, (Below.refl _ _).alloc (Nat.le_refl _) _⟩
  by_cases e16 : op = 16
  · subst e16
    go_enter Tryz.func87, Tryz.ntmps87
    go_wp2
    go_ret
    exact ⟨rfl, (Below.refl _ _).alloc (Nat.le_refl _) _⟩
  by_cases e17 : op = 17
  · subst e17
    go_enter Tryz.func87, Tryz.ntmps87
    go_wp2
    go_ret
    exact ⟨rfl, (Below.refl _ _).alloc (Nat.le_refl _) _⟩
  have E := Lib.hid (show GrN.branchB op = false by simp [GrN.branchB]; omega)
  have q15 : (op == 15) = false := by simpa using e15
  have q16 : (op == 16) = false := by simpa using e16
  have q17 : (op == 17) = false := by simpa using e17
  clear e15 e16 e17
  go_enter Tryz.func87, Tryz.ntmps87
  go_wp2
  go_ret
  exact ⟨ret_bb (by rw [E.out]), (Below.refl _ _).alloc (Nat.le_refl _) _⟩
set_option maxHeartbeats 800000 in
theorem access_any (op d n m imm kind : Int) (w : World) : Calls Tryz.prog 40 #[.agg #[.int .i64 op, .int .i64 d, .int .i64 n, .int .i64 m, .int .i64 imm, .int .i64 kind]] w fun e w' => e = .returned (.bool (GrN.loadB op || GrN.storeB op)) ∧ Below w.heap.size w w' := by
  obtain ⟨a0, a1, a2, a3, a4, a5, kb⟩ := ibox6 w op d n m imm kind _ rfl
  have KB := Lib.hid kb
  clear kb
  have LA := Lib.hid (fun w => load_any op d n m imm kind w)
  have SA := Lib.hid (fun w => store_any op d n m imm kind w)
  cases c : GrN.loadB op with
  | true =>
    go_enter Tryz.func40, Tryz.ntmps40
    go_upto_region 1 with fail
    obtain ⟨x0, hx0⟩ : ∃ x : Wb (w.alloc (.cells #[.int .i64 op, .int .i64 d, .int .i64 n, .int .i64 m, .int .i64 imm, .int .i64 kind] 84)), w.alloc (.cells #[.int .i64 op, .int .i64 d, .int .i64 n, .int .i64 m, .int .i64 imm, .int .i64 kind] 84) = x.at := ⟨⟨_, Below.refl _ _⟩, rfl⟩
    rw [hx0]
    clear hx0
    go_wp2_with fail
    refine (LA.out _).mono ?_
    rintro e w1 ⟨rfl, b⟩
    obtain ⟨x1, rfl⟩ := Wb.next b
    clear b
    go_wp2
    go_ret
    exact ⟨rfl, KB.out x1⟩
  | false =>
    go_enter Tryz.func40, Tryz.ntmps40
    go_upto_region 1 with fail
    obtain ⟨x0, hx0⟩ : ∃ x : Wb (w.alloc (.cells #[.int .i64 op, .int .i64 d, .int .i64 n, .int .i64 m, .int .i64 imm, .int .i64 kind] 84)), w.alloc (.cells #[.int .i64 op, .int .i64 d, .int .i64 n, .int .i64 m, .int .i64 imm, .int .i64 kind] 84) = x.at := ⟨⟨_, Below.refl _ _⟩, rfl⟩
    rw [hx0]
    clear hx0
    go_wp2_with fail
    refine (LA.out _).mono ?_
    rintro e w1 ⟨rfl, b⟩
    obtain ⟨x1, rfl⟩ := Wb.next b
    clear b
    go_wp2_with fail
    refine (SA.out _).mono ?_
    rintro e w1 ⟨rfl, b⟩
    obtain ⟨x2, rfl⟩ := Wb.next b
    clear b
    go_wp2
    go_ret
    exact ⟨rfl, KB.out x2⟩
end Go.Proofs.YtlflknfkenfpiaaGreatDoor
